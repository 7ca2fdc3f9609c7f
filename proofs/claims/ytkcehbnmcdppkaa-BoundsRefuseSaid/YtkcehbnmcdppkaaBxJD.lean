/- Lemmas and contracts for the proof that the last text of this claim holds. -/
import Derived.Test.YtkcehbnmcdppkaaBxJC
import Derived.Laws.Bits64b
import Derived.IntWalk
import Derived.StillTailTactics
import Derived.Deep.AppendLies
import Derived.Deep.RegionLaw
import Derived.Deep.RegionHeld3

/- A single with its sign turned; magnitudes of quotients by what is at least 1. -/
namespace Go.Proofs.Ytkcehbnmcdppkaa.Fl
open Ieee

theorem xor_add {r : Nat} (h : r < 2147483648) : r ^^^ 2147483648 = r + 2147483648 := by
  have e : 2 ^ 31 * 1 + r = 2 ^ 31 * 1 ||| r := Nat.two_pow_add_eq_or_of_lt h 1
  have e' : r + 2147483648 = 2147483648 ||| r := by
    rw [Nat.add_comm]; simpa using e
  rw [e']
  apply Nat.eq_of_testBit_eq
  intro i
  rw [Nat.testBit_xor, Nat.testBit_or]
  have t : (2147483648 : Nat) = 2 ^ 31 := by decide
  rw [t, Nat.testBit_two_pow]
  by_cases c : 31 = i
  · subst c
    have : r.testBit 31 = false := Nat.testBit_lt_two_pow (by rw [← t]; exact h)
    rw [this]; simp
  · simp [c]

theorem xor31 {b : Nat} (h : b < 4294967296) : b ^^^ 2147483648 = if b < 2147483648 then b + 2147483648 else b - 2147483648 := by
  split
  · rename_i c; exact xor_add c
  · rename_i c
    have e := xor_add (r := b - 2147483648) (by omega)
    have e2 : b = (b - 2147483648) ^^^ 2147483648 := by rw [e]; omega
    have e3 : b ^^^ 2147483648 = ((b - 2147483648) ^^^ 2147483648) ^^^ 2147483648 := congrArg (· ^^^ 2147483648) e2
    rw [e3, Nat.xor_assoc, Nat.xor_self, Nat.xor_zero]

theorem read_opp {b : Nat} (h : b < 4294967296) : single.read (b ^^^ 2147483648) = (single.read b).opposite := by
  rw [xor31 h]
  by_cases c : b < 2147483648
  · rw [if_pos c]
    have d1 : (b + 2147483648) / 2147483648 = 1 := by omega
    have d2 : (b + 2147483648) % 2147483648 = b := by omega
    have d3 : b / 2147483648 = 0 := by omega
    have d4 : b % 2147483648 = b := by omega
    unfold Format.read
    simp only [swS, d1, d2, d3, d4]
    repeat' split
    all_goals simp_all [Datum.opposite]
  · rw [if_neg c]
    have d1 : (b - 2147483648) / 2147483648 = 0 := by omega
    have d2 : (b - 2147483648) % 2147483648 = b - 2147483648 := by omega
    have d3 : b / 2147483648 = 1 := by omega
    have d4 : b % 2147483648 = b - 2147483648 := by omega
    unfold Format.read
    simp only [swS, d1, d2, d3, d4]
    repeat' split
    all_goals simp_all [Datum.opposite]

/-- A single, its sign turned. -/
def negW (b : Nat) : Nat := b ^^^ 2147483648
theorem neg_val {b : Nat} {a : Int} (h : b < 4294967296) (hv : vS b = some a) : vS (negW b) = some (-a) := by
  obtain ⟨s, m, p, e, rfl⟩ := vS_some hv
  have r : single.read (negW b) = .number (!s) m p := by unfold negW; rw [read_opp h, e]; rfl
  rw [vS_num r, vOf_opp]
theorem neg_bd {b k : Nat} (h : b < 4294967296) (hb : Bd k b) : Bd k (negW b) := by
  obtain ⟨s, m, p, e, l⟩ := hb
  exact ⟨!s, m, p, by unfold negW; rw [read_opp h, e]; rfl, l⟩
theorem negFloat_eq (b : Nat) : Go.Op.negFloat .f32 b = negW b := rfl
end Go.Proofs.Ytkcehbnmcdppkaa.Fl

/- The mean of four singles, and the magnitude of a difference, by values: neither passes what bounds them. -/
namespace Go.Proofs.Ytkcehbnmcdppkaa
open Go.RowKit Fl
set_option linter.unusedVariables false

/-- A single whose value is between -A and A. -/
def InV (A : Int) (x : Nat) : Prop := ∃ a, vS x = some a ∧ -A ≤ a ∧ a ≤ A
theorem val_le {x k : Nat} {a : Int} (h : vS x = some a) (hb : Bd k x) : a.natAbs ≤ 2 ^ (1074 + k) := by
  obtain ⟨a', h', q⟩ := val_bd hb
  rw [h] at h'
  cases h'
  exact q
theorem sum_lt {a b : Int} {n B : Nat} (ha : a.natAbs ≤ 2 ^ n) (hb : b.natAbs ≤ 2 ^ n) (h : n + 1 < B) : (a + b).natAbs < 2 ^ B := by
  have e : 2 ^ (n + 1) = 2 ^ n + 2 ^ n := by rw [Nat.pow_succ]; omega
  have l : 2 ^ (n + 1) < 2 ^ B := Nat.pow_lt_pow_right (by omega) h
  generalize 2 ^ (n + 1) = p at *
  generalize 2 ^ n = q at *
  generalize 2 ^ B = r at *
  omega
theorem rdS_four {x : Nat} {a : Int} (h : vS x = some a) : rdS (4 * a) = 4 * a := by
  obtain ⟨t, j, h1, h2, h3⟩ := vS_form h
  refine rdS_exact t (j + 2) h1 (by omega) ?_
  rw [h3, Nat.pow_add]
  generalize 2 ^ j = q
  rw [Int.natCast_mul, Int.mul_comm 4, Int.mul_assoc]
  rfl
theorem add_in {x y g k : Nat} {A : Int} (hx : InV A x) (hy : InV A y) (bx : Bd k x) (by' : Bd k y) (hk : k ≤ 100) (hA : rdS (2 * A) = 2 * A) : ∃ r, floatBits .add .f32 x y = some r ∧ Bd (k + 1) r ∧ InV (2 * A) r := by
  obtain ⟨a, ha, a1, a2⟩ := hx
  obtain ⟨b, hb, b1, b2⟩ := hy
  obtain ⟨r, e, br⟩ := same_ex (add_same (k := k) (by omega) bx by')
  obtain ⟨n, hn⟩ : ∃ n, n = 1074 + k := ⟨_, rfl⟩
  have l1 := val_le ha bx
  have l2 := val_le hb by'
  rw [← hn] at l1 l2
  have v := vS_add e ha hb (sum_lt l1 l2 (B := n + 2) (by omega)) (by omega)
  have m1 := rdS_mono (show a + b ≤ 2 * A by omega)
  have m2 := rdS_mono (show -(2 * A) ≤ a + b by omega)
  rw [rdS_neg, hA] at m2
  rw [hA] at m1
  exact ⟨r, e, br, _, v, m2, m1⟩
theorem sub_in {x y k : Nat} {A : Int} (hx : InV A x) (hy : InV A y) (bx : Bd k x) (by' : Bd k y) (hk : k ≤ 100) (hA : rdS (2 * A) = 2 * A) : ∃ r, floatBits .sub .f32 x y = some r ∧ Bd (k + 1) r ∧ InV (2 * A) r := by
  obtain ⟨a, ha, a1, a2⟩ := hx
  obtain ⟨b, hb, b1, b2⟩ := hy
  obtain ⟨r, e, br⟩ := same_ex (sub_same (k := k) (by omega) bx by')
  obtain ⟨n, hn⟩ : ∃ n, n = 1074 + k := ⟨_, rfl⟩
  have l1 := val_le ha bx
  have l2 := val_le hb by'
  rw [← hn] at l1 l2
  have v := vS_sub e ha hb (by rw [Int.sub_eq_add_neg]; exact sum_lt l1 (by rw [Int.natAbs_neg]; exact l2) (B := n + 2) (by omega)) (by omega)
  have m1 := rdS_mono (show a - b ≤ 2 * A by omega)
  have m2 := rdS_mono (show -(2 * A) ≤ a - b by omega)
  rw [rdS_neg, hA] at m2
  rw [hA] at m1
  exact ⟨r, e, br, _, v, m2, m1⟩
theorem quart_val {j : Nat} (hj : j = 1072) : vS 1048576000 = some ((2 ^ j : Nat) : Int) := by
  have r : Ieee.single.read 1048576000 = .number false 8388608 (-25) := by decide
  have := vS_lit (t := 1) (k := 23) (j := j) r (by decide) (by omega)
  simpa using this
theorem quart_bd : Bd 0 1048576000 := by
  obtain ⟨J, hJ⟩ : ∃ J : Nat, J = 1074 := ⟨_, rfl⟩
  exact bd_val' (j := J) (quart_val (j := J - 2) (by omega)) (by omega) (by rw [Int.natAbs_natCast]; exact Nat.pow_le_pow_right (by omega) (by omega))
/-- The mean of four singles does not pass what bounds them. -/
theorem mean_in {a b c d g : Nat} {A : Int} (hg : vS g = some A) (ha : InV A a) (hb : InV A b) (hc : InV A c) (hd : InV A d) (ba : Bd 20 a) (bb : Bd 20 b) (bc : Bd 20 c) (bd : Bd 20 d) :
    ∃ s1 s2 s3 m, MeanAt a b c d s1 s2 s3 m ∧ InV A m ∧ Bd 22 m := by
  obtain ⟨s1, e1, b1, v1⟩ := add_in (g := g) ha hb ba bb (by omega) (rdS_dbl hg)
  obtain ⟨s2, e2, b2, v2⟩ := add_in (g := g) hc hd bc bd (by omega) (rdS_dbl hg)
  have h4 : rdS (2 * (2 * A)) = 2 * (2 * A) := by
    have := rdS_four hg
    rwa [show 2 * (2 * A) = 4 * A by omega]
  obtain ⟨s3, e3, b3, v3⟩ := add_in (g := g) v1 v2 b1 b2 (by omega) h4
  have m1 : Same2 .mul (22 + 0) s3 1048576000 := mul_same (by omega) b3 quart_bd
  obtain ⟨m, e4, b4⟩ := same_ex m1
  obtain ⟨z, hz, z1, z2⟩ := v3
  obtain ⟨J, hJ⟩ : ∃ J : Nat, J = 1072 := ⟨_, rfl⟩
  have hq := quart_val hJ
  obtain ⟨q, hq4⟩ := mul_unit hz hq
  have ho : one = 4 * 2 ^ J := by rw [one_pow (j := J + 2) (by omega), Nat.pow_add]; omega
  have hp : 0 < 2 ^ J := Nat.two_pow_pos J
  have ez : z = 4 * q := by
    rw [ho] at hq4
    generalize 2 ^ J = p at hq4 hp
    have h1 : z * (p : Int) = (4 * q) * (p : Int) := by
      rw [hq4]
      simp only [Int.natCast_mul]
      rw [← Int.mul_assoc, Int.mul_comm q, Int.mul_assoc]
      show (4 : Int) * (q * (p : Int)) = 4 * q * (p : Int)
      rw [Int.mul_assoc]
    exact Int.eq_of_mul_eq_mul_right (by omega) h1
  obtain ⟨n, hn⟩ : ∃ n, n = 1074 + (20 + 1 + 1) := ⟨_, rfl⟩
  have l3 := val_le hz b3
  rw [← hn] at l3
  have vm := vS_mul (B := n + 1) e4 hz hq hq4 (by
    have : 2 ^ n < 2 ^ (n + 1) := Nat.pow_lt_pow_right (by omega) (by omega)
    generalize 2 ^ (n + 1) = r at *
    generalize 2 ^ n = r' at *
    omega) (by omega)
  have k1 := rdS_mono (show q ≤ A by omega)
  have k2 := rdS_mono (show -A ≤ q by omega)
  rw [rdS_neg, rdS_self hg] at k2
  rw [rdS_self hg] at k1
  exact ⟨s1, s2, s3, m, ⟨e1, e2, e3, e4⟩, ⟨_, vm, k2, k1⟩, b4⟩
end Go.Proofs.Ytkcehbnmcdppkaa

/- Whether one of four integers is odd, as the program asks it. -/
namespace Go.Proofs.Ytkcehbnmcdppkaa
open Go.RowKit

theorem par_toNat (a : Int) : ((BitVec.ofInt 64 a).toNat : Int) % 2 = a % 2 := by
  rw [BitVec.toNat_ofInt]
  omega
theorem par_wrap (n : Int) : (IntKind.i64.wrap n) % 2 = n % 2 := by
  rw [IntKind.wrap_i64]; omega
theorem bits_or_par (a b : Int) : (bits .or .i64 a b) % 2 = 0 ↔ (a % 2 = 0 ∧ b % 2 = 0) := by
  have h : bits .or .i64 a b = IntKind.i64.wrap ((BitVec.ofInt 64 a ||| BitVec.ofInt 64 b).toNat : Int) := rfl
  rw [h, par_wrap, BitVec.toNat_or]
  have p := par_toNat a
  have q := par_toNat b
  have r := @Nat.or_mod_two_eq_one (BitVec.ofInt 64 a).toNat (BitVec.ofInt 64 b).toNat
  omega
theorem bits_and_one (a : Int) : bits .and .i64 a 1 = a % 2 := by
  have h : bits .and .i64 a 1 = IntKind.i64.wrap ((BitVec.ofInt 64 a &&& BitVec.ofInt 64 1).toNat : Int) := rfl
  rw [h, BitVec.toNat_and]
  have p := par_toNat a
  have e : (BitVec.ofInt 64 1).toNat = 1 := by decide
  rw [e, Nat.and_one_is_mod, IntKind.wrap_i64]
  omega
/-- Whether one of four integers is odd. -/
theorem odd4 (a b c d : Int) : bits .and .i64 (bits .or .i64 (bits .or .i64 (bits .or .i64 a b) c) d) 1 = 0 ↔ (a % 2 = 0 ∧ b % 2 = 0 ∧ c % 2 = 0 ∧ d % 2 = 0) := by
  rw [bits_and_one, bits_or_par, bits_or_par, bits_or_par]
  omega
end Go.Proofs.Ytkcehbnmcdppkaa

/- Contracts: Down. -/
namespace Go.Proofs.Ytkcehbnmcdppkaa
open Go.RowKit Fl
set_option linter.unusedVariables false

/-- The first of the four cells below the cell number j of a half; the value there. -/
def dnI (W j : Nat) : Nat := (2 * (j / W)) * (2 * W) + 2 * (j % W)
def dnF (v : Nat → Nat) (W j : Nat) : Nat := meanW (v (dnI W j)) (v (dnI W j + 1)) (v (dnI W j + 2 * W)) (v (dnI W j + 2 * W + 1))
def DnAt (v : Nat → Nat) (W n : Nat) : Prop := ∀ j, j < n → ∃ s1 s2 s3, MeanAt (v (dnI W j)) (v (dnI W j + 1)) (v (dnI W j + 2 * W)) (v (dnI W j + 2 * W + 1)) s1 s2 s3 (dnF v W j)
theorem enters_dn1 : Enters 110 := by intro args W; simp [callFunc, Try.func110, Try.f110]

theorem dn_parts {X Y x y : Int} {W H j : Nat} (hW : 1 ≤ W) (h1 : X ≤ x) (h2 : x < X + W) (h3 : Y ≤ y) (h4 : y < Y + H) (hj : (j : Int) = (y - Y) * W + (x - X)) :
    ((dnI W j : Nat) : Int) = (2 * y - 2 * Y) * ((2 * W : Nat) : Int) + (2 * x - 2 * X) ∧ dnI W j + 2 * W + 1 < (2 * H) * (2 * W) ∧ j < H * W := by
  obtain ⟨a, ha⟩ : ∃ a : Nat, x - X = a := ⟨(x - X).toNat, by omega⟩
  obtain ⟨b, hb⟩ : ∃ b : Nat, y - Y = b := ⟨(y - Y).toNat, by omega⟩
  rw [ha, hb] at hj
  have ej : j = b * W + a := by
    have : ((b * W + a : Nat) : Int) = (b : Int) * W + a := by simp
    omega
  have aW : a < W := by omega
  have bH : b < H := by omega
  have d1 : j / W = b := by rw [ej, Nat.mul_comm, Nat.mul_add_div (by omega), Nat.div_eq_of_lt aW, Nat.add_zero]
  have d2 : j % W = a := by rw [ej, Nat.mul_comm, Nat.mul_add_mod]; exact Nat.mod_eq_of_lt aW
  have e : dnI W j = 2 * b * (2 * W) + 2 * a := by unfold dnI; rw [d1, d2]
  have m1 : (2 * b + 1) * (2 * W) ≤ (2 * H - 1) * (2 * W) := Nat.mul_le_mul_right _ (by omega)
  have m2 : (2 * b + 1) * (2 * W) = 2 * b * (2 * W) + 2 * W := by rw [Nat.add_mul, Nat.one_mul]
  have m3 : (2 * H - 1) * (2 * W) + 2 * W = (2 * H) * (2 * W) := by
    rw [show 2 * H = (2 * H - 1) + 1 by omega, Nat.add_mul, Nat.one_mul]
    simp
  have m4 : b * W + W ≤ H * W := by
    have := Nat.mul_le_mul_right W (show b + 1 ≤ H by omega)
    rwa [Nat.add_mul, Nat.one_mul] at this
  refine ⟨?_, by omega, by omega⟩
  rw [e, show 2 * y - 2 * Y = ((2 * b : Nat) : Int) by omega, show 2 * x - 2 * X = ((2 * a : Nat) : Int) by omega]
  simp

set_option maxHeartbeats 4000000 in
theorem dn1_any (X Y RX RY : Int) (W H RW RH n b off cap : Nat) (v : Nat → Nat) (p : Nat) (w : World) (hRX : RX = 2 * X) (hRY : RY = 2 * Y) (hRW : RW = 2 * W) (hRH : RH = 2 * H)
    (hp : w.heap[p]? = some (fldO RX RY RW RH (.slice (some ⟨b, off, none⟩) n cap))) (hr : FlAt w b off n v) (hM : DnAt v W (H * W))
    (hX1 : -4194304 ≤ X) (hX2 : X ≤ 4194304) (hY1 : -4194304 ≤ Y) (hY2 : Y ≤ 4194304) (hW1 : 1 ≤ W) (hW2 : W ≤ 256) (hH1 : 1 ≤ H) (hH2 : H ≤ 256) (hnn : n = RH * RW) (hn : n ≤ 65536) :
    Clos2 110 #[.pointer (some ⟨p, 0, none⟩)] X Y W H (dnF v W) w := by
  intro x y j w2 h1 h2 h3 h4 h5 hb
  obtain ⟨q1, q2, q3⟩ := dn_parts hW1 h1 h2 h3 h4 h5
  rw [← hRW] at q1 q2
  rw [← hRH, ← hnn] at q2
  obtain ⟨s1, s2, s3, MA⟩ := hM j q3
  have hn1 : 1 ≤ n := by rw [hnn]; exact Nat.mul_pos (by omega) (by omega)
  have hz : b < w.heap.size := World.block_lt_of_cell? w _ (hr 0 hn1)
  have HFl := flAt_congr hr (hb.block _ hz)
  have K := blkStay hp hb
  obtain ⟨i, hi⟩ : ∃ i, dnI W j = i := ⟨_, rfl⟩
  obtain ⟨m, hm⟩ : ∃ m, dnF v W j = m := ⟨_, rfl⟩
  rw [hi] at q1 q2 MA
  rw [hm, ← hRW] at MA
  show Calls _ _ _ _ fun e w' => e = .returned (.float .f32 (dnF v W j)) ∧ _
  rw [hm]
  have IX := Lib.hid (fun w => index_any RX RY RW RH i (2 * x) (2 * y) w (by omega) (by omega) (by omega) (by omega) (by omega) (by omega) (by omega) (by omega) (by omega) (by omega) (by omega) (by rw [hRX, hRY]; exact q1) (by omega))
  have zb2 : b < w2.heap.size := Nat.lt_of_lt_of_le hz hb.size
  have SQ := Lib.hid (fun W' (hB : Below w2.heap.size w2 W') => squareAt_any RX RY RW RH n b off cap v i W' (flAt_congr HFl (hB.block b zb2)) hn (by omega) (by omega))
  have MM := Lib.hid (fun w => mean_any _ _ _ _ _ _ _ _ MA w)
  have HF := Lib.hid K
  have u1 : IntKind.i64.wrap (2 * x) = 2 * x := IntWalk.i64_in _ (by omega)
  have u2 : IntKind.i64.wrap (2 * y) = 2 * y := IntWalk.i64_in _ (by omega)
  obtain ⟨cF, fF, zF⟩ := blkC K
  clear hp hr hM hb K HFl MA q1 q2 q3 hi hm hnn h5 hRX hRY hRW hRH h1 h2 h3 h4 hX1 hX2 hY1 hY2 hW1 hW2 hH1 hH2 hn hn1
  go_enter Try.func110, Try.ntmps110
  go_wp2
  go_region_held3 (fun w' => (∀ o, w'.cell? ⟨p, o, none⟩ = #[.int .i64 RX, .int .i64 RY, .int .i64 RW, .int .i64 RH, .slice (some ⟨b, off, none⟩) n cap][o]?) ∧ Below w2.heap.size w2 w') (first | exact ⟨(blkC (blkStay HF.out hb9)).1, hb9⟩ | exact ⟨(blkC (blkStay HF.out (by repeat (first | exact Below.refl _ _ | refine Below.alloc ?_ (by first | omega | (simp; done) | (simp; omega)) _ | refine Below.setCell ?_ (by first | omega | (simp; done) | (simp; omega)) _ | refine Below.drew ?_)))).1, (by repeat (first | exact Below.refl _ _ | refine Below.alloc ?_ (by first | omega | (simp; done) | (simp; omega)) _ | refine Below.setCell ?_ (by first | omega | (simp; done) | (simp; omega)) _ | refine Below.drew ?_))⟩) (first
    | (go_at_call 112; (with_reducible refine Calls.mono (IX.out _) ?_); rintro e w' ⟨rfl, rfl⟩)
    | (go_at_call 111; (with_reducible refine Calls.mono (SQ.out _ ?_) ?_); exact (by repeat (first | exact Below.refl _ _ | refine Below.alloc ?_ (by first | omega | (simp; done) | (simp; omega)) _ | refine Below.setCell ?_ (by first | omega | (simp; done) | (simp; omega)) _ | refine Below.drew ?_)); rintro e w' ⟨rfl, hb8⟩; have hb9 : Below w2.heap.size w2 w' := Below.trans (by repeat (first | exact Below.refl _ _ | refine Below.alloc ?_ (by first | omega | (simp; done) | (simp; omega)) _ | refine Below.setCell ?_ (by first | omega | (simp; done) | (simp; omega)) _ | refine Below.drew ?_)) (Below.mono hb8 (by first | exact Nat.le_refl _ | (simp; done) | (simp; omega))); clear hb8)
    | (go_at_call 113; (with_reducible refine Calls.mono (MM.out _) ?_); rintro e w' ⟨rfl, hb8⟩; have hb7 := hb9.trans (hb8.mono hb9.size); clear hb9 hb8; have hb9 := hb7; clear hb7))
  rename_i hHeld
  go_wp2
  go_ret
  exact ⟨rfl, hHeld.2⟩

set_option maxHeartbeats 4000000 in
theorem down_ok (X Y RX RY : Int) (W H RW RH n b off cap : Nat) (v : Nat → Nat) (w : World) (hRX : RX = 2 * X) (hRY : RY = 2 * Y) (hRW : RW = 2 * W) (hRH : RH = 2 * H) (h0 : checkR RX RY RW RH = 0) (hr : FlAt w b off n v) (hE : SlE w (some ⟨b, off, none⟩) n cap 0) (hM : DnAt v W (H * W)) (hnn : n = RH * RW) :
    Calls Try.prog 48 #[fldV RX RY RW RH (.slice (some ⟨b, off, none⟩) n cap)] w (MadePost w X Y W H (H * W) (dnF v W)) := by
  have CK := Lib.hid (fun W' (hB : Below w.heap.size w W') => checkA_any RX RY RW RH (some ⟨b, off, none⟩) n cap 0 W' (hE.stay hB).1)
  rw [show fldChk RX RY RW RH n 0 = 0 from by unfold fldChk; rw [if_neg (by rw [h0]; simp), if_neg (by rw [hnn, Nat.mul_comm]; simp)]] at CK
  obtain ⟨b1, b2, b3, b4, b5, b6, b7, b8, b9⟩ := checkR_zero h0
  have par : bits .and .i64 (bits .or .i64 (bits .or .i64 (bits .or .i64 RX RY) RW) RH) 1 = 0 := (odd4 _ _ _ _).2 ⟨by omega, by omega, by omega, by omega⟩
  have t1 : RX.tdiv 2 = X := by rw [hRX]; exact Int.mul_tdiv_cancel_left _ (by decide)
  have t2 : RY.tdiv 2 = Y := by rw [hRY]; exact Int.mul_tdiv_cancel_left _ (by decide)
  have t3 : (RW : Int) / 2 = (W : Int) := by omega
  have t4 : (RH : Int) / 2 = (H : Int) := by omega
  have t5 : IntKind.i64.wrap X = X := IntWalk.i64_in _ (by omega)
  have t6 : IntKind.i64.wrap Y = Y := IntWalk.i64_in _ (by omega)
  have hhalf : checkR X Y W H = 0 := by
    have q : (W : Int) * H ≤ 65536 := by
      have q1 : ((RW : Int) * RH) = 4 * ((W : Int) * H) := by
        rw [hRW, hRH, Int.natCast_mul, Int.natCast_mul, Int.mul_assoc, ← Int.mul_assoc (W : Int), Int.mul_comm (W : Int) ((2 : Nat) : Int), Int.mul_assoc, ← Int.mul_assoc]
        rfl
      have q2 : 0 ≤ (W : Int) * H := Int.mul_nonneg (by omega) (by omega)
      omega
    unfold checkR
    rw [if_neg (by omega), if_neg (by omega), if_neg (by omega)]
  have hn : n ≤ 65536 := by
    have : ((RW : Int) * (RH : Int)) = (n : Int) := by rw [hnn, Nat.mul_comm]; simp
    omega
  have hn1 : 1 ≤ n := by rw [hnn]; exact Nat.mul_pos (by omega) (by omega)
  have zb : b < w.heap.size := World.block_lt_of_cell? w _ (hr 0 hn1)
  have MK := Lib.hid (fun (W' : World) (hB : Below w.heap.size w W') (hk : W'.heap[w.heap.size]? = some (fldO RX RY RW RH (.slice (some ⟨b, off, none⟩) n cap))) => make_ok X Y W H (H * W) 110 #[.pointer (some ⟨w.heap.size, 0, none⟩)] (dnF v W) W' enters_dn1
    (dn1_any X Y RX RY W H RW RH n b off cap v w.heap.size W' hRX hRY hRW hRH hk (flAt_congr hr (hB.block b zb)) hM (by omega) (by omega) (by omega) (by omega) (by omega) (by omega) (by omega) (by omega) hnn hn) hhalf rfl)
  have HN := Lib.hid (And.intro b1 (And.intro b2 (And.intro b3 b4)))
  clear hRX hRY hRW hRH h0 hr hE hM hnn hhalf hn hn1 zb b5
  generalize H * W = k at *
  generalize dnF v W = f at *
  go_enter Try.func48, Try.ntmps48
  go_wp2_with (go_at_call 87; refine (CK.out _ (by repeat (first | exact Below.refl _ _ | refine Below.alloc ?_ (by first | omega | (simp; done) | (simp; omega)) _ | refine Below.setCell ?_ (by first | omega | (simp; done) | (simp; omega)) _ | refine Below.drew ?_))).mono ?_; rintro e w1 ⟨rfl, hb1⟩; have HF1 := Lib.hid (blkStay (b := w.heap.size) (o := fldO RX RY RW RH (.slice (some ⟨b, off, none⟩) n cap)) (by (first | (rw [heap_alloc_get, if_pos rfl]; done) | ((simp only [heap_alloc_get, heap_size_alloc, if_true]) <;> ((repeat' split) <;> first | rfl | omega)))) hb1); have HR1 := Lib.hid (blkStay (b := w.heap.size + 1) (o := fldO 0 0 0 0 (.slice none 0 0)) (by (first | (rw [heap_alloc_get, if_pos rfl]; done) | ((simp only [heap_alloc_get, heap_size_alloc, if_true]) <;> ((repeat' split) <;> first | rfl | omega)))) hb1); have B1 := Lib.hid (Below.trans (show Below w.heap.size w _ from (by repeat (first | exact Below.refl _ _ | refine Below.alloc ?_ (by first | omega | (simp; done) | (simp; omega)) _ | refine Below.setCell ?_ (by first | omega | (simp; done) | (simp; omega)) _ | refine Below.drew ?_))) (hb1.mono (by first | omega | (simp; done) | (simp; omega)))); clear hb1; obtain ⟨cF, fF, zF⟩ := blkC HF1.out)
  have hb2 : Below w1.heap.size w1 (w1.alloc (regObj X Y W H)) := (Below.refl _ _).alloc (Nat.le_refl _) _
  refine (MK.out _ (B1.out.trans (hb2.mono B1.out.size)) (blkStay HF1.out hb2)).mono ?_
  intro e w4 hmade
  have zR := (blkC HR1.out).2.2
  rcases hmade with ⟨hall, b', cap', rfl, hb', hlt', hrow, hbel⟩ | ⟨hall, rfl, hbel⟩
  · have hS := Lib.hid (blkStay (blkStay HR1.out hb2) hbel)
    have hB : Below w.heap.size w w4 := (B1.out.trans (hb2.mono B1.out.size)).trans (hbel.mono (B1.out.trans (hb2.mono B1.out.size)).size)
    obtain ⟨cS, fS, zS⟩ := blkC hS.out
    have HB := Lib.hid hb'
    have HL := Lib.hid hlt'
    have HRW := Lib.hid hrow
    have HAL := Lib.hid hall
    have zw := B1.out.size
    clear hb' hlt' hrow hall cF fF zF
    go_wp2
    refine bodyPost_ret (v := .tuple #[fldV X Y W H (.slice (some ⟨b', 0, none⟩) k cap'), .int .i64 0]) (by simp [results, Try.results48, go_sem, cS]) rfl ?_
    have hb' := HB.out
    simp only [heap_size_alloc] at hb'
    exact .inl ⟨HAL.out, b', cap', rfl, by omega, by rw [set5_size]; exact HL.out, flAt_congr HRW.out (set5_heap w4 _ _ _ _ _ _ _ (by omega)), set5_below hB _ _ _ _ _ _ (by omega)⟩
  · have hS := Lib.hid (blkStay (blkStay HR1.out hb2) hbel)
    have hB : Below w.heap.size w w4 := (B1.out.trans (hb2.mono B1.out.size)).trans (hbel.mono (B1.out.trans (hb2.mono B1.out.size)).size)
    obtain ⟨cS, fS, zS⟩ := blkC hS.out
    have HAL := Lib.hid hall
    clear hall cF fF zF
    go_wp2
    refine bodyPost_ret (v := .tuple #[fldV 0 0 0 0 (.slice none 0 0), .int .i64 3]) (by simp [results, Try.results48, go_sem, cS]) rfl ?_
    exact .inr ⟨HAL.out, rfl, set5_below hB _ _ _ _ _ _ (by omega)⟩
end Go.Proofs.Ytkcehbnmcdppkaa

/- Contract: levels, which each law of chapter 9 asks first. -/
namespace Go.Proofs.Ytkcehbnmcdppkaa
open Go.RowKit Fl
set_option linter.unusedVariables false

/-- The four singles 1, 3, 2, 2. -/
def lev4 (i : Nat) : Nat := match i with | 0 => 1065353216 | 1 => 1077936128 | _ => 1073741824
theorem lev_mean : MeanAt 1065353216 1077936128 1073741824 1073741824 1082130432 1082130432 1090519040 1073741824 :=
  ⟨by kernel_rfl, by kernel_rfl, by kernel_rfl, by kernel_rfl⟩
theorem lev_dn : DnAt lev4 1 (1 * 1) := fun j hj => by
  obtain rfl : j = 0 := by omega
  have e : dnF lev4 1 0 = 1073741824 := lev_mean.w
  rw [e]
  exact ⟨_, _, _, lev_mean⟩
abbrev lev4O : Obj := .cells #[.float .f32 1065353216, .float .f32 1077936128, .float .f32 1073741824, .float .f32 1073741824] 22
theorem lev_flAt {w : World} {p : Nat} (h : w.heap[p]? = some lev4O) : FlAt w p 0 4 lev4 := fun i hi => by
  rw [(blkC h).1]
  match i, hi with
  | 0, _ => rfl
  | 1, _ => rfl
  | 2, _ => rfl
  | 3, _ => rfl
theorem lev_hgt : allB 4 (fun i => hgtB (lev4 i)) = true := by kernel_rfl
theorem lev_down {w : World} {p cap : Nat} (h : w.heap[p]? = some lev4O) :
    Calls Try.prog 48 #[fldV 0 0 2 2 (.slice (some ⟨p, 0, none⟩) 4 cap)] w fun e w' => ∃ b' cap', e = .returned (.tuple #[fldV 0 0 1 1 (.slice (some ⟨b', 0, none⟩) 1 cap'), .int .i64 0]) ∧ w'.cell? ⟨b', 0, none⟩ = some (.float .f32 1073741824) ∧ b' < w'.heap.size ∧ Below w.heap.size w w' := by
  have hE : SlE w (some ⟨p, 0, none⟩) 4 cap 0 := by
    have := slE_row (cap := cap) (by omega) (by omega) (lev_flAt h)
    rwa [fldE_zero.2 lev_hgt] at this
  have D := down_ok 0 0 0 0 1 1 2 2 4 p 0 cap lev4 w rfl rfl rfl rfl (by decide) (lev_flAt h) hE lev_dn rfl
  refine Calls.mono D ?_
  intro e w' hm
  have e0 : dnF lev4 1 0 = 1073741824 := lev_mean.w
  rcases hm with ⟨_, b', cap', rfl, _, hlt, hrow, hb⟩ | ⟨hall, _, _⟩
  · refine ⟨b', cap', rfl, ?_, hlt, hb⟩
    have := hrow 0 (by omega)
    rw [e0] at this
    exact this
  · exfalso
    have : allB (1 * 1) (fun i => hgtB (dnF lev4 1 i)) = true := allB_iff.2 fun i hi => by
      obtain rfl : i = 0 := by omega
      rw [e0]
      kernel_rfl
    rw [this] at hall
    cases hall

set_option maxHeartbeats 2000000 in
theorem levels_any (w : World) : Calls Try.prog 43 #[] w fun e w' => e = .returned (.bool true) ∧ Below w.heap.size w w' := by
  have DN := Lib.hid (fun (p cap : Nat) (w : World) (h : w.heap[p]? = some lev4O) => lev_down (cap := cap) h)
  have fe : (FloatKind.f32.format.order 1073741824 1073741824 == some .eq) = true := by kernel_rfl
  go_enter Try.func43, Try.ntmps43
  go_wp2_with (go_at_call 48; refine Calls.mono (DN.out _ _ _ (by (first | (rw [heap_alloc_get, if_pos rfl]; done) | ((simp only [heap_alloc_get, heap_size_alloc, if_true]) <;> ((repeat' split) <;> first | rfl | omega))))) ?_; rintro e w1 ⟨b', cap', rfl, hc, hz, hb1⟩; have B1 := Lib.hid (Below.trans (show Below w.heap.size w _ from (by repeat (first | exact Below.refl _ _ | refine Below.alloc ?_ (by first | omega | (simp; done) | (simp; omega)) _ | refine Below.setCell ?_ (by first | omega | (simp; done) | (simp; omega)) _ | refine Below.drew ?_))) (hb1.mono (by first | omega | (simp; done) | (simp; omega)))); clear hb1)
  go_ret
  exact ⟨rfl, B1.out.alloc B1.out.size _⟩
end Go.Proofs.Ytkcehbnmcdppkaa

/- Contracts: Magnitude, cellOver, slices.Clone of singles. -/
namespace Go.Proofs.Ytkcehbnmcdppkaa
open Go.RowKit Fl
set_option linter.unusedVariables false

theorem run_negV (w : World) (b : Nat) : (Op.unary .neg (.float .f32 b)).run Try.prog w = .ok (.float .f32 (negW b)) w := rfl
set_option maxHeartbeats 400000 in
theorem magn_any (x : Nat) {a : Int} (hx : x < 4294967296) (hv : vS x = some a) (w : World) :
    Calls Try.prog 125 #[.float .f32 x] w fun e w' => (∃ r, e = .returned (.float .f32 r) ∧ vS r = some (a.natAbs : Int)) ∧ w = w' := by
  have ng := run_negV
  obtain ⟨r, mx, vr, _⟩ := run_max_two (ts := #[22, 22]) (t := 22) hv (neg_val hx hv)
  have VR := Lib.hid (show vS r = some (a.natAbs : Int) from by rw [vr]; congr 1; split <;> omega)
  clear hv hx vr
  go_enter Try.func125, Try.ntmps125
  go_wp2
  go_ret
  exact ⟨⟨r, rfl, VR.out⟩, rfl⟩

set_option maxHeartbeats 1000000 in
theorem cellOver_any (x y : Int) (l : Nat) (w : World) (hl : l ≤ 60) :
    Calls Try.prog 158 #[ptV x y, .int .i64 l] w fun e w' => e = .returned (ptV (x / 2 ^ l) (y / 2 ^ l)) ∧ Below w.heap.size w w' := by
  have l0 : (0 : Int) ≤ (l : Int) := by omega
  have l1 : (l : Int) ≤ 60 := by omega
  clear hl
  go_enter Try.func158, Try.ntmps158
  go_wp2
  go_region
  all_goals go_wp2
  all_goals refine bodyPost_ret (v := ptV (x / 2 ^ l) (y / 2 ^ l)) (by simp [results, Try.results158, go_sem]) rfl ?_
  all_goals exact ⟨rfl, by repeat (first | exact Below.refl _ _ | refine Below.drew ?_ | refine Below.alloc ?_ (by simp; try omega) _ | refine Below.setCell ?_ (by simp; try omega) _)⟩

/-- What Clone answers: a new row of the same singles. -/
def ClvPost (n : Nat) (v : Nat → Nat) (w : World) (e : Ending) (w' : World) : Prop :=
  ∃ g cap, e = .returned (.slice (some ⟨g, 0, none⟩) n cap) ∧ w.heap.size ≤ g ∧ w'.ownsRow w.heap.size 22 1 (.slice (some ⟨g, 0, none⟩) n cap) n (rowL v n) ∧ Below w.heap.size w w'

set_option maxHeartbeats 1000000 in
theorem cloneV_any (b off n cap : Nat) (v : Nat → Nat) (w : World) (h1 : 1 ≤ n) (hn : n ≤ 65536) (hc : FlAt w b off n v) :
    Calls Try.prog 115 #[.slice (some ⟨b, off, none⟩) n cap] w (ClvPost n v w) := by
  have zb : b < w.heap.size := World.block_lt_of_cell? w _ (hc 0 h1)
  have hnews := Lib.hid (show ∀ j u, (rowL v n)[j]? = some u → (w.alloc (.cells #[] 22)).cell? ((⟨b, off, none⟩ : Addr).add j) = some u from fun j u hu => by
    have hj : j < n := by
      rcases Nat.lt_or_ge j n with h | h
      · exact h
      · rw [List.getElem?_eq_none (by simpa [rowL] using h)] at hu; cases hu
    have : u = .float .f32 (v j) := by simpa [rowL, hj] using hu.symm
    rw [this]
    have e := hc j hj
    have : (⟨b, off, none⟩ : Addr).add j = ⟨b, off + j, none⟩ := by simp [Addr.add]
    rw [this]
    exact (World.cell?_of_block (w := w) (a := ⟨b, off + j, none⟩) (heap_alloc_old w _ zb)).trans e)
  have hinfo : (Try.prog.info? 22).map (fun i => (i.zero, i.size, i.bytes)) = some (some (.float .f32 0), 1, 4) := by kernel_rfl
  obtain ⟨i0, hi, hz0, hz1, hz2⟩ := info_parts hinfo
  have qT : ∀ (w : World) (a : Option Addr) (n c n' c' : Nat), (binOp .eql 39 (.slice a n c) (.slice none n' c')).run Try.prog w = .ok (.bool a.isNone) w := fun w a n c n' c' => Lib.run_eql_slice_nil w _ _ a n c n' c' Try.underlying39
  have H1 := Lib.hid h1
  have HN := Lib.hid hn
  clear hc hinfo h1 hn
  go_enter Try.func115, Try.ntmps115
  go_wp2_with (at_builtin; refine wpList_append_own _ rfl _ _ _ rfl w.heap.size 22 i0 (.float .f32 0) 1 4 Try.underlying39 hi hz0 hz1 hz2 rfl (by decide) (.slice (some ⟨w.heap.size, 0, none⟩) 0 0) 0 [] rfl (World.ownsRow_lit w #[] 0 (Nat.le_refl _) (by unfold maxLen; omega) rfl) ⟨b, off, none⟩ n cap (rowL v n) rfl (by simp [rowL]) hnews.out (by simp [rowL, Value.oneCell']) (by have := HN.out; unfold maxLen; omega) (by have := HN.out; omega) (by simp) ?_; intro v' w1 hown' hgrow hnil)
  rw [Nat.zero_add, List.nil_append] at hown'
  obtain ⟨g, cap', rfl, hg, _⟩ := hown'.form H1.out
  have HO := Lib.hid hown'
  have HG := Lib.hid hgrow
  clear hown' hgrow hnil
  go_ret
  exact ⟨g, cap', rfl, hg, HO.out, Below.grown (by repeat (first | exact Below.refl _ _ | refine Below.alloc ?_ (by first | omega | (simp; done) | (simp; omega)) _ | refine Below.setCell ?_ (by first | omega | (simp; done) | (simp; omega)) _ | refine Below.drew ?_)) HG.out (by simp) (fun k e => by simp [Value.ownBlock] at e; omega)⟩
end Go.Proofs.Ytkcehbnmcdppkaa

/- A field as numbers; what Down makes of a right one. -/
namespace Go.Proofs.Ytkcehbnmcdppkaa
open Go.RowKit Fl
set_option linter.unusedVariables false

/-- A field as numbers: its region, the block of its values, and they. -/
structure Fd where
  x : Int
  y : Int
  w : Nat
  h : Nat
  b : Nat
  cap : Nat
  v : Nat → Nat
abbrev Fd.n (f : Fd) : Nat := f.w * f.h
abbrev Fd.sl (f : Fd) : Value := .slice (some ⟨f.b, 0, none⟩) (f.w * f.h) f.cap
abbrev Fd.val (f : Fd) : Value := fldV f.x f.y f.w f.h f.sl
abbrev Fd.cells (f : Fd) : Array Value := #[.int .i64 f.x, .int .i64 f.y, .int .i64 f.w, .int .i64 f.h, f.sl]
/-- A right field in a world. -/
structure FdOk (wr : World) (f : Fd) : Prop where
  reg : checkR f.x f.y f.w f.h = 0
  row : FlAt wr f.b 0 (f.w * f.h) f.v
  hgt : allB (f.w * f.h) (fun i => hgtB (f.v i)) = true
theorem FdOk.parts {wr : World} {f : Fd} (h : FdOk wr f) : 1 ≤ f.w ∧ f.w ≤ 512 ∧ 1 ≤ f.h ∧ f.h ≤ 512 ∧ 1 ≤ f.w * f.h ∧ f.w * f.h ≤ 65536 ∧ f.b < wr.heap.size := by
  obtain ⟨b1, b2, b3, b4, b5, _⟩ := checkR_zero h.reg
  have hn1 : 1 ≤ f.w * f.h := Nat.mul_pos (by omega) (by omega)
  have e : ((f.w * f.h : Nat) : Int) = (f.w : Int) * f.h := by simp
  exact ⟨by omega, by omega, by omega, by omega, hn1, by omega, World.block_lt_of_cell? wr _ (h.row 0 hn1)⟩
theorem FdOk.stay {w w' : World} {f : Fd} (h : FdOk w f) (hb : Below w.heap.size w w') : FdOk w' f := ⟨h.reg, flAt_congr h.row (hb.block _ h.parts.2.2.2.2.2.2), h.hgt⟩
theorem FdOk.sle {wr : World} {f : Fd} (h : FdOk wr f) : SlE wr (some ⟨f.b, 0, none⟩) (f.w * f.h) f.cap 0 := by
  have p := h.parts
  have := slE_row (cap := f.cap) (by omega) (by omega) h.row
  rwa [fldE_zero.2 h.hgt] at this
/-- What bounds the first n of v0 bounds the field. -/
def FdIn (n : Nat) (v0 : Nat → Nat) (f : Fd) : Prop := ∀ (g : Nat) (A : Int), vS g = some A → (∀ i, i < n → InV A (v0 i)) → ∀ j, j < f.w * f.h → InV A (f.v j)

theorem hgt_in {x : Nat} (h : hgtB x = true) : InV (1048576 * (one : Int)) x := by
  obtain ⟨a, ha, q⟩ := hgt_val h
  exact ⟨a, ha, by omega, by omega⟩
theorem top_val : vS 1233125376 = some (1048576 * (one : Int)) := by
  obtain ⟨J, hJ⟩ : ∃ J : Nat, J = 1094 := ⟨_, rfl⟩
  have r : Ieee.single.read 1233125376 = .number false 8388608 (-3) := by decide
  have e := vS_lit (t := 1) (k := 23) (j := J) r (by decide) (by omega)
  have o : (1048576 * (one : Int)) = ((2 ^ J : Nat) : Int) := by
    rw [one_pow (j := J - 20) (by omega), show J = (J - 20) + 20 by omega, Nat.pow_add]
    have : J - 20 + 20 - 20 = J - 20 := by omega
    rw [this]
    generalize 2 ^ (J - 20) = p
    omega
  rw [o]
  simpa using e
theorem in_hgt {x : Nat} (h : InV (1048576 * (one : Int)) x) : hgtB x = true := by
  obtain ⟨a, ha, q1, q2⟩ := h
  obtain ⟨J, hJ⟩ : ∃ J : Nat, J = 1094 := ⟨_, rfl⟩
  have o : (1048576 * (one : Int)) = ((2 ^ J : Nat) : Int) := by
    rw [one_pow (j := J - 20) (by omega), show J = (J - 20) + 20 by omega, Nat.pow_add]
    have : J - 20 + 20 - 20 = J - 20 := by omega
    rw [this]
    generalize 2 ^ (J - 20) = p
    omega
  rw [o] at q1 q2
  exact bd_hgt (bd_val' (j := J) ha (by omega) (by omega))

/-- The field of half the size. -/
def FdHalf (f f' : Fd) : Prop := f.x = 2 * f'.x ∧ f.y = 2 * f'.y ∧ f.w = 2 * f'.w ∧ f.h = 2 * f'.h
theorem dn_in_range {W H j : Nat} (hW : 1 ≤ W) (hj : j < H * W) : dnI W j + 2 * W + 1 < (2 * H) * (2 * W) := by
  have hm := Nat.mod_lt j (show 0 < W by omega)
  have hd : j / W < H := Nat.div_lt_of_lt_mul (by rw [Nat.mul_comm]; exact hj)
  have hda := Nat.div_add_mod j W
  obtain ⟨q, hq⟩ : ∃ q, j / W = q := ⟨_, rfl⟩
  obtain ⟨r, hr⟩ : ∃ r, j % W = r := ⟨_, rfl⟩
  rw [hq] at hd hda
  rw [hr] at hm hda
  have e : (j : Int) = ((q : Int) - 0) * W + ((r : Int) - 0) := by
    have h2 : ((W * q + r : Nat) : Int) = (W : Int) * (q : Int) + (r : Int) := by simp
    rw [hda] at h2
    rw [Int.sub_zero, Int.sub_zero, Int.mul_comm]
    exact h2
  exact (dn_parts (X := 0) (Y := 0) (H := H) hW (by omega) (by omega) (by omega) (by omega) e).2.1
theorem dn_all {f : Fd} {W H : Nat} (hw : f.w = 2 * W) (hh : f.h = 2 * H) (hW : 1 ≤ W) {g : Nat} {A : Int} (hg : vS g = some A) (hB : ∀ i, i < f.w * f.h → Bd 20 (f.v i)) (hI : ∀ i, i < f.w * f.h → InV A (f.v i)) (j : Nat) (hj : j < H * W) :
    ∃ s1 s2 s3, MeanAt (f.v (dnI W j)) (f.v (dnI W j + 1)) (f.v (dnI W j + 2 * W)) (f.v (dnI W j + 2 * W + 1)) s1 s2 s3 (dnF f.v W j) ∧ InV A (dnF f.v W j) := by
  have q := dn_in_range hW hj
  have e : f.w * f.h = (2 * H) * (2 * W) := by rw [hw, hh, Nat.mul_comm]
  rw [e] at hB hI
  obtain ⟨s1, s2, s3, m, M, hm, _⟩ := mean_in hg (hI (dnI W j) (by omega)) (hI (dnI W j + 1) (by omega)) (hI (dnI W j + 2 * W) (by omega)) (hI (dnI W j + 2 * W + 1) q) (hB _ (by omega)) (hB _ (by omega)) (hB _ (by omega)) (hB _ q)
  have em : dnF f.v W j = m := M.w
  rw [em]
  exact ⟨s1, s2, s3, M, hm⟩

/-- Down of a right field whose four numbers are even. -/
theorem down_even (f : Fd) (W H : Nat) (X Y : Int) (w : World) (hf : FdOk w f) (h : f.x = 2 * X ∧ f.y = 2 * Y ∧ f.w = 2 * W ∧ f.h = 2 * H) :
    Calls Try.prog 48 #[f.val] w fun e w' => ∃ f' : Fd, e = .returned (.tuple #[f'.val, .int .i64 0]) ∧ FdHalf f f' ∧ FdOk w' f' ∧ w.heap.size ≤ f'.b ∧ (∀ n v0, FdIn n v0 f → FdIn n v0 f') ∧ Below w.heap.size w w' := by
  obtain ⟨h1, h2, h3, h4⟩ := h
  have p := hf.parts
  obtain ⟨c1, c2, c3, c4, c5, c6, c7, c8, c9⟩ := checkR_zero hf.reg
  have hB : ∀ i, i < f.w * f.h → Bd 20 (f.v i) := fun i hi => hgt_bd (allB_iff.1 hf.hgt i hi)
  have hI : ∀ i, i < f.w * f.h → InV (1048576 * (one : Int)) (f.v i) := fun i hi => hgt_in (allB_iff.1 hf.hgt i hi)
  have D := down_ok X Y f.x f.y W H f.w f.h (f.w * f.h) f.b 0 f.cap f.v w h1 h2 h3 h4 hf.reg hf.row hf.sle (fun j hj => by
    obtain ⟨s1, s2, s3, M, _⟩ := dn_all h3 h4 (by omega) top_val hB hI j hj
    exact ⟨s1, s2, s3, M⟩) (Nat.mul_comm _ _)
  have hall : allB (H * W) (fun i => hgtB (dnF f.v W i)) = true := allB_iff.2 fun j hj => by
    obtain ⟨_, _, _, _, q⟩ := dn_all h3 h4 (by omega) top_val hB hI j hj
    exact in_hgt q
  refine Calls.mono D ?_
  intro e w' hm
  rcases hm with ⟨_, b', cap', rfl, hb', hlt, hrow, hb⟩ | ⟨hno, _, _⟩
  · rw [Nat.mul_comm H W] at hrow hall
    refine ⟨⟨X, Y, W, H, b', cap', dnF f.v W⟩, ?_, ⟨h1, h2, h3, h4⟩, ⟨?_, hrow, hall⟩, hb', ?_, hb⟩
    · rw [Nat.mul_comm H W]
    · have q : (W : Int) * H ≤ 65536 := by
        have q1 : ((f.w : Int) * f.h) = 4 * ((W : Int) * H) := by
          rw [h3, h4, Int.natCast_mul, Int.natCast_mul, Int.mul_assoc, ← Int.mul_assoc (W : Int), Int.mul_comm (W : Int) ((2 : Nat) : Int), Int.mul_assoc, ← Int.mul_assoc]
          rfl
        have q2 : 0 ≤ (W : Int) * H := Int.mul_nonneg (by omega) (by omega)
        omega
      show checkR X Y W H = 0
      unfold checkR
      rw [if_neg (by omega), if_neg (by omega), if_neg (by omega)]
    · intro n v0 hI0 g A hg hv j hj
      have hj' : j < H * W := by rw [Nat.mul_comm]; exact hj
      obtain ⟨_, _, _, _, q⟩ := dn_all h3 h4 (by omega) hg hB (hI0 g A hg hv) j hj'
      exact q
  · rw [hall] at hno
    cases hno

set_option maxHeartbeats 2000000 in
theorem down_odd_aux (X Y : Int) (W H n b cap : Nat) (w : World) (hE : SlE w (some ⟨b, 0, none⟩) n cap 0) (hc : fldChk X Y W H n 0 = 0)
    (par : (bits .and .i64 (bits .or .i64 (bits .or .i64 (bits .or .i64 X Y) W) H) 1 != 0) = true) :
    Calls Try.prog 48 #[fldV X Y W H (.slice (some ⟨b, 0, none⟩) n cap)] w fun e w' => e = .returned (.tuple #[fldV 0 0 0 0 (.slice none 0 0), .int .i64 2]) ∧ Below w.heap.size w w' := by
  have CK := Lib.hid (fun W' (hB : Below w.heap.size w W') => checkA_any X Y W H (some ⟨b, 0, none⟩) n cap 0 W' (hE.stay hB).1)
  rw [hc] at CK
  clear hE hc
  go_enter Try.func48, Try.ntmps48
  go_wp2_with (go_at_call 87; refine (CK.out _ (by repeat (first | exact Below.refl _ _ | refine Below.alloc ?_ (by first | omega | (simp; done) | (simp; omega)) _ | refine Below.setCell ?_ (by first | omega | (simp; done) | (simp; omega)) _ | refine Below.drew ?_))).mono ?_; rintro e w1 ⟨rfl, hb1⟩; have HF1 := Lib.hid (blkStay (b := w.heap.size) (o := fldO X Y W H (.slice (some ⟨b, 0, none⟩) n cap)) (by (first | (rw [heap_alloc_get, if_pos rfl]; done) | ((simp only [heap_alloc_get, heap_size_alloc, if_true]) <;> ((repeat' split) <;> first | rfl | omega)))) hb1); have HR1 := Lib.hid (blkStay (b := w.heap.size + 1) (o := fldO 0 0 0 0 (.slice none 0 0)) (by (first | (rw [heap_alloc_get, if_pos rfl]; done) | ((simp only [heap_alloc_get, heap_size_alloc, if_true]) <;> ((repeat' split) <;> first | rfl | omega)))) hb1); have B1 := Lib.hid (Below.trans (show Below w.heap.size w _ from (by repeat (first | exact Below.refl _ _ | refine Below.alloc ?_ (by first | omega | (simp; done) | (simp; omega)) _ | refine Below.setCell ?_ (by first | omega | (simp; done) | (simp; omega)) _ | refine Below.drew ?_))) (hb1.mono (by first | omega | (simp; done) | (simp; omega)))); clear hb1; obtain ⟨cF, fF, zF⟩ := blkC HF1.out; obtain ⟨cR, fR, zR⟩ := blkC HR1.out)
  refine bodyPost_ret (v := .tuple #[fldV 0 0 0 0 (.slice none 0 0), .int .i64 2]) (by simp [results, Try.results48, go_sem, cR]) rfl ?_
  exact ⟨rfl, by repeat (first | exact B1.out | refine Below.setCell ?_ (by first | omega | (simp; done) | (simp; omega)) _)⟩
/-- Down of a right field of which a number is odd. -/
theorem down_odd (f : Fd) (w : World) (hf : FdOk w f) (h : ¬ (f.x % 2 = 0 ∧ f.y % 2 = 0 ∧ (f.w : Int) % 2 = 0 ∧ (f.h : Int) % 2 = 0)) :
    Calls Try.prog 48 #[f.val] w fun e w' => e = .returned (.tuple #[fldV 0 0 0 0 (.slice none 0 0), .int .i64 2]) ∧ Below w.heap.size w w' := by
  refine down_odd_aux f.x f.y f.w f.h (f.w * f.h) f.b f.cap w hf.sle ?_ ?_
  · unfold fldChk
    rw [if_neg (by rw [hf.reg]; simp), if_neg (by simp)]
  · simp only [bne_iff_ne, ne_eq]
    intro q
    exact h ((odd4 _ _ _ _).1 q)
/-- Down of a right field. -/
theorem down_fd (f : Fd) (w : World) (hf : FdOk w f) :
    Calls Try.prog 48 #[f.val] w fun e w' => ((∃ f' : Fd, e = .returned (.tuple #[f'.val, .int .i64 0]) ∧ FdHalf f f' ∧ FdOk w' f' ∧ w.heap.size ≤ f'.b ∧ (∀ n v0, FdIn n v0 f → FdIn n v0 f')) ∨ e = .returned (.tuple #[fldV 0 0 0 0 (.slice none 0 0), .int .i64 2])) ∧ Below w.heap.size w w' := by
  by_cases h : f.x % 2 = 0 ∧ f.y % 2 = 0 ∧ (f.w : Int) % 2 = 0 ∧ (f.h : Int) % 2 = 0
  · obtain ⟨h1, h2, h3, h4⟩ := h
    refine Calls.mono (down_even f (f.w / 2) (f.h / 2) (f.x / 2) (f.y / 2) w hf ⟨by omega, by omega, by omega, by omega⟩) ?_
    rintro e w' ⟨f', he, k1, k2, k3, k4, k5⟩
    exact ⟨.inl ⟨f', he, k1, k2, k3, k4⟩, k5⟩
  · refine Calls.mono (down_odd f w hf h) ?_
    rintro e w' ⟨he, k5⟩
    exact ⟨.inr he, k5⟩
end Go.Proofs.Ytkcehbnmcdppkaa

/- Lists of fields that are appended; levels. -/
namespace Go.Proofs.Ytkcehbnmcdppkaa
open Go.RowKit Fl
set_option linter.unusedVariables false

/-- The cells of the first k fields. -/
def fdsL (T : Nat → Fd) : Nat → List Value
  | 0 => []
  | k + 1 => fdsL T k ++ (T k).cells.toList
theorem fdsL_len (T : Nat → Fd) (k : Nat) : (fdsL T k).length = k * 5 := by
  induction k with
  | zero => rfl
  | succ k ih => simp [fdsL, ih]; omega
theorem fdsL_congr {T T' : Nat → Fd} {k : Nat} (h : ∀ i, i < k → T i = T' i) : fdsL T k = fdsL T' k := by
  induction k with
  | zero => rfl
  | succ k ih => simp only [fdsL]; rw [ih (fun i hi => h i (by omega)), h k (by omega)]
theorem fdsL_get (T : Nat → Fd) (k : Nat) {i j : Nat} (hi : i < k) (hj : j < 5) : (fdsL T k)[i * 5 + j]? = (T i).cells[j]? := by
  induction k with
  | zero => omega
  | succ k ih =>
    simp only [fdsL]
    by_cases e : i < k
    · rw [List.getElem?_append_left (by rw [fdsL_len]; omega)]
      exact ih e
    · obtain rfl : i = k := by omega
      rw [List.getElem?_append_right (by rw [fdsL_len]; omega), fdsL_len, show i * 5 + j - i * 5 = j by omega, Array.getElem?_toList]
/-- A block whose first n elements are these fields. -/
def FdRow (w : World) (g n : Nat) (T : Nat → Fd) : Prop := (∀ i, i < n → ∀ j, j < 5 → w.cell? ⟨g, i * 5 + j, none⟩ = (T i).cells[j]?) ∧ g < w.heap.size
theorem FdRow.stay {w w' : World} {g n : Nat} {T : Nat → Fd} (h : FdRow w g n T) (hb : Below w.heap.size w w') : FdRow w' g n T :=
  ⟨fun i hi j hj => by rw [World.cell?_of_block (w := w) (a := ⟨g, i * 5 + j, none⟩) (hb.block g h.2)]; exact h.1 i hi j hj, Nat.lt_of_lt_of_le h.2 hb.size⟩
theorem fd_at {w : World} {b n : Nat} {T : Nat → Fd} (h : FdRow w b n T) {i : Nat} (hi : i < n) :
    w.cell? ⟨b, i * 5, none⟩ = some (.int .i64 (T i).x) ∧ w.cell? ⟨b, i * 5 + 1, none⟩ = some (.int .i64 (T i).y) ∧ w.cell? ⟨b, i * 5 + 2, none⟩ = some (.int .i64 (T i).w) ∧ w.cell? ⟨b, i * 5 + 3, none⟩ = some (.int .i64 (T i).h) ∧ w.cell? ⟨b, i * 5 + 4, none⟩ = some (T i).sl ∧ b < w.heap.size :=
  ⟨h.1 i hi 0 (by omega), h.1 i hi 1 (by omega), h.1 i hi 2 (by omega), h.1 i hi 3 (by omega), h.1 i hi 4 (by omega), h.2⟩

/-- A list of fields with one more. -/
def updF (T : Nat → Fd) (k : Nat) (f : Fd) (i : Nat) : Fd := if i = k then f else T i
theorem updF_same (T : Nat → Fd) (k : Nat) (f : Fd) : updF T k f k = f := if_pos rfl
theorem updF_ne (T : Nat → Fd) {k i : Nat} (f : Fd) (h : i ≠ k) : updF T k f i = T i := if_neg h
theorem fdsL_upd (T : Nat → Fd) (k : Nat) (f : Fd) : fdsL (updF T k f) (k + 1) = fdsL T k ++ f.cells.toList := by
  show fdsL (updF T k f) k ++ (updF T k f k).cells.toList = _
  rw [fdsL_congr (T' := T) (fun i hi => updF_ne T f (by omega)), updF_same]
/-- What holds when k levels have been made. -/
structure LvAt (w1 : World) (base : Nat) (T : Nat → Fd) (k : Nat) (ov : Value) (wr : World) : Prop where
  own : wr.ownsRow base 41 5 ov k (fdsL T k)
  bel : Below base w1 wr
  size : base ≤ wr.heap.size
  ok : ∀ i, i < k → FdOk wr (T i) ∧ some (T i).b ≠ ov.ownBlock
theorem LvAt.row {w1 wr : World} {base g cap k : Nat} {T : Nat → Fd} (h : LvAt w1 base T k (.slice (some ⟨g, 0, none⟩) k cap) wr) : FdRow wr g k T ∧ base ≤ g := by
  rcases h.own.2 with ⟨h0, _⟩ | ⟨g', cap', cur, hv, hg, hh, h1, h2, h3, h4⟩
  · cases h0
  · cases hv
    refine ⟨⟨fun i hi j hj => ?_, (blkC hh).2.2⟩, hg⟩
    rw [(blkC hh).1, ← fdsL_get T k hi hj, ← h4, List.getElem?_take, if_pos (by omega)]
    simp
theorem LvAt.push {w1 wr w5 w6 : World} {base k g' cap' : Nat} {T : Nat → Fd} {ov : Value} {o : Obj} {f : Fd} (h : LvAt w1 base T k ov wr) (hlt : ∀ g, ov.ownBlock = some g → g < wr.heap.size) (h5 : Below wr.heap.size wr w5) (hf : FdOk w5 f) (hfb : wr.heap.size ≤ f.b)
    (hgrow : (w5.alloc o).grownBy w6 ov.ownBlock) (hat : ov.ownBlock = some g' ∨ g' = w5.heap.size + 1) (hown : w6.ownsRow base 41 5 (.slice (some ⟨g', 0, none⟩) (k + 1) cap') (k + 1) (fdsL T k ++ f.cells.toList)) :
    LvAt w1 base (updF T k f) (k + 1) (.slice (some ⟨g', 0, none⟩) (k + 1) cap') w6 := by
  have z5 : base ≤ w5.heap.size := Nat.le_trans h.size h5.size
  have own5 := ownsRow_below h.own h5
  have B5 : Below base w1 w5 := h.bel.trans (h5.mono h.size)
  have e4 : ∀ j, j < base → w6.heap[j]? = w5.heap[j]? := fun j hj => (hgrow.block j (by show j < (w5.alloc o).heap.size; rw [heap_size_alloc]; omega) (ownsRow_far own5 hj)).trans (heap_alloc_old _ _ (by omega))
  have B4 : Below base w1 (w5.alloc o) := B5.alloc z5 o
  have z6 := hgrow.size
  rw [heap_size_alloc] at z6
  have keep : ∀ q : Fd, FdOk w5 q → some q.b ≠ ov.ownBlock → FdOk w6 q ∧ some q.b ≠ (Value.slice (some ⟨g', 0, none⟩) (k + 1) cap').ownBlock := fun q hq hne => by
    have qb := hq.parts.2.2.2.2.2.2
    have e : w6.heap[q.b]? = w5.heap[q.b]? := (hgrow.block q.b (by show q.b < (w5.alloc o).heap.size; rw [heap_size_alloc]; omega) hne).trans (heap_alloc_old _ _ qb)
    refine ⟨⟨hq.reg, flAt_congr hq.row e, hq.hgt⟩, fun c => ?_⟩
    have c' : q.b = g' := by simpa [Value.ownBlock] using c
    rcases hat with z | z
    · exact hne (by rw [z, c'])
    · omega
  refine ⟨?_, ⟨hgrow.os.trans B4.os, hgrow.tape.trans B4.tape, hgrow.output.trans B4.output, Nat.le_trans B4.size hgrow.size, fun j hj => (e4 j hj).trans (B5.block j hj)⟩, by omega, fun i hi => ?_⟩
  · rw [fdsL_upd]
    exact hown
  · by_cases e : i = k
    · subst e
      rw [updF_same]
      exact keep f hf (fun c => by have := hlt _ c.symm; omega)
    · rw [updF_ne T f e]
      obtain ⟨a, b⟩ := h.ok i (by omega)
      exact keep _ (a.stay h5) b

/-- The levels of a field: each one is half of the one before, and bounded as the first one is. -/
structure LvOf (f0 : Fd) (n : Nat) (v0 : Nat → Nat) (k : Nat) (T : Nat → Fd) : Prop where
  first : T 0 = f0
  half : ∀ i, i + 1 < k → FdHalf (T i) (T (i + 1))
  bd : ∀ i, i < k → FdIn n v0 (T i)
theorem LvOf.push {f0 f : Fd} {n : Nat} {v0 : Nat → Nat} {j : Nat} {T : Nat → Fd} (h : LvOf f0 n v0 (j + 1) T) (hh : FdHalf (T j) f) (hb : FdIn n v0 (T j) → FdIn n v0 f) : LvOf f0 n v0 (j + 1 + 1) (updF T (j + 1) f) := by
  refine ⟨by rw [updF_ne T f (by omega)]; exact h.first, fun i hi => ?_, fun i hi => ?_⟩
  · by_cases e : i = j
    · subst e
      rw [updF_same, updF_ne T f (by omega)]
      exact hh
    · rw [updF_ne T f (by omega), updF_ne T f (by omega)]
      exact h.half i (by omega)
  · by_cases e : i = j + 1
    · subst e
      rw [updF_same]
      exact hb (h.bd j (by omega))
    · rw [updF_ne T f e]
      exact h.bd i (by omega)
/-- How long a slice is. -/
def lenV (v : Value) : Nat := match v with | .slice _ l _ => l | _ => 0
/-- What levels answers. -/
def LvsPost (w : World) (f0 : Fd) (m : Nat) (e : Ending) (w' : World) : Prop :=
  ((∃ g len cap k, e = .returned (.tuple #[.slice g len cap, .int .i64 k]) ∧ k ≠ 0) ∨
    ∃ g cap T, e = .returned (.tuple #[.slice (some ⟨g, 0, none⟩) m cap, .int .i64 0]) ∧ FdRow w' g m T ∧ (∀ i, i < m → FdOk w' (T i)) ∧ ∀ n v0, FdIn n v0 f0 → LvOf f0 n v0 m T) ∧ Below w.heap.size w w'

set_option maxRecDepth 100000 in
set_option maxHeartbeats 4000000 in
theorem levels_fd (f : Fd) (m : Nat) (w : World) (hf : FdOk w f) (h1 : 1 ≤ m) (h2 : m ≤ 10) :
    Calls Try.prog 114 #[f.val, .int .i64 m] w (LvsPost w f m) := by
  have DN := Lib.hid (fun q W' (hq : FdOk W' q) => down_fd q W' hq)
  have HF := Lib.hid hf
  have hinfo : (Try.prog.info? 41).map (fun i => (i.zero, i.size, i.bytes)) = some (some (.agg #[.int .i64 0, .int .i64 0, .int .i64 0, .int .i64 0, .slice none 0 0]), 5, 56) := by kernel_rfl
  obtain ⟨ti, hi, hz0, hz1, hz2⟩ := info_parts hinfo
  have HI := Lib.hid hi
  have m1 : (1 : Int) ≤ (m : Int) := by omega
  have m2 : (m : Int) ≤ 10 := by omega
  have M1 := Lib.hid h1
  have M2 := Lib.hid h2
  clear hf hinfo hi h1 h2
  go_enter Try.func114, Try.ntmps114
  go_wp2
  have HS : Hid (∃ T : Nat → Fd, LvAt (w.alloc (.cells f.cells 41)) (w.heap.size + 1) T 1 (.slice (some ⟨w.heap.size + 1, 0, none⟩) 1 1) ((w.alloc (.cells f.cells 41)).alloc (.cells f.cells 41)) ∧ (∀ n v0, FdIn n v0 f → LvOf f n v0 1 T)) := by
    have hF := HF.out
    have zb := hF.parts.2.2.2.2.2.2
    refine Lib.hid ⟨fun _ => f, ⟨⟨by simp [fdsL], .inr ⟨_, 1, f.cells, rfl, Nat.le_refl _, ?_, by omega, by unfold maxLen; omega, by simp, by simp [fdsL]⟩⟩, ?_, by simp, fun i hi => ⟨?_, ?_⟩⟩, fun n v0 h => ⟨rfl, fun i hi => by omega, fun i hi => h⟩⟩
    · (first | (rw [heap_alloc_get, if_pos rfl]; done) | ((simp only [heap_alloc_get, heap_size_alloc, if_true]) <;> ((repeat' split) <;> first | rfl | omega)))
    · exact (by repeat (first | exact Below.refl _ _ | refine Below.alloc ?_ (by first | omega | (simp; done) | (simp; omega)) _ | refine Below.setCell ?_ (by first | omega | (simp; done) | (simp; omega)) _ | refine Below.drew ?_))
    · exact hF.stay (by repeat (first | exact Below.refl _ _ | refine Below.alloc ?_ (by first | omega | (simp; done) | (simp; omega)) _ | refine Below.setCell ?_ (by first | omega | (simp; done) | (simp; omega)) _ | refine Below.drew ?_))
    · simp [Value.ownBlock]; omega
  have B1 := Lib.hid (show Below w.heap.size w (w.alloc (.cells f.cells 41)) from (by repeat (first | exact Below.refl _ _ | refine Below.alloc ?_ (by first | omega | (simp; done) | (simp; omega)) _ | refine Below.setCell ?_ (by first | omega | (simp; done) | (simp; omega)) _ | refine Below.drew ?_)))
  generalize (w.alloc (.cells f.cells 41)).alloc (.cells f.cells 41) = w3 at *
  generalize w.alloc (.cells f.cells 41) = w1 at *
  go_loopw [6] (fun l wr => ∃ (k : Nat) (ov : Value) (T : Nat → Fd), 1 ≤ k ∧ k ≤ m ∧ ov = l ∧ LvAt w1 (w.heap.size + 1) T k ov wr ∧ (∀ n v0, FdIn n v0 f → LvOf f n v0 k T)) (fun l _ => m - lenV l)
  case atStart =>
    obtain ⟨T, hT, hT2⟩ := HS.out
    exact ⟨1, _, T, Nat.le_refl _, M1.out, rfl, hT, hT2⟩
  case round =>
    obtain ⟨k, ov, T, hk1, hk2, rfl, hm, hl⟩ := hrel
    have HM := Lib.hid hm
    have HL := Lib.hid hl
    obtain ⟨j, rfl⟩ : ∃ j, k = j + 1 := ⟨k - 1, by omega⟩
    obtain ⟨g, cap, rfl, _⟩ := hm.own.form (by omega)
    obtain ⟨hrow, hlo⟩ := hm.row
    obtain ⟨c0, c1, c2, c3, c4, zg⟩ := fd_at hrow (show j < j + 1 by omega)
    have HO := Lib.hid (hm.ok j (by omega)).1
    have HRW := Lib.hid hrow
    have BW := Lib.hid (B1.out.trans (hm.bel.mono (by omega)))
    have HK2 := Lib.hid hk2
    clear hm hl hrow hlo hk1
    by_cases hlt : j + 1 < m
    · have DNK := Lib.hid (show Calls Try.prog 48 #[fldV (T j).x (T j).y (T j).w (T j).h (T j).sl] wr fun e w' => ((∃ f' : Fd, e = .returned (.tuple #[f'.val, .int .i64 0]) ∧ FdHalf (T j) f' ∧ FdOk w' f' ∧ wr.heap.size ≤ f'.b ∧ (∀ n v0, FdIn n v0 (T j) → FdIn n v0 f')) ∨ e = .returned (.tuple #[fldV 0 0 0 0 (.slice none 0 0), .int .i64 2])) ∧ Below wr.heap.size wr w' from DN.out (T j) wr HO.out)
      have HLT := Lib.hid hlt
      have hlt' : (j : Int) + 1 < (m : Int) := by omega
      have hj : (j : Int) ≤ 10 := by omega
      obtain ⟨tx, htx⟩ : ∃ tx, (T j).x = tx := ⟨_, rfl⟩
      obtain ⟨ty, hty⟩ : ∃ ty, (T j).y = ty := ⟨_, rfl⟩
      obtain ⟨tw, htw⟩ : ∃ tw : Int, ((T j).w : Int) = tw := ⟨_, rfl⟩
      obtain ⟨th, hth⟩ : ∃ th : Int, ((T j).h : Int) = th := ⟨_, rfl⟩
      obtain ⟨ts, hts⟩ : ∃ ts, (T j).sl = ts := ⟨_, rfl⟩
      rw [htx, hty, htw, hth, hts] at DNK
      rw [htx] at c0
      rw [hty] at c1
      rw [htw] at c2
      rw [hth] at c3
      rw [hts] at c4
      clear htx hty htw hth hts
      go_wp2_with fail
      refine DNK.out.mono ?_
      rintro e w5 ⟨hcase, hb5⟩
      have HB5 := Lib.hid hb5
      clear c0 c1 c2 c3 c4 hb5
      rcases hcase with ⟨f', rfl, hh, hok, hfb, hin⟩ | rfl
      · have HH := Lib.hid hh
        have HK5 := Lib.hid hok
        have HFB := Lib.hid hfb
        have HIN := Lib.hid hin
        obtain ⟨fx, hfx⟩ : ∃ fx, f'.x = fx := ⟨_, rfl⟩
        obtain ⟨fy, hfy⟩ : ∃ fy, f'.y = fy := ⟨_, rfl⟩
        obtain ⟨fw, hfw⟩ : ∃ fw : Int, (f'.w : Int) = fw := ⟨_, rfl⟩
        obtain ⟨fh, hfh⟩ : ∃ fh : Int, (f'.h : Int) = fh := ⟨_, rfl⟩
        obtain ⟨fb, fn, fc, hfs⟩ : ∃ fb fn fc, f'.sl = .slice fb fn fc := ⟨_, _, _, rfl⟩
        have HCL := Lib.hid (show f'.cells.toList = [.int .i64 fx, .int .i64 fy, .int .i64 fw, .int .i64 fh, .slice fb fn fc] from by rw [← hfx, ← hfy, ← hfw, ← hfh, ← hfs])
        have HVL : f'.val = fldV fx fy fw fh (.slice fb fn fc) := by rw [← hfx, ← hfy, ← hfw, ← hfh, ← hfs]
        rw [HVL]
        clear hh hok hfb hin hfx hfy hfw hfh hfs HVL
        have HBX := Lib.hid (HB5.out.trans (Below.mono (show Below w5.heap.size w5 (w5.alloc (fldO fx fy fw fh (.slice fb fn fc))) from (by repeat (first | exact Below.refl _ _ | refine Below.alloc ?_ (by first | omega | (simp; done) | (simp; omega)) _ | refine Below.setCell ?_ (by first | omega | (simp; done) | (simp; omega)) _ | refine Below.drew ?_))) HB5.out.size))
        have HKX := Lib.hid (HK5.out.stay (show Below w5.heap.size w5 (w5.alloc (fldO fx fy fw fh (.slice fb fn fc))) from (by repeat (first | exact Below.refl _ _ | refine Below.alloc ?_ (by first | omega | (simp; done) | (simp; omega)) _ | refine Below.setCell ?_ (by first | omega | (simp; done) | (simp; omega)) _ | refine Below.drew ?_))))
        have OWX := Lib.hid (ownsRow_below HM.out.own HBX.out)
        have hi := HI.out
        go_wp2_with (at_builtin; go_loud (refine wpList_append_lies _ rfl _ _ _ rfl (w.heap.size + 1) 41 ti _ 5 56 Try.underlying80 hi hz0 hz1 hz2 rfl (by omega) (.slice (some ⟨g, 0, none⟩) (j + 1) cap) (j + 1) (fdsL T (j + 1)) (by rfl) (OWX.out.alloc _) ⟨w5.heap.size + 1, 0, none⟩ 1 1 [.int .i64 fx, .int .i64 fy, .int .i64 fw, .int .i64 fh, .slice fb fn fc] (by rfl) (by rfl) (World.news_of_block (cs := #[.int .i64 fx, .int .i64 fy, .int .i64 fw, .int .i64 fh, .slice fb fn fc]) (t := 41) (fr := (0, 0)) (by (first | (rw [heap_alloc_get, if_pos rfl]; done) | ((simp only [heap_alloc_get, heap_size_alloc, if_true]) <;> ((repeat' split) <;> first | rfl | omega))))) (by simp [Value.oneCell']) (by omega) (by have := HLT.out; have := M2.out; unfold maxLen; omega) (by have := HLT.out; have := M2.out; omega) (by have := HM.out.size; have := HB5.out.size; simp; omega) (w5.heap.size + 1 + 1) (by simp) ?_; intro g' cap' w8 hown8 hgrow hat hlt8))
        have PU := Lib.hid (LvAt.push (w5 := w5.alloc (fldO fx fy fw fh (.slice fb fn fc))) HM.out (fun q hq => by have : g = q := by simpa [Value.ownBlock] using hq
                                                                                                                   omega) HBX.out HKX.out HFB.out hgrow (by simpa using hat) ((congrArg (fun l => w8.ownsRow (w.heap.size + 1) 41 5 (.slice (some ⟨g', 0, none⟩) (j + 1 + 1) cap') (j + 1 + 1) (fdsL T (j + 1) ++ l)) HCL.out).mpr hown8))
        clear hown8 hgrow hat hlt8
        refine ⟨⟨j + 1 + 1, _, updF T (j + 1) f', by omega, HLT.out, rfl, PU.out, fun n v0 h => (HL.out n v0 h).push HH.out (HIN.out n v0)⟩, ?_⟩
        have := HLT.out
        show m - (j + 1 + 1) < m - (j + 1)
        omega
      · go_wp2
        go_ret2
        exact ⟨.inl ⟨_, _, _, _, rfl, by decide⟩, BW.out.trans ((HB5.out.trans (Below.mono (show Below w5.heap.size w5 _ from (by repeat (first | exact Below.refl _ _ | refine Below.alloc ?_ (by first | omega | (simp; done) | (simp; omega)) _ | refine Below.setCell ?_ (by first | omega | (simp; done) | (simp; omega)) _ | refine Below.drew ?_))) HB5.out.size)).mono BW.out.size)⟩
    · have hkm : m = j + 1 := by omega
      subst hkm
      have HROW := Lib.hid (show FdRow wr g (j + 1) T from HRW.out)
      go_wp2
      go_ret2
      exact ⟨.inr ⟨g, cap, T, rfl, HROW.out, fun i hi => (HM.out.ok i hi).1, HL.out⟩, BW.out⟩
end Go.Proofs.Ytkcehbnmcdppkaa

/- Contract: Pyramid. -/
namespace Go.Proofs.Ytkcehbnmcdppkaa
open Go.RowKit Fl
set_option linter.unusedVariables false

/-- What is known of levels that are there. -/
def LvInfo (f0 : Fd) (m : Nat) (g : Option Addr) (len : Nat) (w' : World) : Prop :=
  ∃ gb T, g = some ⟨gb, 0, none⟩ ∧ len = m ∧ FdRow w' gb m T ∧ (∀ i, i < m → FdOk w' (T i)) ∧ ∀ n v0, FdIn n v0 f0 → LvOf f0 n v0 m T
def LvsPost1 (w : World) (f0 : Fd) (m : Nat) (e : Ending) (w' : World) : Prop :=
  ∃ g len cap k, e = .returned (.tuple #[.slice g len cap, .int .i64 k]) ∧ (k = 0 → LvInfo f0 m g len w') ∧ Below w.heap.size w w'
theorem levels_fd1 (f : Fd) (m : Nat) (w : World) (hf : FdOk w f) (h1 : 1 ≤ m) (h2 : m ≤ 10) : Calls Try.prog 114 #[f.val, .int .i64 m] w (LvsPost1 w f m) :=
  (levels_fd f m w hf h1 h2).mono fun e w' ⟨h, hb⟩ => by
    rcases h with ⟨g, len, cap, k, rfl, hk⟩ | ⟨g, cap, T, rfl, q1, q2, q3⟩
    · exact ⟨_, _, _, _, rfl, fun z => absurd z hk, hb⟩
    · exact ⟨_, _, _, _, rfl, fun _ => ⟨g, T, rfl, rfl, q1, q2, q3⟩, hb⟩

/-- What Pyramid answers: a list and an error; what is known of it, if there is no error. -/
def PyInfo (X Y : Int) (W H n : Nat) (v : Nat → Nat) (m : Nat) (g : Option Addr) (len : Nat) (w' : World) : Prop :=
  ∃ f0 : Fd, f0.x = X ∧ f0.y = Y ∧ f0.w = W ∧ f0.h = H ∧ f0.v = v ∧ 1 ≤ m ∧ m ≤ 10 ∧ LvInfo f0 m g len w'
def PyPost (w : World) (X Y : Int) (W H n : Nat) (v : Nat → Nat) (m : Nat) (e : Ending) (w' : World) : Prop :=
  ∃ g len cap k, e = .returned (.tuple #[.slice g len cap, .int .i64 k]) ∧ (k = 0 → PyInfo X Y W H n v m g len w') ∧ Below w.heap.size w w'

set_option maxHeartbeats 2000000 in
theorem pyramid_chk (X Y W H : Int) (a : Option Addr) (n cap : Nat) (er m : Int) (w : World) (hE : SlE w a n cap er) (hz : fldChk X Y W H n er ≠ 0) :
    Calls Try.prog 49 #[fldV X Y W H (.slice a n cap), .int .i64 m] w fun e w' => e = .returned (.tuple #[.slice none 0 0, .int .i64 (fldChk X Y W H n er)]) ∧ Below w.heap.size w w' := by
  have CK := Lib.hid (fun W' (hB : Below w.heap.size w W') => checkA_any X Y W H a n cap er W' (hE.stay hB).1)
  have hne : (fldChk X Y W H n er != 0) = true := by simpa using hz
  clear hE hz
  generalize fldChk X Y W H n er = ce at *
  go_enter Try.func49, Try.ntmps49
  go_wp2_with (go_at_call 87; refine (CK.out _ (by repeat (first | exact Below.refl _ _ | refine Below.alloc ?_ (by first | omega | (simp; done) | (simp; omega)) _ | refine Below.setCell ?_ (by first | omega | (simp; done) | (simp; omega)) _ | refine Below.drew ?_))).mono ?_; rintro e w1 ⟨rfl, hb1⟩; have B1 := Lib.hid (Below.trans (show Below w.heap.size w _ from (by repeat (first | exact Below.refl _ _ | refine Below.alloc ?_ (by first | omega | (simp; done) | (simp; omega)) _ | refine Below.setCell ?_ (by first | omega | (simp; done) | (simp; omega)) _ | refine Below.drew ?_))) (hb1.mono (by first | omega | (simp; done) | (simp; omega)))); clear hb1)
  go_ret2
  exact ⟨rfl, B1.out⟩
set_option maxHeartbeats 2000000 in
theorem pyramid_range (X Y W H : Int) (a : Option Addr) (n cap : Nat) (er m : Int) (w : World) (hE : SlE w a n cap er) (hz : fldChk X Y W H n er = 0) (hm : withinB m 1 10 = false) :
    Calls Try.prog 49 #[fldV X Y W H (.slice a n cap), .int .i64 m] w fun e w' => e = .returned (.tuple #[.slice none 0 0, .int .i64 3]) ∧ Below w.heap.size w w' := by
  have CK := Lib.hid (fun W' (hB : Below w.heap.size w W') => checkA_any X Y W H a n cap er W' (hE.stay hB).1)
  rw [hz] at CK
  have WI := Lib.hid (fun w => within_any m 1 10 w)
  rw [hm] at WI
  clear hE hz hm
  go_enter Try.func49, Try.ntmps49
  go_wp2_with (first | (go_at_call 87; refine (CK.out _ (by repeat (first | exact Below.refl _ _ | refine Below.alloc ?_ (by first | omega | (simp; done) | (simp; omega)) _ | refine Below.setCell ?_ (by first | omega | (simp; done) | (simp; omega)) _ | refine Below.drew ?_))).mono ?_; rintro e w1 ⟨rfl, hb1⟩; have B1 := Lib.hid (Below.trans (show Below w.heap.size w _ from (by repeat (first | exact Below.refl _ _ | refine Below.alloc ?_ (by first | omega | (simp; done) | (simp; omega)) _ | refine Below.setCell ?_ (by first | omega | (simp; done) | (simp; omega)) _ | refine Below.drew ?_))) (hb1.mono (by first | omega | (simp; done) | (simp; omega)))); clear hb1) | (go_at_call 79; refine (WI.out _).mono ?_; rintro e w' ⟨rfl, rfl⟩))
  go_ret2
  exact ⟨rfl, B1.out⟩
set_option maxHeartbeats 4000000 in
theorem pyramid_ok (X Y : Int) (W H n b off cap : Nat) (v : Nat → Nat) (m : Nat) (w : World) (hE : SlE w (some ⟨b, off, none⟩) n cap 0) (h0 : checkR X Y W H = 0) (hn : n = W * H) (hr : FlAt w b off n v) (hh : allB n (fun i => hgtB (v i)) = true) (h1 : 1 ≤ m) (h2 : m ≤ 10) :
    Calls Try.prog 49 #[fldV X Y W H (.slice (some ⟨b, off, none⟩) n cap), .int .i64 m] w (PyPost w X Y W H n v m) := by
  have CK := Lib.hid (fun W' (hB : Below w.heap.size w W') => checkA_any X Y W H (some ⟨b, off, none⟩) n cap 0 W' (hE.stay hB).1)
  rw [show fldChk X Y W H n 0 = 0 from by unfold fldChk; rw [if_neg (by rw [h0]; simp), if_neg (by rw [hn]; simp)]] at CK
  have WI := Lib.hid (fun w => within_any m 1 10 w)
  rw [show withinB (m : Int) 1 10 = true from withinB_iff.2 ⟨by omega, by omega⟩] at WI
  obtain ⟨b1, b2, b3, b4, b5, b6, b7, b8, b9⟩ := checkR_zero h0
  have hn1 : 1 ≤ n := by rw [hn]; exact Nat.mul_pos (by omega) (by omega)
  have hn2 : n ≤ 65536 := by
    have : ((W : Int) * (H : Int)) = (n : Int) := by rw [hn]; simp
    omega
  have zb : b < w.heap.size := World.block_lt_of_cell? w _ (hr 0 hn1)
  have CL := Lib.hid (fun W' (hB : Below w.heap.size w W') => cloneV_any b off n cap v W' hn1 hn2 (flAt_congr hr (hB.block b zb)))
  have LV := Lib.hid (fun sb sc W' (ho : FlAt W' sb 0 n v) => show Calls Try.prog 114 #[fldV X Y W H (.slice (some ⟨sb, 0, none⟩) n sc), .int .i64 m] W' (LvsPost1 W' ⟨X, Y, W, H, sb, sc, v⟩ m) from by
    have q := ho
    rw [hn] at q hh ⊢
    exact levels_fd1 ⟨X, Y, W, H, sb, sc, v⟩ m W' ⟨h0, q, hh⟩ h1 h2)
  have H1 := Lib.hid h1
  have H2 := Lib.hid h2
  have HN1 := Lib.hid (show 0 < n from hn1)
  clear hE h0 hn hr hh b1 b2 b3 b4 b5 b6 b7 b8 b9 hn1 hn2 zb h1 h2
  go_enter Try.func49, Try.ntmps49
  go_wp2_with (first | (go_at_call 87; refine (CK.out _ (by repeat (first | exact Below.refl _ _ | refine Below.alloc ?_ (by first | omega | (simp; done) | (simp; omega)) _ | refine Below.setCell ?_ (by first | omega | (simp; done) | (simp; omega)) _ | refine Below.drew ?_))).mono ?_; rintro e w1 ⟨rfl, hb1⟩; have HF1 := Lib.hid (blkStay (b := w.heap.size) (o := fldO X Y W H (.slice (some ⟨b, off, none⟩) n cap)) (by (first | (rw [heap_alloc_get, if_pos rfl]; done) | ((simp only [heap_alloc_get, heap_size_alloc, if_true]) <;> ((repeat' split) <;> first | rfl | omega)))) hb1); have B1 := Lib.hid (Below.trans (show Below w.heap.size w _ from (by repeat (first | exact Below.refl _ _ | refine Below.alloc ?_ (by first | omega | (simp; done) | (simp; omega)) _ | refine Below.setCell ?_ (by first | omega | (simp; done) | (simp; omega)) _ | refine Below.drew ?_))) (hb1.mono (by first | omega | (simp; done) | (simp; omega)))); clear hb1; obtain ⟨cF, fF, zF⟩ := blkC HF1.out) | (go_at_call 79; refine (WI.out _).mono ?_; rintro e w' ⟨rfl, rfl⟩))
  have CL1 := Lib.hid (fun W' (hB : Below w1.heap.size w1 W') => CL.out W' (B1.out.trans (hB.mono B1.out.size)))
  go_region_held3 (fun w' => (∀ o, w'.cell? ⟨w.heap.size, o, none⟩ = #[.int .i64 X, .int .i64 Y, .int .i64 W, .int .i64 H, .slice (some ⟨b, off, none⟩) n cap][o]?) ∧ Below w1.heap.size w1 w') (first | exact ⟨(blkC (blkStay HF1.out hb9)).1, hb9⟩ | exact ⟨(blkC (blkStay HF1.out (by repeat (first | exact Below.refl _ _ | refine Below.alloc ?_ (by first | omega | (simp; done) | (simp; omega)) _ | refine Below.setCell ?_ (by first | omega | (simp; done) | (simp; omega)) _ | refine Below.drew ?_)))).1, (by repeat (first | exact Below.refl _ _ | refine Below.alloc ?_ (by first | omega | (simp; done) | (simp; omega)) _ | refine Below.setCell ?_ (by first | omega | (simp; done) | (simp; omega)) _ | refine Below.drew ?_))⟩) (first
    | (go_at_call 115; (with_reducible refine Calls.mono (CL1.out _ ?_) ?_); exact (by repeat (first | exact Below.refl _ _ | refine Below.alloc ?_ (by first | omega | (simp; done) | (simp; omega)) _ | refine Below.setCell ?_ (by first | omega | (simp; done) | (simp; omega)) _ | refine Below.drew ?_)); rintro e w2 ⟨sb, sc, rfl, hg8, how8, hb8⟩; have HOW := Lib.hid ((ownsRow_flAt how8 HN1.out).1); have hb9 : Below w1.heap.size w1 w2 := Below.trans (by repeat (first | exact Below.refl _ _ | refine Below.alloc ?_ (by first | omega | (simp; done) | (simp; omega)) _ | refine Below.setCell ?_ (by first | omega | (simp; done) | (simp; omega)) _ | refine Below.drew ?_)) (Below.mono hb8 (by first | exact Nat.le_refl _ | (simp; done) | (simp; omega))); clear hb8 hg8 how8)
    | (go_at_call 114; (with_reducible refine Calls.mono (LV.out _ _ _ ?_) ?_); exact HOW.out; rintro e w3 ⟨lg, ll, lc, lk, rfl, hinf, hb8⟩; have HINF := Lib.hid hinf; have hb7 := hb9.trans (hb8.mono hb9.size); clear hb9 hb8 hinf; have hb9 := hb7; clear hb7))
  have hHeld := ‹_ ∧ Below w1.heap.size w1 _›
  have B3 := Lib.hid (B1.out.trans (hHeld.2.mono B1.out.size))
  clear hHeld
  by_cases hk : lk = 0
  · subst hk
    go_wp2
    go_ret2
    exact ⟨_, _, _, _, rfl, fun _ => ⟨⟨X, Y, W, H, sb, sc, v⟩, rfl, rfl, rfl, rfl, rfl, H1.out, H2.out, HINF.out trivial⟩, B3.out⟩
  · have hk2 : (lk != 0) = true := by simpa using hk
    have HK := Lib.hid hk
    clear hk
    go_wp2
    go_ret2
    exact ⟨_, _, _, _, rfl, fun z => absurd z HK.out, B3.out⟩

/-- Pyramid, of whatever field and number. -/
theorem pyramid_any (X Y W H : Int) (a : Option Addr) (n cap : Nat) (er m : Int) (w : World) (hE : SlE w a n cap er) (hF : er = 0 → n ≠ 0 → ∃ b off v, a = some ⟨b, off, none⟩ ∧ FlAt w b off n v ∧ allB n (fun i => hgtB (v i)) = true) :
    Calls Try.prog 49 #[fldV X Y W H (.slice a n cap), .int .i64 m] w fun e w' => ∃ g len cap' k, e = .returned (.tuple #[.slice g len cap', .int .i64 k]) ∧ (k = 0 → ∃ (W' H' m' b off : Nat) (v : Nat → Nat), W = W' ∧ H = H' ∧ m = m' ∧ n = W' * H' ∧ checkR X Y W H = 0 ∧ er = 0 ∧ a = some ⟨b, off, none⟩ ∧ FlAt w b off n v ∧ allB n (fun i => hgtB (v i)) = true ∧ PyInfo X Y W' H' n v m' g len w') ∧ Below w.heap.size w w' := by
  by_cases hz : fldChk X Y W H n er = 0
  · cases hm : withinB m 1 10 with
    | false =>
      refine (pyramid_range X Y W H a n cap er m w hE hz hm).mono ?_
      rintro e w' ⟨rfl, hb⟩
      exact ⟨_, _, _, _, rfl, fun z => absurd z (by decide), hb⟩
    | true =>
      obtain ⟨m1, m2⟩ := withinB_iff.1 hm
      obtain ⟨m', rfl⟩ : ∃ m' : Nat, m = m' := ⟨m.toNat, by omega⟩
      have h0 : checkR X Y W H = 0 := by
        unfold fldChk at hz
        by_cases q : checkR X Y W H = 0
        · exact q
        · rw [if_pos q] at hz; exact absurd hz q
      have hnn : (n : Int) = W * H := by
        unfold fldChk at hz
        rw [if_neg (by simpa using h0)] at hz
        by_cases q : (n : Int) = W * H
        · exact q
        · rw [if_pos q] at hz; cases hz
      have her : er = 0 := by
        unfold fldChk at hz
        rwa [if_neg (by simpa using h0), if_neg (by simpa using hnn)] at hz
      obtain ⟨b1, b2, b3, b4, b5, b6, b7, b8, b9⟩ := checkR_zero h0
      obtain ⟨W', rfl⟩ : ∃ W' : Nat, W = W' := ⟨W.toNat, by omega⟩
      obtain ⟨H', rfl⟩ : ∃ H' : Nat, H = H' := ⟨H.toNat, by omega⟩
      have hn : n = W' * H' := by
        have : ((W' * H' : Nat) : Int) = W' * H' := by simp
        omega
      have hn1 : n ≠ 0 := by
        have := (mul_side b1 b2 b3 b4).1
        omega
      obtain ⟨b, off, v, rfl, hr, hh⟩ := hF her hn1
      subst her
      refine (pyramid_ok X Y W' H' n b off cap v m' w hE h0 hn hr hh (by omega) (by omega)).mono ?_
      rintro e w' ⟨g, len, cap', k, rfl, hi, hb⟩
      exact ⟨g, len, cap', k, rfl, fun z => ⟨W', H', m', b, off, v, rfl, rfl, rfl, hn, h0, rfl, rfl, hr, hh, hi z⟩, hb⟩
  · refine (pyramid_chk X Y W H a n cap er m w hE hz).mono ?_
    rintro e w' ⟨rfl, hb⟩
    exact ⟨_, _, _, _, rfl, fun z => absurd z hz, hb⟩
end Go.Proofs.Ytkcehbnmcdppkaa

/- Contracts: Profile; Values. -/
namespace Go.Proofs.Ytkcehbnmcdppkaa
open Go.RowKit Fl
set_option linter.unusedVariables false

theorem insE_cases (X Y W H ax ay cx cy : Int) : insE X Y W H ax ay cx cy = 0 ∨ insE X Y W H ax ay cx cy = 5 := by unfold insE; (repeat' split) <;> simp
/-- What Profile answers. -/
def profE (X Y W H : Int) (n : Nat) (er ax ay cx cy : Int) : Int := if fldChk X Y W H n er ≠ 0 then fldChk X Y W H n er else insE X Y W H ax ay cx cy

/-- The value at a place. -/
def atP (X Y : Int) (W : Nat) (v : Nat → Nat) (p : Pnt) : Nat := v ((p.y - Y) * W + (p.x - X)).toNat
/-- Whether a place is in a region. -/
def InR (X Y W H : Int) (p : Pnt) : Prop := X ≤ p.x ∧ p.x < X + W ∧ Y ≤ p.y ∧ p.y < Y + H
theorem inR_num {X Y : Int} {W H n : Nat} {p : Pnt} (hW : 1 ≤ W) (h : InR X Y W H p) (hn : n = H * W) : ((((p.y - Y) * W + (p.x - X)).toNat : Nat) : Int) = (p.y - Y) * W + (p.x - X) ∧ ((p.y - Y) * W + (p.x - X)).toNat < n := by
  obtain ⟨h1, h2, h3, h4⟩ := h
  have q : 0 ≤ (p.y - Y) * W := Int.mul_nonneg (by omega) (by omega)
  have e : ((((p.y - Y) * W + (p.x - X)).toNat : Nat) : Int) = (p.y - Y) * W + (p.x - X) := Int.toNat_of_nonneg (by omega)
  exact ⟨e, num_lt hW h1 h2 h4 e hn⟩
theorem valueAtP_any (X Y : Int) (W H n b off cap : Nat) (v : Nat → Nat) (x y : Int) (w : World) (hr : FlAt w b off n v) (h0 : checkR X Y W H = 0) (hnn : n = W * H) (hp : InR X Y W H ⟨x, y⟩) :
    Calls Try.prog 157 #[fldV X Y W H (.slice (some ⟨b, off, none⟩) n cap), ptV x y] w fun e w' => e = .returned (.float .f32 (atP X Y W v ⟨x, y⟩)) ∧ Below w.heap.size w w' := by
  obtain ⟨b1, b2, b3, b4, b5, b6, b7, b8, b9⟩ := checkR_zero h0
  have hn2 : n ≤ 65536 := by
    have : ((W : Int) * (H : Int)) = (n : Int) := by rw [hnn]; simp
    omega
  have hn' : n = H * W := by rw [hnn, Nat.mul_comm]
  obtain ⟨e, _⟩ := inR_num (X := X) (Y := Y) (p := ⟨x, y⟩) (by omega) hp hn'
  exact valueAt_any X Y W H n b off cap v x y _ w hr hn2 (by omega) (by omega) (by omega) (by omega) (by omega) (by omega) (by omega) hn' hp.1 hp.2.1 hp.2.2.1 hp.2.2.2 e

/-- Profile's singles are there. -/
def ProfPost (w : World) (n : Nat) (f : Nat → Nat) (e : Ending) (w' : World) : Prop :=
  ∃ g cap, e = .returned (.tuple #[.slice (some ⟨g, 0, none⟩) n cap, .int .i64 0]) ∧ w.heap.size ≤ g ∧ FlAt w' g 0 n f ∧ Below w.heap.size w w'

end Go.Proofs.Ytkcehbnmcdppkaa

/- What a level loses of a cell; a block of singles that is written; lossesOf. -/
namespace Go.Proofs.Ytkcehbnmcdppkaa
open Go.RowKit Fl
set_option linter.unusedVariables false

/-- The difference of two heights: a word, with what bounds it. -/
theorem lost_parts {x y : Nat} (hx : hgtB x = true) (hy : hgtB y = true) : ∃ d a, floatBits .sub .f32 x y = some d ∧ d < 4294967296 ∧ vS d = some a ∧ (x = y → a = 0) ∧ ∀ (g : Nat) (A : Int), vS g = some A → InV A x → InV A y → (a.natAbs : Int) ≤ 2 * A := by
  obtain ⟨d, e, _, a, ha, _⟩ := sub_in (hgt_in hx) (hgt_in hy) (hgt_bd hx) (hgt_bd hy) (by omega) (rdS_dbl top_val)
  refine ⟨d, a, e, sub_lt e, ha, fun h => ?_, fun g A hg h1 h2 => ?_⟩
  · subst h
    obtain ⟨z, hz, _⟩ := hgt_val hx
    have := vS_sub (B := 1) e hz hz (by rw [Int.sub_self]; decide) (by omega)
    rw [Int.sub_self, rdS_zero, ha] at this
    exact Option.some.inj this
  · obtain ⟨d', e', _, a', ha', q1, q2⟩ := sub_in h1 h2 (hgt_bd hx) (hgt_bd hy) (by omega) (rdS_dbl hg)
    rw [e] at e'
    cases e'
    rw [ha] at ha'
    cases ha'
    omega
/-- A loss of the level k, as a word. -/
def LostOk (n : Nat) (v0 : Nat → Nat) (k x : Nat) : Prop := ∃ z : Int, vS x = some z ∧ 0 ≤ z ∧ (k = 0 → z = 0) ∧ ∀ (g : Nat) (A : Int), vS g = some A → (∀ i, i < n → InV A (v0 i)) → z ≤ 2 * A
theorem lost_zero {n : Nat} {v0 : Nat → Nat} (k : Nat) (hn : 1 ≤ n) : LostOk n v0 k 0 :=
  ⟨0, vS_zero, Int.le_refl _, fun _ => rfl, fun g A hg h => by obtain ⟨a, _, q1, q2⟩ := h 0 hn; omega⟩

theorem half_chain {f0 : Fd} {n : Nat} {v0 : Nat → Nat} {m : Nat} {T : Nat → Fd} (h : LvOf f0 n v0 m T) : ∀ l, l < m → f0.x = 2 ^ l * (T l).x ∧ f0.y = 2 ^ l * (T l).y ∧ f0.w = 2 ^ l * (T l).w ∧ f0.h = 2 ^ l * (T l).h := by
  intro l
  induction l with
  | zero => intro _; rw [h.first]; simp
  | succ l ih =>
    intro hl
    obtain ⟨a, b, c, d⟩ := ih (by omega)
    obtain ⟨a', b', c', d'⟩ := h.half l hl
    rw [a, b, c, d, a', b', c', d']
    refine ⟨?_, ?_, ?_, ?_⟩
    · rw [Int.pow_succ, Int.mul_assoc]
    · rw [Int.pow_succ, Int.mul_assoc]
    · rw [Nat.pow_succ, Nat.mul_assoc]
    · rw [Nat.pow_succ, Nat.mul_assoc]
theorem over_one {p X x : Int} {W w : Nat} {l : Nat} (hX : X = 2 ^ l * x) (hW : W = 2 ^ l * w) (h1 : X ≤ p) (h2 : p < X + W) : x ≤ p / 2 ^ l ∧ p / 2 ^ l < x + w := by
  have hp : (0 : Int) < 2 ^ l := Int.pow_pos (by decide)
  constructor
  · rw [Int.le_ediv_iff_mul_le hp, Int.mul_comm, ← hX]; exact h1
  · rw [Int.ediv_lt_iff_lt_mul hp, Int.add_mul, Int.mul_comm x, ← hX, Int.mul_comm (w : Int)]
    have : ((W : Nat) : Int) = 2 ^ l * (w : Int) := by rw [hW]; simp
    omega

theorem lost_max {n : Nat} {v0 : Nat → Nat} {k x r : Nat} {z a : Int} (hz : LostOk n v0 k x) (hx : vS x = some z) (ha : vS r = some (if z < a then a else z)) (h0 : 0 ≤ a) (h1 : k = 0 → a = 0) (h2 : ∀ (g : Nat) (A : Int), vS g = some A → (∀ i, i < n → InV A (v0 i)) → a ≤ 2 * A) : LostOk n v0 k r := by
  obtain ⟨z', hz', q1, q2, q3⟩ := hz
  rw [hx] at hz'
  cases hz'
  refine ⟨_, ha, by split <;> omega, fun h => by rw [q2 h, h1 h]; simp, fun g A hg h => ?_⟩
  have := q3 g A hg h
  have := h2 g A hg h
  split <;> omega
theorem atP_own {X Y : Int} {W : Nat} {v : Nat → Nat} {i : Nat} (hW : 1 ≤ W) : atP X Y W v ⟨X + ((i % W : Nat) : Int), Y + ((i / W : Nat) : Int)⟩ = v i := by
  unfold atP
  simp only
  congr 1
  have h := Nat.div_add_mod i W
  obtain ⟨a, ha⟩ : ∃ a, i % W = a := ⟨_, rfl⟩
  obtain ⟨b, hb⟩ : ∃ b, i / W = b := ⟨_, rfl⟩
  rw [ha, hb] at h ⊢
  rw [show Y + (b : Int) - Y = b by omega, show X + (a : Int) - X = a by omega]
  have : ((b : Int) * W + a) = ((W * b + a : Nat) : Int) := by simp [Int.mul_comm]
  rw [this, h]
  simp
/-- A block of singles. -/
def FlsAt (w : World) (b n : Nat) (c : Nat → Nat) : Prop := ∃ cs : Array Value, w.heap[b]? = some (.cells cs 22 (0, 0)) ∧ cs.size = n ∧ ∀ i, i < n → cs[i]? = some (.float .f32 (c i))
theorem FlsAt.congr {w w' : World} {b n : Nat} {c : Nat → Nat} (h : FlsAt w b n c) (e : w'.heap[b]? = w.heap[b]?) : FlsAt w' b n c := by
  obtain ⟨cs, h1, h2⟩ := h
  exact ⟨cs, e.trans h1, h2⟩
theorem FlsAt.cell {w : World} {b n : Nat} {c : Nat → Nat} (h : FlsAt w b n c) {i : Nat} (hi : i < n) : w.cell? ⟨b, i, none⟩ = some (.float .f32 (c i)) ∧ w.frozen? ⟨b, i, none⟩ = false ∧ b < w.heap.size := by
  obtain ⟨cs, h1, h2, h3⟩ := h
  obtain ⟨c, f, z⟩ := blkC h1
  exact ⟨(c i).trans (h3 i hi), f i, z⟩
theorem FlsAt.put {w : World} {b n : Nat} {c : Nat → Nat} (h : FlsAt w b n c) {k : Nat} (x : Nat) (hk : k < n) : FlsAt (w.setCell ⟨b, k, none⟩ (.float .f32 x)) b n (updW c k x) := by
  obtain ⟨cs, h1, h2, h3⟩ := h
  refine ⟨_, heap_setCell_same w b k _ _ _ h1, by simpa using h2, fun i hi => ?_⟩
  rw [Array.getElem?_setIfInBounds]
  by_cases e : k = i
  · subst e; rw [if_pos rfl, if_pos (by omega), updW_same]
  · rw [if_neg e, updW_other c (by omega)]; exact h3 i hi
theorem FlsAt.lt {w : World} {b n : Nat} {c : Nat → Nat} (h : FlsAt w b n c) : b < w.heap.size := by
  obtain ⟨cs, h1, _⟩ := h
  exact (blkC h1).2.2
theorem FlsAt.row {w : World} {b n : Nat} {c : Nat → Nat} (h : FlsAt w b n c) : FlAt w b 0 n c := fun i hi => by rw [Nat.zero_add]; exact (h.cell hi).1
theorem made_fls {w : World} {n p : Nat} (h : w.heap[p]? = some (.cells (madeCells #[Value.float .f32 0] n) 22)) : FlsAt w p n (fun _ => 0) :=
  ⟨_, h, by simp [madeCells], fun i hi => by simp [madeCells, hi, Nat.mod_one]⟩

/-- Behind the beginning of lossesOf: the first field's box, and the losses' block. -/
def LosAt (w : World) (f0 : Fd) (m : Nat) (s3 s4 : Value) (wx : World) : Prop :=
  ∃ p q, s3 = .pointer (some ⟨p, 0, none⟩) ∧ s4 = .slice (some ⟨q, 0, none⟩) m m ∧ wx.heap[p]? = some (.cells f0.cells 41) ∧ FlsAt wx q m (fun _ => 0) ∧ Below w.heap.size w wx ∧ w.heap.size ≤ p ∧ w.heap.size ≤ q ∧ p ≠ q
/-- The losses are there. -/
def LossPost (w : World) (n : Nat) (v0 : Nat → Nat) (m : Nat) (e : Ending) (w' : World) : Prop :=
  ∃ g ls, e = .returned (.slice (some ⟨g, 0, none⟩) m m) ∧ w.heap.size ≤ g ∧ FlAt w' g 0 m ls ∧ (∀ j, j < m → LostOk n v0 j (ls j)) ∧ Below w.heap.size w w'

set_option maxRecDepth 100000 in
set_option maxHeartbeats 4000000 in
theorem lossesOf_any (f0 : Fd) (n : Nat) (v0 : Nat → Nat) (m g cap : Nat) (T : Nat → Fd) (w : World) (hn : n = f0.w * f0.h) (hv : ∀ i, i < n → f0.v i = v0 i) (h1 : 1 ≤ m) (h2 : m ≤ 10) (hrow : FdRow w g m T) (hok : ∀ i, i < m → FdOk w (T i)) (hl : LvOf f0 n v0 m T) :
    Calls Try.prog 116 #[.slice (some ⟨g, 0, none⟩) m cap] w (LossPost w n v0 m) := by
  have hf0 : FdOk w f0 := by have := hok 0 (by omega); rwa [hl.first] at this
  obtain ⟨p1, p2, p3, p4, p5, p6, p7⟩ := hf0.parts
  have HROW := Lib.hid hrow
  have HOK := Lib.hid hok
  have HL := Lib.hid hl
  have HF0 := Lib.hid hf0
  obtain ⟨c0, c1, c2, c3, c4, zg⟩ := fd_at hrow (show 0 < m by omega)
  rw [Nat.zero_mul] at c0 c1 c2 c3 c4
  rw [hl.first] at c0 c1 c2 c3 c4
  have MK := make_f32 m (by omega)
  have m1 : (1 : Int) ≤ (m : Int) := by omega
  have m2 : (m : Int) ≤ 10 := by omega
  obtain ⟨fx, hfx⟩ : ∃ fx, f0.x = fx := ⟨_, rfl⟩
  obtain ⟨fy, hfy⟩ : ∃ fy, f0.y = fy := ⟨_, rfl⟩
  obtain ⟨fw, hfw⟩ : ∃ fw, f0.w = fw := ⟨_, rfl⟩
  obtain ⟨fh, hfh⟩ : ∃ fh, f0.h = fh := ⟨_, rfl⟩
  obtain ⟨fb, hfb⟩ : ∃ fb, f0.b = fb := ⟨_, rfl⟩
  obtain ⟨fc, hfc⟩ : ∃ fc, f0.cap = fc := ⟨_, rfl⟩
  have HCL := Lib.hid (show f0.cells = #[.int .i64 fx, .int .i64 fy, .int .i64 fw, .int .i64 fh, .slice (some ⟨fb, 0, none⟩) n fc] from by rw [← hfx, ← hfy, ← hfw, ← hfh, ← hfb, ← hfc, hn])
  rw [hfx] at c0
  rw [hfy] at c1
  rw [hfw] at c2
  rw [hfh] at c3
  have c4' : w.cell? ⟨g, 0 + 4, none⟩ = some (.slice (some ⟨fb, 0, none⟩) n fc) := by rw [c4, ← hfb, ← hfc, hn]
  clear c4
  have HN := Lib.hid hn
  have HV := Lib.hid hv
  have H1 := Lib.hid h1
  have H2 := Lib.hid h2
  have hfx2 := Lib.hid hfx
  have hfy2 := Lib.hid hfy
  have hfw2 := Lib.hid hfw
  have hfh2 := Lib.hid hfh
  have hfb2 := Lib.hid hfb
  clear hn hv h1 h2 hrow hok hl hf0 hfx hfy hfw hfh hfb hfc
  go_enter Try.func116, Try.ntmps116
  go_upto_region 1 with fail
  go_cut [3, 4] from 10 to 15 (fun s3 s4 wx => LosAt w f0 m s3 s4 wx)
  case first =>
    go_region
    all_goals
      go_wp2_with fail
      go_meet
      case rel =>
        refine ⟨_, _, rfl, rfl, ptDrew ?_, made_fls (ptDrew ?_), (by repeat (first | exact Below.refl _ _ | refine Below.alloc ?_ (by first | omega | (simp; done) | (simp; omega)) _ | refine Below.setCell ?_ (by first | omega | (simp; done) | (simp; omega)) _ | refine Below.drew ?_)), by omega, by omega, by omega⟩
        · rw [HCL.out]; (first | (rw [heap_alloc_get, if_pos rfl]; done) | ((simp only [heap_alloc_get, heap_size_alloc, if_true]) <;> ((repeat' split) <;> first | rfl | omega)))
        · (first | (rw [heap_alloc_get, if_pos rfl]; done) | ((simp only [heap_alloc_get, heap_size_alloc, if_true]) <;> ((repeat' split) <;> first | rfl | omega)))
  case rest =>
    obtain ⟨p, q, rfl, rfl, hp0, hq0, hb0, hpl, hql, hpq⟩ := hcut
    rw [HCL.out] at hp0
    have HP0 := Lib.hid hp0
    have HQ0 := Lib.hid hq0
    have HB0 := Lib.hid hb0
    clear hp0 hq0 hb0 c0 c1 c2 c3 c4' MK
    go_wp2_with fail
    go_loopw [18] (fun s18 wr => ∃ (k : Nat) (ls : Nat → Nat), k ≤ m ∧ s18 = .int .i64 k ∧ FlsAt wr q m ls ∧ (∀ j, j < m → LostOk n v0 j (ls j)) ∧ wr.heap[p]? = some (fldO fx fy fw fh (.slice (some ⟨fb, 0, none⟩) n fc)) ∧ Below w.heap.size w wr) (fun s18 _ => m - (intOf s18).toNat)
    case atStart => exact ⟨0, _, Nat.zero_le _, rfl, HQ0.out, fun j hj => lost_zero j (by rw [HN.out]; omega), HP0.out, HB0.out⟩
    case round =>
      obtain ⟨k, ls, hk, rfl, hq, hlost, hp, hb⟩ := hrel
      have HQ := Lib.hid hq
      have HLO := Lib.hid hlost
      have HP := Lib.hid hp
      have HB := Lib.hid hb
      clear hq hlost hp
      by_cases hlt : k < m
      · obtain ⟨c0, c1, c2, c3, c4, zg'⟩ := fd_at (HROW.out.stay hb) hlt
        have HLT := Lib.hid hlt
        have HFK := Lib.hid (HOK.out k hlt)
        obtain ⟨tx, htx⟩ : ∃ tx, (T k).x = tx := ⟨_, rfl⟩
        obtain ⟨ty, hty⟩ : ∃ ty, (T k).y = ty := ⟨_, rfl⟩
        obtain ⟨tw, htw⟩ : ∃ tw, (T k).w = tw := ⟨_, rfl⟩
        obtain ⟨th, hth⟩ : ∃ th, (T k).h = th := ⟨_, rfl⟩
        obtain ⟨tb, htb⟩ : ∃ tb, (T k).b = tb := ⟨_, rfl⟩
        obtain ⟨tn, htn⟩ : ∃ tn, (T k).w * (T k).h = tn := ⟨_, rfl⟩
        obtain ⟨tc, htc⟩ : ∃ tc, (T k).cap = tc := ⟨_, rfl⟩
        obtain ⟨h1, h2, h3, h4⟩ := half_chain HL.out k hlt
        have HBD := Lib.hid (HL.out.bd k hlt)
        have T0 := Lib.hid (fun h : k = 0 => show T k = f0 from by rw [h]; exact HL.out.first)
        have zT := (HOK.out k hlt).parts.2.2.2.2.2.2
        have VA := Lib.hid (fun x y W' (hp : InR tx ty tw th ⟨x, y⟩) (hB : Below w.heap.size w W') => show Calls Try.prog 157 #[fldV tx ty tw th (.slice (some ⟨tb, 0, none⟩) tn tc), ptV x y] W' fun e w' => e = .returned (.float .f32 (atP tx ty tw (T k).v ⟨x, y⟩)) ∧ Below W'.heap.size W' w' from by
          have hk' := (HOK.out k hlt).stay hB
          rw [← htx, ← hty, ← htw, ← hth, ← htb, ← htn, ← htc]
          exact valueAtP_any (T k).x (T k).y (T k).w (T k).h _ (T k).b 0 (T k).cap (T k).v x y W' hk'.row hk'.reg rfl (by rw [htx, hty, htw, hth]; exact hp))
        have OV := Lib.hid (fun px py (q1 : fx ≤ px ∧ px < fx + fw) (q2 : fy ≤ py ∧ py < fy + fh) => show InR tx ty tw th ⟨px / 2 ^ k, py / 2 ^ k⟩ from by
          obtain ⟨o1, o2⟩ := over_one (l := k) h1 h3 (p := px) (by rw [hfx2.out]; exact q1.1) (by rw [hfx2.out, hfw2.out]; exact q1.2)
          obtain ⟨o3, o4⟩ := over_one (l := k) h2 h4 (p := py) (by rw [hfy2.out]; exact q2.1) (by rw [hfy2.out, hfh2.out]; exact q2.2)
          rw [htx, htw] at o2
          rw [htx] at o1
          rw [hty, hth] at o4
          rw [hty] at o3
          exact ⟨o1, o2, o3, o4⟩)
        have HGT := Lib.hid (fun x y (hp : InR tx ty tw th ⟨x, y⟩) => show hgtB (atP tx ty tw (T k).v ⟨x, y⟩) = true ∧ ∀ (g : Nat) (A : Int), vS g = some A → (∀ i, i < n → InV A (v0 i)) → InV A (atP tx ty tw (T k).v ⟨x, y⟩) from by
          have q := (inR_num (X := tx) (Y := ty) (W := tw) (H := th) (n := tn) (p := ⟨x, y⟩) (by have := (HOK.out k hlt).parts.1; omega) hp (by rw [← htn, htw, hth, Nat.mul_comm])).2
          rw [← htn] at q
          exact ⟨allB_iff.1 (HOK.out k hlt).hgt _ q, fun g A hg hA => HBD.out g A hg hA _ q⟩)
        rw [htx] at c0
        rw [hty] at c1
        rw [htw] at c2
        rw [hth] at c3
        rw [show (T k).sl = .slice (some ⟨tb, 0, none⟩) tn tc from by rw [← htb, ← htn, ← htc]] at c4
        have HTE := Lib.hid (And.intro htx (And.intro hty htw))
        obtain ⟨cP, fP, zP⟩ := blkC HP.out
        have HKM := Lib.hid hk
        clear h1 h2 h3 h4 htx hty htw hth htb htn htc hk
        generalize hTv : (T k).v = tv at *
        go_wp2_with fail
        have HX := Lib.hid (show (wr.alloc (fldO tx ty tw th (.slice (some ⟨tb, 0, none⟩) tn tc))).heap[wr.heap.size]? = some (fldO tx ty tw th (.slice (some ⟨tb, 0, none⟩) tn tc)) from heap_alloc_new _ _)
        have BX := Lib.hid (show Below wr.heap.size wr (wr.alloc (fldO tx ty tw th (.slice (some ⟨tb, 0, none⟩) tn tc))) from (by repeat (first | exact Below.refl _ _ | refine Below.alloc ?_ (by first | omega | (simp; done) | (simp; omega)) _ | refine Below.setCell ?_ (by first | omega | (simp; done) | (simp; omega)) _ | refine Below.drew ?_)))
        obtain ⟨xb, hxb⟩ : ∃ xb, xb = wr.heap.size := ⟨_, rfl⟩
        have HXB := Lib.hid hxb
        have HQX := Lib.hid (HQ.out.congr (BX.out.block q HQ.out.lt))
        have HPX := Lib.hid (blkStay HP.out BX.out)
        have BWX := Lib.hid (HB.out.trans (BX.out.mono HB.out.size))
        have HQL := Lib.hid HQ.out.lt
        have hqx : q < xb := by rw [hxb]; exact HQ.out.lt
        rw [← hxb] at HX ⊢
        clear hxb cP fP zP c0 c1 c2 c3 c4
        generalize wr.alloc (fldO tx ty tw th (.slice (some ⟨tb, 0, none⟩) tn tc)) = wx at *
        go_loopw [26] (fun s26 wi => ∃ (i : Nat) (ls : Nat → Nat), i ≤ n ∧ s26 = .int .i64 i ∧ FlsAt wi q m ls ∧ (∀ j, j < m → LostOk n v0 j (ls j)) ∧ wi.heap[p]? = some (fldO fx fy fw fh (.slice (some ⟨fb, 0, none⟩) n fc)) ∧ wi.heap[xb]? = some (fldO tx ty tw th (.slice (some ⟨tb, 0, none⟩) tn tc)) ∧ Below w.heap.size w wi) (fun s26 _ => n - (intOf s26).toNat)
        case atStart => exact ⟨0, ls, Nat.zero_le _, rfl, HQX.out, HLO.out, HPX.out, HX.out, BWX.out⟩
        case round =>
          clear HQ HLO HP HX BX HQX HPX BWX HQL
          obtain ⟨i, ls, hi, rfl, hq, hlost, hp, hx, hb⟩ := hrel
          have HQ := Lib.hid hq
          have HLO := Lib.hid hlost
          have HP := Lib.hid hp
          have HX := Lib.hid hx
          have HBI := Lib.hid hb
          clear hq hlost hp hx
          by_cases hli : i < n
          · have HLI := Lib.hid hli
            have hcv := (flAt_congr HF0.out.row (hb.block _ p7)) i (by rw [← HN.out]; exact hli)
            rw [hfb2.out, Nat.zero_add] at hcv
            clear hb
            obtain ⟨b1, b2, b3, b4, b5, b6, b7, b8, b9⟩ := checkR_zero HF0.out.reg
            have hn2 : n ≤ 65536 := by rw [HN.out]; exact HF0.out.parts.2.2.2.2.2.1
            have hi6 : i < 65536 := by omega
            rw [hfx2.out] at b6 b7
            rw [hfy2.out] at b8 b9
            rw [hfw2.out] at b1 b2 b7
            rw [hfh2.out] at b3 b4 b9
            have hnh : n = fw * fh := by rw [HN.out, hfw2.out, hfh2.out]
            have PL := Lib.hid (fun w => place_any fx fy fw fh i w (by omega) (by omega) (by omega) (by omega) (by omega) (by omega) hi6)
            have hdm := Nat.div_add_mod i fw
            have hml := Nat.mod_lt i (show 0 < fw by omega)
            have hdl : i / fw < fh := Nat.div_lt_of_lt_mul (by rw [← hnh]; exact hli)
            have HOWN : ∀ v : Nat → Nat, atP fx fy fw v ⟨fx + ((i % fw : Nat) : Int), fy + ((i / fw : Nat) : Int)⟩ = v i := fun v => atP_own (by omega)
            obtain ⟨ai, hai⟩ : ∃ ai, i % fw = ai := ⟨_, rfl⟩
            obtain ⟨bi, hbi⟩ : ∃ bi, i / fw = bi := ⟨_, rfl⟩
            rw [hai] at hml hdm PL HOWN
            rw [hbi] at hdl hdm PL HOWN
            obtain ⟨px, hpx⟩ : ∃ px : Int, fx + (ai : Int) = px := ⟨_, rfl⟩
            obtain ⟨py, hpy⟩ : ∃ py : Int, fy + (bi : Int) = py := ⟨_, rfl⟩
            rw [hpx, hpy] at PL
            have HIR := OV.out px py ⟨by omega, by omega⟩ ⟨by omega, by omega⟩
            have CO := Lib.hid (fun w => cellOver_any px py k w (by have := H2.out; have := HLT.out; omega))
            obtain ⟨hg1, hg2⟩ := HGT.out _ _ HIR
            have VAI := Lib.hid (fun W' hB => VA.out (px / 2 ^ k) (py / 2 ^ k) W' HIR hB)
            obtain ⟨u, hu⟩ : ∃ u, atP tx ty tw tv ⟨px / 2 ^ k, py / 2 ^ k⟩ = u := ⟨_, rfl⟩
            rw [hu] at hg1 hg2 VAI
            obtain ⟨vi, hvi⟩ : ∃ vi, f0.v i = vi := ⟨_, rfl⟩
            rw [hvi] at hcv
            have hgv : hgtB vi = true := by rw [← hvi]; exact allB_iff.1 HF0.out.hgt i (by rw [← HN.out]; exact hli)
            obtain ⟨d, a, e1, dlt, vd, hz0, hbd⟩ := lost_parts hgv hg1
            have HZ : k = 0 → (a.natAbs : Int) = 0 := fun z => by
              have et := T0.out z
              obtain ⟨htx, hty, htw⟩ := HTE.out
              have : vi = u := by
                rw [← hu, ← hTv, ← hvi, ← htx, ← hty, ← htw, et, z, Int.pow_zero, Int.ediv_one, Int.ediv_one, ← hpx, ← hpy, hfx2.out, hfy2.out, hfw2.out]
                exact (HOWN _).symm
              rw [hz0 this]
              rfl
            have HBD2 : ∀ (g : Nat) (A : Int), vS g = some A → (∀ i, i < n → InV A (v0 i)) → (a.natAbs : Int) ≤ 2 * A := fun g A hg hA => hbd g A hg (by have := hA i hli; rwa [← HV.out i hli, hvi] at this) (hg2 g A hg hA)
            have MG := Lib.hid (fun w => magn_any d dlt vd w)
            have x1 := fun (ww : World) => run_float_arith (P := Try.prog) ww .sub 22 .f32 vi u d e1
            have HLZ := Lib.hid (HLO.out k HLT.out)
            have HZH := Lib.hid HZ
            have HBH := Lib.hid HBD2
            have hii : (i : Int) < (n : Int) := by omega
            have hnn2 : (n : Int) ≤ 65536 := by omega
            obtain ⟨cQ, fQ, zQ⟩ := HQ.out.cell HLT.out
            obtain ⟨cP, fP, zP⟩ := blkC HP.out
            clear hTv HOWN hai hbi hdm hml hdl hpx hpy hnh hi6 HIR hg1 hg2 hu hvi hgv e1 dlt vd hz0 hbd HZ HBD2 b1 b2 b3 b4 b5 b6 b7 b8 b9 hn2
            generalize px / 2 ^ k = ox at *
            generalize py / 2 ^ k = oy at *
            clear cQ fQ zQ
            go_upto_region 8 with fail
            clear hcv
            go_region_held3 (fun w' => (∀ o, w'.cell? ⟨p, o, none⟩ = #[.int .i64 fx, .int .i64 fy, .int .i64 fw, .int .i64 fh, .slice (some ⟨fb, 0, none⟩) n fc][o]?) ∧ (∀ o, w'.cell? ⟨xb, o, none⟩ = #[.int .i64 tx, .int .i64 ty, .int .i64 tw, .int .i64 th, .slice (some ⟨tb, 0, none⟩) tn tc][o]?) ∧ Below wr.heap.size wr w') (exact (fun K => ⟨(blkC (blkStay HP.out K)).1, (blkC (blkStay HX.out K)).1, K⟩) (by repeat (first | exact hb9 | exact Below.refl _ _ | refine Below.drew ?_ | refine Below.alloc ?_ (by first | exact Nat.le_refl _ | exact hb9.size | (simp; done) | (have := hb9.size; simp; omega) | (simp; omega)) _))) (first
              | (go_at_call 159; (with_reducible refine Calls.mono (PL.out _) ?_); rintro e w7 ⟨rfl, hb8⟩; have hb7 : Below wr.heap.size wr w7 := Below.trans (by repeat (first | exact hb9 | exact Below.refl _ _ | refine Below.drew ?_ | refine Below.alloc ?_ (by first | exact Nat.le_refl _ | exact hb9.size | (simp; done) | (have := hb9.size; simp; omega) | (simp; omega)) _)) (Below.mono hb8 (by first | exact Nat.le_refl _ | exact hb9.size | (simp; done) | (have := hb9.size; simp; omega) | (simp; omega))); clear hb8; (try clear hb9); have hb9 := hb7; clear hb7)
              | (go_at_call 158; (with_reducible refine Calls.mono (CO.out _) ?_); rintro e w7 ⟨rfl, hb8⟩; have hb7 : Below wr.heap.size wr w7 := Below.trans (by repeat (first | exact hb9 | exact Below.refl _ _ | refine Below.drew ?_ | refine Below.alloc ?_ (by first | exact Nat.le_refl _ | exact hb9.size | (simp; done) | (have := hb9.size; simp; omega) | (simp; omega)) _)) (Below.mono hb8 (by first | exact Nat.le_refl _ | exact hb9.size | (simp; done) | (have := hb9.size; simp; omega) | (simp; omega))); clear hb8; (try clear hb9); have hb9 := hb7; clear hb7)
              | (go_at_call 157; (with_reducible refine Calls.mono (VAI.out _ (HBI.out.trans (Below.mono (by repeat (first | exact hb9 | exact Below.refl _ _ | refine Below.drew ?_ | refine Below.alloc ?_ (by first | exact Nat.le_refl _ | exact hb9.size | (simp; done) | (have := hb9.size; simp; omega) | (simp; omega)) _)) HBI.out.size))) ?_); rintro e w7 ⟨rfl, hb8⟩; have hb7 : Below wr.heap.size wr w7 := Below.trans (by repeat (first | exact hb9 | exact Below.refl _ _ | refine Below.drew ?_ | refine Below.alloc ?_ (by first | exact Nat.le_refl _ | exact hb9.size | (simp; done) | (have := hb9.size; simp; omega) | (simp; omega)) _)) (Below.mono hb8 (by first | exact Nat.le_refl _ | exact hb9.size | (simp; done) | (have := hb9.size; simp; omega) | (simp; omega))); clear hb8; (try clear hb9); have hb9 := hb7; clear hb7)
              | (go_at_call 125; (with_reducible refine Calls.mono (MG.out _) ?_); rintro e w7 ⟨⟨r, rfl, hvr⟩, rfl⟩; have HVR := Lib.hid hvr; clear hvr))
            have HQ7 := Lib.hid (HQ.out.congr (hb9.block q HQ.out.lt))
            have HP7 := Lib.hid (blkStay HP.out hb9)
            have HX7 := Lib.hid (blkStay HX.out hb9)
            have B7 := Lib.hid (HBI.out.trans (hb9.mono HBI.out.size))
            clear CO PL VAI MG x1 cP fP zP HQ HP HX HBI
            obtain ⟨z, hz, z0, z1, z2⟩ := HLZ.out
            obtain ⟨qq, mx, vq, _⟩ := run_max_two #[22, 22] 22 hz HVR.out
            have VQ := Lib.hid vq
            have HZZ := Lib.hid hz
            have hsf := fun (w : World) (a : Addr) (m : Mode) (k : FloatKind) (b : Nat) => run_store_float (P := Try.prog) (w := w) (a := a) (m := m) k b
            obtain ⟨cQ, fQ, zQ⟩ := HQ7.out.cell HLT.out
            clear z0 z1 z2 vq hz
            go_wp2_with fail
            go_roundw
            case rel =>
              refine ⟨i + 1, updW ls k qq, by omega, by go_num, HQ7.out.put qq HLT.out, fun j hj => ?_, ?_, ?_, Below.setCell B7.out (by omega) _⟩
              · by_cases e : j = k
                · subst e
                  rw [updW_same]
                  exact lost_max HLZ.out HZZ.out VQ.out (by omega) HZH.out HBH.out
                · rw [updW_other ls (by omega)]
                  exact HLO.out j hj
              · exact (heap_setCell_other _ _ p _ hpq).trans HP7.out
              · exact (heap_setCell_other _ _ xb _ (Nat.ne_of_gt hqx)).trans HX7.out
            case measure => simp [intOf]; omega
          · have hin : i = n := by omega
            subst hin
            go_wp2
            go_roundw
            case rel => exact ⟨k + 1, ls, HLT.out, by go_num, HQ.out, HLO.out, HP.out, HBI.out⟩
            case measure => have := HLT.out; simp [intOf]; omega
      · have hkm : k = m := by omega
        subst hkm
        go_wp2
        go_ret
        exact ⟨q, ls, rfl, hql, HQ.out.row, HLO.out, HB.out⟩
end Go.Proofs.Ytkcehbnmcdppkaa

/- Contract: Losses. -/
namespace Go.Proofs.Ytkcehbnmcdppkaa
open Go.RowKit Fl
set_option linter.unusedVariables false

/-- lossesOf, of the levels that Pyramid makes. -/
theorem lossesOf_py (X Y : Int) (W H n : Nat) (v : Nat → Nat) (m : Nat) (g : Option Addr) (len cap : Nat) (w : World) (hn : n = W * H) (h : PyInfo X Y W H n v m g len w) :
    Calls Try.prog 116 #[.slice g len cap] w (LossPost w n v m) := by
  obtain ⟨f0, rfl, rfl, rfl, rfl, rfl, h1, h2, gb, T, rfl, rfl, hrow, hok, hl⟩ := h
  have hin : FdIn n f0.v f0 := fun g A _ hA j hj => hA j (by rw [hn]; exact hj)
  exact lossesOf_any f0 n f0.v len gb cap T w hn (fun i _ => rfl) h1 h2 hrow hok (hl n f0.v hin)

/-- What is known of losses, if there is no error. -/
def LsInfo (n : Nat) (v : Nat → Nat) (m : Nat) (g : Option Addr) (len : Nat) (w' : World) : Prop :=
  ∃ gb ls, g = some ⟨gb, 0, none⟩ ∧ len = m ∧ FlAt w' gb 0 m ls ∧ ∀ j, j < m → LostOk n v j (ls j)

/-- Pyramid, of a field that was there in an elder world. -/
theorem pyramid_at (X Y W H : Int) (a : Option Addr) (n cap : Nat) (er m : Int) (w : World) (hE : SlE w a n cap er) (hF : er = 0 → n ≠ 0 → ∃ b off v, a = some ⟨b, off, none⟩ ∧ FlAt w b off n v ∧ allB n (fun i => hgtB (v i)) = true) (w1 : World) (hB : Below w.heap.size w w1) :
    Calls Try.prog 49 #[fldV X Y W H (.slice a n cap), .int .i64 m] w1 fun e w' => ∃ g len cap' k, e = .returned (.tuple #[.slice g len cap', .int .i64 k]) ∧ (k = 0 → ∃ (W' H' m' b off : Nat) (v : Nat → Nat), W = W' ∧ H = H' ∧ m = m' ∧ n = W' * H' ∧ checkR X Y W H = 0 ∧ er = 0 ∧ a = some ⟨b, off, none⟩ ∧ FlAt w b off n v ∧ allB n (fun i => hgtB (v i)) = true ∧ PyInfo X Y W' H' n v m' g len w') ∧ Below w1.heap.size w1 w' := by
  refine (pyramid_any X Y W H a n cap er m w1 (hE.stay hB) (fun h1 h2 => by
    obtain ⟨b, off, v, rfl, hr, hh⟩ := hF h1 h2
    exact ⟨b, off, v, rfl, flAt_congr hr (hB.block b (World.block_lt_of_cell? w _ (hr 0 (by omega)))), hh⟩)).mono ?_
  rintro e w' ⟨g, len, cap', k, rfl, hi, hb⟩
  refine ⟨g, len, cap', k, rfl, fun z => ?_, hb⟩
  obtain ⟨W', H', m', b, off, v, hW, hH, hm, hn, h0, he, ha, hr, hh, hp⟩ := hi z
  subst hW hH
  obtain ⟨b1, b2, b3, b4, b5, b6, b7, b8, b9⟩ := checkR_zero h0
  have hn1 : 1 ≤ n := by rw [hn]; exact Nat.mul_pos (by omega) (by omega)
  obtain ⟨b0, off0, v0, e0, hr0, _⟩ := hF he (by omega)
  rw [ha] at e0
  obtain ⟨rfl, rfl⟩ : b = b0 ∧ off = off0 := by simpa using e0
  have hz := World.block_lt_of_cell? w _ (hr0 0 hn1)
  exact ⟨W', H', m', b, off, v, rfl, rfl, hm, hn, h0, he, ha, flAt_congr hr (hB.block b hz).symm, hh, hp⟩

theorem lossesOf_at (k : Int) (h : k = 0) {X Y W H : Int} {a : Option Addr} {n len cap : Nat} {er m : Int} {g : Option Addr} {w w1 : World} (hi : k = 0 → ∃ (W' H' m' b off : Nat) (v : Nat → Nat), W = W' ∧ H = H' ∧ m = m' ∧ n = W' * H' ∧ checkR X Y W H = 0 ∧ er = 0 ∧ a = some ⟨b, off, none⟩ ∧ FlAt w b off n v ∧ allB n (fun i => hgtB (v i)) = true ∧ PyInfo X Y W' H' n v m' g len w1) :
    ∃ (W' H' m' b off : Nat) (v : Nat → Nat), W = W' ∧ H = H' ∧ m = m' ∧ n = W' * H' ∧ checkR X Y W H = 0 ∧ er = 0 ∧ a = some ⟨b, off, none⟩ ∧ FlAt w b off n v ∧ allB n (fun i => hgtB (v i)) = true ∧ 1 ≤ m' ∧ m' ≤ 10 ∧ Calls Try.prog 116 #[.slice g len cap] w1 (LossPost w1 n v m') := by
  obtain ⟨W', H', m', b, off, v, hW, hH, hm, hn, h0, he, ha, hr, hh, hp⟩ := hi h
  have hp' := hp
  obtain ⟨f0, _, _, _, _, _, q1, q2, _⟩ := hp'
  exact ⟨W', H', m', b, off, v, hW, hH, hm, hn, h0, he, ha, hr, hh, q1, q2, lossesOf_py X Y W' H' n v m' g len cap w1 hn hp⟩

set_option maxHeartbeats 4000000 in
theorem losses_any (X Y W H : Int) (a : Option Addr) (n cap : Nat) (er m : Int) (w : World) (hE : SlE w a n cap er) (hF : er = 0 → n ≠ 0 → ∃ b off v, a = some ⟨b, off, none⟩ ∧ FlAt w b off n v ∧ allB n (fun i => hgtB (v i)) = true) (w0 : World) (hB0 : Below w.heap.size w w0) :
    Calls Try.prog 50 #[fldV X Y W H (.slice a n cap), .int .i64 m] w0 fun e w' => ∃ g len cap' k, e = .returned (.tuple #[.slice g len cap', .int .i64 k]) ∧ (k = 0 → ∃ (W' H' m' b off : Nat) (v : Nat → Nat), W = W' ∧ H = H' ∧ m = m' ∧ n = W' * H' ∧ checkR X Y W H = 0 ∧ er = 0 ∧ a = some ⟨b, off, none⟩ ∧ FlAt w b off n v ∧ allB n (fun i => hgtB (v i)) = true ∧ 1 ≤ m' ∧ m' ≤ 10 ∧ LsInfo n v m' g len w') ∧ Below w0.heap.size w0 w' := by
  have PY := Lib.hid (fun W' (hB : Below w0.heap.size w0 W') => pyramid_at X Y W H a n cap er m w hE hF W' (hB0.trans (hB.mono hB0.size)))
  clear hE hF hB0
  go_enter Try.func50, Try.ntmps50
  go_upto_region 2 with (go_at_call 49; (with_reducible refine Calls.mono (PY.out _ ?hb) ?_); (case hb => exact (by repeat (first | exact Below.refl _ _ | refine Below.alloc ?_ (by first | omega | (simp; done) | (simp; omega)) _ | refine Below.setCell ?_ (by first | omega | (simp; done) | (simp; omega)) _ | refine Below.drew ?_))); rintro e w1 ⟨g, len, cap', k, rfl, hinf, hb1⟩; have HINF := Lib.hid hinf; have hB1 : Below w0.heap.size w0 w1 := Below.trans (show Below w0.heap.size w0 _ from (by repeat (first | exact Below.refl _ _ | refine Below.alloc ?_ (by first | omega | (simp; done) | (simp; omega)) _ | refine Below.setCell ?_ (by first | omega | (simp; done) | (simp; omega)) _ | refine Below.drew ?_))) (hb1.mono (by first | omega | (simp; done) | (simp; omega))); clear hb1 hinf)
  have HB1 := Lib.hid hB1
  clear PY
  by_cases hk : k = 0
  · obtain ⟨W', H', m', b, off, v, hW, hH, hm, hn, h0, he, ha, hr, hh, q1, q2, LO⟩ := lossesOf_at (cap := cap') k hk HINF.out
    have ALL := Lib.hid (And.intro hW (And.intro hH (And.intro hm (And.intro hn (And.intro h0 (And.intro he (And.intro ha (And.intro hr (And.intro hh (And.intro q1 q2))))))))))
    have LO' := Lib.hid LO
    have q2' := Lib.hid q2
    clear hW hH hm hn h0 he ha hr hh q1 q2 HINF LO
    subst hk
    go_upto_region 5 with (go_at_call 116; (with_reducible refine Calls.mono LO'.out ?_); rintro e w2 ⟨gb, ls, rfl, hg2, hrow, hlost, hb2⟩; have HROW := Lib.hid hrow; have HLOST := Lib.hid hlost; have B2 := Lib.hid (HB1.out.trans (hb2.mono HB1.out.size)); clear hrow hlost hb2)
    have CH := Lib.hid (CheckHeights_row gb 0 m' m' ls (by have := q2'.out; omega) w2 HROW.out)
    by_cases hf : fldE m' ls = 0
    · rw [hf] at CH
      clear hf
      go_wp2_with (go_at_call 76; refine CH.out.mono ?_; rintro e w' ⟨rfl, rfl⟩)
      go_ret2
      obtain ⟨hW, hH, hm, hn, h0, he, ha, hr, hh, q1, q2⟩ := ALL.out
      exact ⟨_, _, _, _, rfl, fun _ => ⟨W', H', m', b, off, v, hW, hH, hm, hn, h0, he, ha, hr, hh, q1, q2, gb, ls, rfl, rfl, HROW.out, HLOST.out⟩, B2.out⟩
    · have hf2 : (fldE m' ls != 0) = true := by simpa using hf
      have HF := Lib.hid hf
      clear hf
      generalize fldE m' ls = er2 at *
      go_wp2_with (go_at_call 76; refine CH.out.mono ?_; rintro e w' ⟨rfl, rfl⟩)
      go_ret2
      exact ⟨_, _, _, _, rfl, fun z => absurd z HF.out, B2.out⟩
  · have hk2 : (k != 0) = true := by simpa using hk
    have HK := Lib.hid hk
    clear hk HINF
    go_wp2
    go_ret2
    exact ⟨_, _, _, _, rfl, fun z => absurd z HK.out, HB1.out⟩
end Go.Proofs.Ytkcehbnmcdppkaa

/- Contracts: Pyramid of one level; landed. -/
namespace Go.Proofs.Ytkcehbnmcdppkaa
open Go.RowKit Fl
set_option linter.unusedVariables false

/-- What one level comes to. -/
def OneLv (w : World) (X Y : Int) (W H : Nat) (b c : Nat) (v : Nat → Nat) (e : Ending) (w' : World) : Prop :=
  ∃ g cap, e = .returned (.tuple #[.slice (some ⟨g, 0, none⟩) 1 cap, .int .i64 0]) ∧ FdRow w' g 1 (fun _ => ⟨X, Y, W, H, b, c, v⟩) ∧ Below w.heap.size w w'

set_option maxRecDepth 100000 in
set_option maxHeartbeats 4000000 in
theorem levels_one (f : Fd) (w : World) (hf : FdOk w f) :
    Calls Try.prog 114 #[f.val, .int .i64 1] w (OneLv w f.x f.y f.w f.h f.b f.cap f.v) := by
  go_enter Try.func114, Try.ntmps114
  go_wp2
  have HS : Hid (FdRow ((w.alloc (.cells f.cells 41)).alloc (.cells f.cells 41)) (w.heap.size + 1) 1 (fun _ => f)) := by
    refine Lib.hid ⟨fun i hi j hj => ?_, by simp⟩
    obtain rfl : i = 0 := by omega
    rw [Nat.zero_mul, Nat.zero_add]
    exact (blkC (cs := f.cells) (t := 41) (by (first | (rw [heap_alloc_get, if_pos rfl]; done) | ((simp only [heap_alloc_get, heap_size_alloc, if_true]) <;> ((repeat' split) <;> first | rfl | omega))))).1 j
  have B1 := Lib.hid (show Below w.heap.size w ((w.alloc (.cells f.cells 41)).alloc (.cells f.cells 41)) from (by repeat (first | exact Below.refl _ _ | refine Below.alloc ?_ (by first | omega | (simp; done) | (simp; omega)) _ | refine Below.setCell ?_ (by first | omega | (simp; done) | (simp; omega)) _ | refine Below.drew ?_)))
  generalize (w.alloc (.cells f.cells 41)).alloc (.cells f.cells 41) = w3 at *
  go_loopw [6] (fun l wr => l = .slice (some ⟨w.heap.size + 1, 0, none⟩) 1 1 ∧ wr = w3) (fun l _ => 0)
  case atStart => exact ⟨rfl, rfl⟩
  case round =>
    obtain ⟨rfl, rfl⟩ := hrel
    go_wp2
    go_ret2
    exact ⟨_, _, rfl, HS.out, B1.out⟩

set_option maxHeartbeats 4000000 in
theorem pyramid_one (X Y : Int) (W H n b off cap : Nat) (v : Nat → Nat) (w : World) (hE : SlE w (some ⟨b, off, none⟩) n cap 0) (h0 : checkR X Y W H = 0) (hn : n = W * H) (hr : FlAt w b off n v) (hh : allB n (fun i => hgtB (v i)) = true) :
    Calls Try.prog 49 #[fldV X Y W H (.slice (some ⟨b, off, none⟩) n cap), .int .i64 1] w fun e w' => ∃ g cap sb sc, e = .returned (.tuple #[.slice (some ⟨g, 0, none⟩) 1 cap, .int .i64 0]) ∧ FdRow w' g 1 (fun _ => ⟨X, Y, W, H, sb, sc, v⟩) ∧ FlAt w' sb 0 n v ∧ Below w.heap.size w w' := by
  have CK := Lib.hid (fun W' (hB : Below w.heap.size w W') => checkA_any X Y W H (some ⟨b, off, none⟩) n cap 0 W' (hE.stay hB).1)
  rw [show fldChk X Y W H n 0 = 0 from by unfold fldChk; rw [if_neg (by rw [h0]; simp), if_neg (by rw [hn]; simp)]] at CK
  have WI := Lib.hid (fun w => within_any 1 1 10 w)
  rw [show withinB 1 1 10 = true from withinB_iff.2 ⟨by omega, by omega⟩] at WI
  obtain ⟨b1, b2, b3, b4, b5, b6, b7, b8, b9⟩ := checkR_zero h0
  have hn1 : 1 ≤ n := by rw [hn]; exact Nat.mul_pos (by omega) (by omega)
  have hn2 : n ≤ 65536 := by
    have : ((W : Int) * (H : Int)) = (n : Int) := by rw [hn]; simp
    omega
  have zb : b < w.heap.size := World.block_lt_of_cell? w _ (hr 0 hn1)
  have CL := Lib.hid (fun W' (hB : Below w.heap.size w W') => cloneV_any b off n cap v W' hn1 hn2 (flAt_congr hr (hB.block b zb)))
  have LV := Lib.hid (fun sb sc W' (ho : FlAt W' sb 0 n v) => show Calls Try.prog 114 #[fldV X Y W H (.slice (some ⟨sb, 0, none⟩) n sc), .int .i64 1] W' (OneLv W' X Y W H sb sc v) from by
    have q := ho
    rw [hn] at q hh ⊢
    exact levels_one ⟨X, Y, W, H, sb, sc, v⟩ W' ⟨h0, q, hh⟩)
  have HN1 := Lib.hid (show 0 < n from hn1)
  clear hE h0 hn hr hh b1 b2 b3 b4 b5 b6 b7 b8 b9 hn1 hn2 zb
  go_enter Try.func49, Try.ntmps49
  go_wp2_with (first | (go_at_call 87; refine (CK.out _ (by repeat (first | exact Below.refl _ _ | refine Below.alloc ?_ (by first | omega | (simp; done) | (simp; omega)) _ | refine Below.setCell ?_ (by first | omega | (simp; done) | (simp; omega)) _ | refine Below.drew ?_))).mono ?_; rintro e w1 ⟨rfl, hb1⟩; have HF1 := Lib.hid (blkStay (b := w.heap.size) (o := fldO X Y W H (.slice (some ⟨b, off, none⟩) n cap)) (by (first | (rw [heap_alloc_get, if_pos rfl]; done) | ((simp only [heap_alloc_get, heap_size_alloc, if_true]) <;> ((repeat' split) <;> first | rfl | omega)))) hb1); have B1 := Lib.hid (Below.trans (show Below w.heap.size w _ from (by repeat (first | exact Below.refl _ _ | refine Below.alloc ?_ (by first | omega | (simp; done) | (simp; omega)) _ | refine Below.setCell ?_ (by first | omega | (simp; done) | (simp; omega)) _ | refine Below.drew ?_))) (hb1.mono (by first | omega | (simp; done) | (simp; omega)))); clear hb1; obtain ⟨cF, fF, zF⟩ := blkC HF1.out) | (go_at_call 79; refine (WI.out _).mono ?_; rintro e w' ⟨rfl, rfl⟩))
  have CL1 := Lib.hid (fun W' (hB : Below w1.heap.size w1 W') => CL.out W' (B1.out.trans (hB.mono B1.out.size)))
  go_region_held3 (fun w' => (∀ o, w'.cell? ⟨w.heap.size, o, none⟩ = #[.int .i64 X, .int .i64 Y, .int .i64 W, .int .i64 H, .slice (some ⟨b, off, none⟩) n cap][o]?) ∧ Below w1.heap.size w1 w') (first | exact ⟨(blkC (blkStay HF1.out hb9)).1, hb9⟩ | exact ⟨(blkC (blkStay HF1.out (by repeat (first | exact Below.refl _ _ | refine Below.alloc ?_ (by first | omega | (simp; done) | (simp; omega)) _ | refine Below.setCell ?_ (by first | omega | (simp; done) | (simp; omega)) _ | refine Below.drew ?_)))).1, (by repeat (first | exact Below.refl _ _ | refine Below.alloc ?_ (by first | omega | (simp; done) | (simp; omega)) _ | refine Below.setCell ?_ (by first | omega | (simp; done) | (simp; omega)) _ | refine Below.drew ?_))⟩) (first
    | (go_at_call 115; (with_reducible refine Calls.mono (CL1.out _ ?_) ?_); exact (by repeat (first | exact Below.refl _ _ | refine Below.alloc ?_ (by first | omega | (simp; done) | (simp; omega)) _ | refine Below.setCell ?_ (by first | omega | (simp; done) | (simp; omega)) _ | refine Below.drew ?_)); rintro e w2 ⟨sb, sc, rfl, hg8, how8, hb8⟩; have HOW := Lib.hid ((ownsRow_flAt how8 HN1.out).1); have hb9 : Below w1.heap.size w1 w2 := Below.trans (by repeat (first | exact Below.refl _ _ | refine Below.alloc ?_ (by first | omega | (simp; done) | (simp; omega)) _ | refine Below.setCell ?_ (by first | omega | (simp; done) | (simp; omega)) _ | refine Below.drew ?_)) (Below.mono hb8 (by first | exact Nat.le_refl _ | (simp; done) | (simp; omega))); clear hb8 hg8 how8)
    | (go_at_call 114; (with_reducible refine Calls.mono (LV.out _ _ _ ?_) ?_); exact HOW.out; rintro e w3 ⟨lg, lc, rfl, hinf, hb8⟩; have HINF := Lib.hid hinf; have HOW3 := Lib.hid (flAt_congr HOW.out (hb8.block sb (World.block_lt_of_cell? _ _ (HOW.out 0 HN1.out)))); have hb7 := hb9.trans (hb8.mono hb9.size); clear hb9 hb8 hinf; have hb9 := hb7; clear hb7))
  have hHeld := ‹_ ∧ Below w1.heap.size w1 _›
  have B3 := Lib.hid (B1.out.trans (hHeld.2.mono B1.out.size))
  clear hHeld
  go_wp2
  go_ret2
  exact ⟨_, _, _, _, rfl, HINF.out, HOW3.out, B3.out⟩
end Go.Proofs.Ytkcehbnmcdppkaa

/- Bounds: how many boxes lie along so many cells; the cells of a box. -/
namespace Go.Proofs.Ytkcehbnmcdppkaa
open Go.RowKit Fl
set_option linter.unusedVariables false

/-- How many boxes of the level l lie along n cells. -/
def bxN (n l : Nat) : Nat := (n + 2 ^ l - 1) / 2 ^ l

theorem pw {l : Nat} (hl : l ≤ 10) : ∃ p : Nat, (2 : Int) ^ l = (p : Int) ∧ 2 ^ l = p ∧ 1 ≤ p ∧ p ≤ 1024 :=
  ⟨2 ^ l, by simp, rfl, Nat.two_pow_pos l, Nat.pow_le_pow_right (by omega) hl⟩
theorem bxN_wrap {n l : Nat} (hn : n ≤ 512) (hl : l ≤ 10) : wrap64 (wrap64 ((n : Int) + wrap64 (2 ^ l)) - 1) / 2 ^ l = (bxN n l : Int) := by
  obtain ⟨p, e1, e2, p1, p2⟩ := pw hl
  unfold bxN
  rw [e1, e2, IntWalk.wrap64_in (p : Int) ⟨by omega, by omega⟩, IntWalk.wrap64_in ((n : Int) + p) ⟨by omega, by omega⟩, IntWalk.wrap64_in ((n : Int) + p - 1) ⟨by omega, by omega⟩]
  have : ((n + p - 1 : Nat) : Int) = (n : Int) + p - 1 := by omega
  rw [← this]
  simp

set_option maxHeartbeats 1000000 in
theorem boxesAlong_any (n l : Nat) (w : World) (hn : n ≤ 512) (hl : l ≤ 10) :
    Calls Try.prog 149 #[.int .i64 n, .int .i64 l] w fun e w' => e = .returned (.int .i64 (bxN n l)) ∧ w = w' := by
  have l0 : (0 : Int) ≤ (l : Int) := by omega
  have l1 : (l : Int) ≤ 10 := by omega
  have n0 : (n : Int) ≤ 512 := by omega
  go_enter Try.func149, Try.ntmps149
  go_wp2
  go_ret
  exact ⟨ret_int (bxN_wrap hn hl), rfl⟩

/-- The cells of a box along an axis of n cells: from x * 2 ^ l, so many. -/
def bxC (n l x : Nat) : Nat := min n (x * 2 ^ l + 2 ^ l) - x * 2 ^ l
theorem maxI_r {a b : Int} (h : a ≤ b) : maxI a b = b := by unfold maxI; split <;> omega

set_option maxHeartbeats 1000000 in
theorem cellsOf_any (X Y : Int) (W H l x y : Nat) (w : World) (h0 : checkR X Y W H = 0) (hl : l ≤ 10) (hx : x * 2 ^ l < W) (hy : y * 2 ^ l < H) :
    Calls Try.prog 152 #[reg X Y W H, .int .i64 l, .int .i64 x, .int .i64 y] w fun e w' => e = .returned (reg (X + (x * 2 ^ l : Nat)) (Y + (y * 2 ^ l : Nat)) (bxC W l x) (bxC H l y)) ∧ Below w.heap.size w w' := by
  obtain ⟨b1, b2, b3, b4, b5, b6, b7, b8, b9⟩ := checkR_zero h0
  obtain ⟨p, e1, e2, p1, p2⟩ := pw hl
  unfold bxC
  rw [e2] at hx hy ⊢
  obtain ⟨qx, hqx⟩ : ∃ q, x * p = q := ⟨_, rfl⟩
  obtain ⟨qy, hqy⟩ : ∃ q, y * p = q := ⟨_, rfl⟩
  have s1 : ((x : Int) * 2 ^ l) = (qx : Int) := by rw [e1, ← hqx]; simp
  have s2 : ((y : Int) * 2 ^ l) = (qy : Int) := by rw [e1, ← hqy]; simp
  rw [hqx] at hx ⊢
  rw [hqy] at hy ⊢
  have l0 : (0 : Int) ≤ (l : Int) := by omega
  have CO := Lib.hid (fun w => common_any X Y W H (X + qx) (Y + qy) p p w (by omega) (by omega) (by omega) (by omega) (by omega) (by omega) (by omega) (by omega) (by omega) (by omega) (by omega) (by omega) (by omega) (by omega) (by omega) (by omega))
  have m1 : maxI X (X + qx) = X + qx := maxI_r (by omega)
  have m2 : maxI Y (Y + qy) = Y + qy := maxI_r (by omega)
  have m3 : minI (X + W) (X + qx + p) - (X + qx) = ((min W (qx + p) - qx : Nat) : Int) := by unfold minI; split <;> omega
  have m4 : minI (Y + H) (Y + qy + p) - (Y + qy) = ((min H (qy + p) - qy : Nat) : Int) := by unfold minI; split <;> omega
  have cb : comB X Y W H (X + qx) (Y + qy) p p = true := comB_iff.2 ⟨by rw [m1, m3]; omega, by rw [m2, m4]; omega⟩
  have cr : comR X Y W H (X + qx) (Y + qy) p p = reg (X + qx) (Y + qy) (min W (qx + p) - qx : Nat) (min H (qy + p) - qy : Nat) := by unfold comR; rw [if_pos cb, m1, m2, m3, m4]
  rw [cb, cr] at CO
  clear m1 m2 m3 m4 cb cr
  have hmin : min l 64 = l := Nat.min_eq_left (Nat.le_trans hl (by decide))
  have u1' : wrap64 (X + qx) = X + qx := IntWalk.wrap64_in _ ⟨by omega, by omega⟩
  have u2' : wrap64 (Y + qy) = Y + qy := IntWalk.wrap64_in _ ⟨by omega, by omega⟩
  have sh1 : wrap64 ((x : Int) * 2 ^ l) = (qx : Int) := by rw [s1]; exact IntWalk.wrap64_in _ ⟨by omega, by omega⟩
  have sh2 : wrap64 ((y : Int) * 2 ^ l) = (qy : Int) := by rw [s2]; exact IntWalk.wrap64_in _ ⟨by omega, by omega⟩
  have sh3 : wrap64 ((2 : Int) ^ l) = (p : Int) := by rw [e1]; exact IntWalk.wrap64_in _ ⟨by omega, by omega⟩
  clear s1 s2 hqx hqy e1 e2 hl hx hy b1 b2 b3 b4 b5 b6 b7 b8 b9 p1 p2 h0
  go_enter Try.func152, Try.ntmps152
  go_wp2
  go_region
  simp only [sh1, sh2, sh3, u1', u2']
  go_wp2_with (go_at_call 175; refine (CO.out _).mono ?_; rintro e w1 ⟨rfl, hb1⟩; have HR1 := Lib.hid (blkStay (b := w.heap.size + 1) (o := regObj 0 0 0 0) (ptDrew (by (first | (rw [heap_alloc_get, if_pos rfl]; done) | ((simp only [heap_alloc_get, heap_size_alloc, if_true]) <;> ((repeat' split) <;> first | rfl | omega))))) hb1); have B1 := Lib.hid (Below.trans (show Below w.heap.size w _ from (by repeat (first | exact Below.refl _ _ | refine Below.alloc ?_ (by first | omega | (simp; done) | (simp; omega)) _ | refine Below.setCell ?_ (by first | omega | (simp; done) | (simp; omega)) _ | refine Below.drew ?_))) (hb1.mono (by first | omega | (simp; done) | (simp; omega)))); clear hb1; obtain ⟨cR, fR, zR⟩ := blkC HR1.out)
  have BE : Below w.heap.size w (((((w1.setCell ⟨w.heap.size + 1, 0, none⟩ (.int .i64 (X + qx))).setCell ⟨w.heap.size + 1, 1, none⟩ (.int .i64 (Y + qy))).setCell ⟨w.heap.size + 1, 2, none⟩ (.int .i64 (min W (qx + p) - qx : Nat))).setCell ⟨w.heap.size + 1, 3, none⟩ (.int .i64 (min H (qy + p) - qy : Nat))).alloc (regObj (X + qx) (Y + qy) (min W (qx + p) - qx : Nat) (min H (qy + p) - qy : Nat))) := by
    repeat (first | exact B1.out | refine Below.drew ?_ | refine Below.alloc ?_ (by first | exact B1.out.size | (have := B1.out.size; simp; omega) | (simp; omega)) _ | refine Below.setCell ?_ (by simp; try omega) _)
  have h1 := heap_setCell_same w1 (w.heap.size + 1) 0 _ _ (.int .i64 (X + qx)) HR1.out
  have h2 := heap_setCell_same _ (w.heap.size + 1) 1 _ _ (.int .i64 (Y + qy)) h1
  have h3 := heap_setCell_same _ (w.heap.size + 1) 2 _ _ (.int .i64 (min W (qx + p) - qx : Nat)) h2
  have h4 := heap_setCell_same _ (w.heap.size + 1) 3 _ _ (.int .i64 (min H (qy + p) - qy : Nat)) h3
  have h5 := (heap_alloc_old _ (regObj (X + qx) (Y + qy) (min W (qx + p) - qx : Nat) (min H (qy + p) - qy : Nat)) (by simp; omega)).trans h4
  have H5 := Lib.hid h5
  have BE' := Lib.hid BE
  clear h1 h2 h3 h4 h5 BE cR fR zR HR1 B1
  obtain ⟨cE, fE, zE⟩ := blkC H5.out
  unfold regObj at cE fE zE BE'
  refine bodyPost_ret (v := reg (X + qx) (Y + qy) (min W (qx + p) - qx : Nat) (min H (qy + p) - qy : Nat)) (by simp [results, Try.results152, go_sem, cE]) rfl ?_
  exact ⟨rfl, BE'.out⟩
end Go.Proofs.Ytkcehbnmcdppkaa

/- The least and the greatest value of some cells: what is known of a word that holds it. -/
namespace Go.Proofs.Ytkcehbnmcdppkaa
open Go.RowKit Fl
set_option linter.unusedVariables false

/-- The least value of the cells P. -/
def LoIn (v : Nat → Nat) (P : Nat → Prop) (x : Nat) : Prop := ∃ A : Int, vS x = some A ∧ (∃ i, P i ∧ vS (v i) = some A) ∧ ∀ i a, P i → vS (v i) = some a → A ≤ a
/-- The greatest value of the cells P. -/
def HiIn (v : Nat → Nat) (P : Nat → Prop) (x : Nat) : Prop := ∃ A : Int, vS x = some A ∧ (∃ i, P i ∧ vS (v i) = some A) ∧ ∀ i a, P i → vS (v i) = some a → a ≤ A
theorem LoIn.same {v : Nat → Nat} {P : Nat → Prop} {x y : Nat} (hx : LoIn v P x) (hy : LoIn v P y) : ∃ A, vS x = some A ∧ vS y = some A := by
  obtain ⟨A, h1, ⟨i, p1, p2⟩, h3⟩ := hx
  obtain ⟨B, g1, ⟨j, q1, q2⟩, g3⟩ := hy
  have := h3 j B q1 q2
  have := g3 i A p1 p2
  obtain rfl : A = B := by omega
  exact ⟨A, h1, g1⟩
theorem HiIn.same {v : Nat → Nat} {P : Nat → Prop} {x y : Nat} (hx : HiIn v P x) (hy : HiIn v P y) : ∃ A, vS x = some A ∧ vS y = some A := by
  obtain ⟨A, h1, ⟨i, p1, p2⟩, h3⟩ := hx
  obtain ⟨B, g1, ⟨j, q1, q2⟩, g3⟩ := hy
  have := h3 j B q1 q2
  have := g3 i A p1 p2
  obtain rfl : A = B := by omega
  exact ⟨A, h1, g1⟩
theorem LoIn.congr {v : Nat → Nat} {P Q : Nat → Prop} {x : Nat} (h : LoIn v P x) (e : ∀ i, P i ↔ Q i) : LoIn v Q x := by
  obtain ⟨A, h1, ⟨i, p1, p2⟩, h3⟩ := h
  exact ⟨A, h1, ⟨i, (e i).1 p1, p2⟩, fun j a q => h3 j a ((e j).2 q)⟩
theorem HiIn.congr {v : Nat → Nat} {P Q : Nat → Prop} {x : Nat} (h : HiIn v P x) (e : ∀ i, P i ↔ Q i) : HiIn v Q x := by
  obtain ⟨A, h1, ⟨i, p1, p2⟩, h3⟩ := h
  exact ⟨A, h1, ⟨i, (e i).1 p1, p2⟩, fun j a q => h3 j a ((e j).2 q)⟩
theorem LoIn.one {v : Nat → Nat} {k : Nat} (h : hgtB (v k) = true) : LoIn v (fun i => i = k) (v k) := by
  obtain ⟨a, ha, _⟩ := hgt_val h
  exact ⟨a, ha, ⟨k, rfl, ha⟩, fun i b e hb => by subst e; rw [ha] at hb; cases hb; omega⟩
theorem HiIn.one {v : Nat → Nat} {k : Nat} (h : hgtB (v k) = true) : HiIn v (fun i => i = k) (v k) := by
  obtain ⟨a, ha, _⟩ := hgt_val h
  exact ⟨a, ha, ⟨k, rfl, ha⟩, fun i b e hb => by subst e; rw [ha] at hb; cases hb; omega⟩
theorem LoIn.step {v : Nat → Nat} {P : Nat → Prop} {x k : Nat} (h : LoIn v P x) (hk : hgtB (v k) = true) : LoIn v (fun i => P i ∨ i = k) (lesW x (v k)) := by
  obtain ⟨A, h1, ⟨i, p1, p2⟩, h3⟩ := h
  obtain ⟨a, ha, _⟩ := hgt_val hk
  unfold lesW
  rw [f32f, lss_val ha h1]
  by_cases c : a < A
  · rw [decide_eq_true c, if_pos rfl]
    exact ⟨a, ha, ⟨k, .inr rfl, ha⟩, fun j b q hb => by
      rcases q with q | q
      · have := h3 j b q hb; omega
      · subst q; rw [ha] at hb; cases hb; omega⟩
  · rw [decide_eq_false c, if_neg (by decide)]
    exact ⟨A, h1, ⟨i, .inl p1, p2⟩, fun j b q hb => by
      rcases q with q | q
      · exact h3 j b q hb
      · subst q; rw [ha] at hb; cases hb; omega⟩
theorem HiIn.step {v : Nat → Nat} {P : Nat → Prop} {x k : Nat} (h : HiIn v P x) (hk : hgtB (v k) = true) : HiIn v (fun i => P i ∨ i = k) (grtW x (v k)) := by
  obtain ⟨A, h1, ⟨i, p1, p2⟩, h3⟩ := h
  obtain ⟨a, ha, _⟩ := hgt_val hk
  unfold grtW
  rw [f32f, gtr_val ha h1]
  by_cases c : A < a
  · rw [decide_eq_true c, if_pos rfl]
    exact ⟨a, ha, ⟨k, .inr rfl, ha⟩, fun j b q hb => by
      rcases q with q | q
      · have := h3 j b q hb; omega
      · subst q; rw [ha] at hb; cases hb; omega⟩
  · rw [decide_eq_false c, if_neg (by decide)]
    exact ⟨A, h1, ⟨i, .inl p1, p2⟩, fun j b q hb => by
      rcases q with q | q
      · exact h3 j b q hb
      · subst q; rw [ha] at hb; cases hb; omega⟩

theorem LoIn.min {v : Nat → Nat} {P : Nat → Prop} {x k r : Nat} (h : LoIn v P x) (hk : hgtB (v k) = true) (hr : ∀ a b, vS x = some a → vS (v k) = some b → vS r = some (if b < a then b else a)) : LoIn v (fun i => P i ∨ i = k) r := by
  obtain ⟨A, h1, ⟨i, p1, p2⟩, h3⟩ := h
  obtain ⟨a, ha, _⟩ := hgt_val hk
  have e := hr A a h1 ha
  by_cases c : a < A
  · rw [if_pos c] at e
    exact ⟨a, e, ⟨k, .inr rfl, ha⟩, fun j b q hb => by
      rcases q with q | q
      · have := h3 j b q hb; omega
      · subst q; rw [ha] at hb; cases hb; omega⟩
  · rw [if_neg c] at e
    exact ⟨A, e, ⟨i, .inl p1, p2⟩, fun j b q hb => by
      rcases q with q | q
      · exact h3 j b q hb
      · subst q; rw [ha] at hb; cases hb; omega⟩
theorem HiIn.max {v : Nat → Nat} {P : Nat → Prop} {x k r : Nat} (h : HiIn v P x) (hk : hgtB (v k) = true) (hr : ∀ a b, vS x = some a → vS (v k) = some b → vS r = some (if a < b then b else a)) : HiIn v (fun i => P i ∨ i = k) r := by
  obtain ⟨A, h1, ⟨i, p1, p2⟩, h3⟩ := h
  obtain ⟨a, ha, _⟩ := hgt_val hk
  have e := hr A a h1 ha
  by_cases c : A < a
  · rw [if_pos c] at e
    exact ⟨a, e, ⟨k, .inr rfl, ha⟩, fun j b q hb => by
      rcases q with q | q
      · have := h3 j b q hb; omega
      · subst q; rw [ha] at hb; cases hb; omega⟩
  · rw [if_neg c] at e
    exact ⟨A, e, ⟨i, .inl p1, p2⟩, fun j b q hb => by
      rcases q with q | q
      · exact h3 j b q hb
      · subst q; rw [ha] at hb; cases hb; omega⟩
theorem LoIn.val {v : Nat → Nat} {P : Nat → Prop} {x : Nat} (h : LoIn v P x) : ∃ A, vS x = some A := by
  obtain ⟨A, h1, _⟩ := h; exact ⟨A, h1⟩
theorem HiIn.val {v : Nat → Nat} {P : Nat → Prop} {x : Nat} (h : HiIn v P x) : ∃ A, vS x = some A := by
  obtain ⟨A, h1, _⟩ := h; exact ⟨A, h1⟩
theorem run_min_two (ts : Array TypeId) (t : TypeId) {x y : Nat} {a b : Int} (hx : vS x = some a) (hy : vS y = some b) : ∃ r, (∀ w : World, (Builtin.min_ ts t #[.float .f32 x, .float .f32 y]).run Try.prog w = .ok (.float .f32 r) w) ∧ vS r = some (if b < a then b else a) := by
  obtain ⟨r, m, v⟩ := min2_val hx hy
  refine ⟨r, fun w => ?_, v⟩
  show (([Value.float .f32 y]).foldlM Builtin.min2 (Value.float .f32 x)).run Try.prog w = _
  simp only [List.foldlM]
  rw [m]
  rfl
end Go.Proofs.Ytkcehbnmcdppkaa

/- The least and the greatest value of some cells. -/
namespace Go.Proofs.Ytkcehbnmcdppkaa
open Go.RowKit Fl
set_option linter.unusedVariables false

/-- The cells of a box that were seen: r whole rows of c1 cells, and k cells of the next one; W is the field's width, f the first cell. -/
def SeenI (W f c1 r k : Nat) (i : Nat) : Prop := ∃ j c, i = f + j * W + c ∧ c < c1 ∧ (j < r ∨ j = r ∧ c < k)
theorem seen_next {W f c1 r k : Nat} (hk : k < c1) (i : Nat) : SeenI W f c1 r (k + 1) i ↔ (SeenI W f c1 r k i ∨ i = f + r * W + k) := by
  constructor
  · rintro ⟨j, c, e, h1, h2⟩
    by_cases q : j = r ∧ c = k
    · obtain ⟨rfl, rfl⟩ := q; exact .inr e
    · exact .inl ⟨j, c, e, h1, by omega⟩
  · rintro (⟨j, c, e, h1, h2⟩ | e)
    · exact ⟨j, c, e, h1, by omega⟩
    · exact ⟨r, k, e, hk, .inr ⟨rfl, by omega⟩⟩
theorem seen_row {W f c1 r : Nat} (i : Nat) : SeenI W f c1 (r + 1) 0 i ↔ SeenI W f c1 r c1 i := by
  constructor
  · rintro ⟨j, c, e, h1, h2⟩; exact ⟨j, c, e, h1, by omega⟩
  · rintro ⟨j, c, e, h1, h2⟩; exact ⟨j, c, e, h1, by omega⟩
end Go.Proofs.Ytkcehbnmcdppkaa

/- Contract: boxOf. -/
namespace Go.Proofs.Ytkcehbnmcdppkaa
open Go.RowKit Fl
set_option linter.unusedVariables false

theorem slice_row_l (g off n cap lo : Nat) (h : lo < n) (hc : n ≤ cap) (W : World) : (Instr.slice 39 (.slice (some ⟨g, off, none⟩) n cap) (some (.int .i64 (lo : Int))) none none).run Try.prog W = .ok (.slice (some ⟨g, off + lo, none⟩) (n - lo) (cap - lo)) W := by
  have hs : (sizeOf (Try.prog.elem 39)).run Try.prog W = .ok 1 W := by kernel_rfl
  rw [run_slice_l W 39 _ n cap (by kernel_rfl) .i64 lo (by omega) (by omega), hs]
  show Result.ok (sliced _ _ _ _ _) W = _
  unfold sliced
  rw [if_neg (by omega)]
  simp [Addr.add]
theorem slice_row_h (g off n cap hi : Nat) (h : hi ≤ cap) (h0 : 0 < cap) (W : World) : (Instr.slice 39 (.slice (some ⟨g, off, none⟩) n cap) none (some (.int .i64 (hi : Int))) none).run Try.prog W = .ok (.slice (some ⟨g, off, none⟩) hi cap) W := by
  have hs : (sizeOf (Try.prog.elem 39)).run Try.prog W = .ok 1 W := by kernel_rfl
  rw [run_slice_h W 39 _ n cap (by kernel_rfl) .i64 hi (by omega) (by omega), hs]
  show Result.ok (sliced _ _ _ _ _) W = _
  unfold sliced
  rw [if_neg (by omega)]
  simp [Addr.add]

/-- A box: level, column, row, the least and the greatest value of its cells. -/
def boxV (l x y : Nat) (lo hi : Nat) : Value := .agg #[.int .i64 l, .int .i64 x, .int .i64 y, .float .f32 lo, .float .f32 hi]
/-- What boxOf answers. -/
def BoxPost (w : World) (v : Nat → Nat) (W H l x y : Nat) (e : Ending) (w' : World) : Prop :=
  ∃ lo hi, e = .returned (boxV l x y lo hi) ∧ LoIn v (SeenI W (y * 2 ^ l * W + x * 2 ^ l) (bxC W l x) (bxC H l y) 0) lo ∧ HiIn v (SeenI W (y * 2 ^ l * W + x * 2 ^ l) (bxC W l x) (bxC H l y) 0) hi ∧ Below w.heap.size w w'

set_option maxRecDepth 100000 in
set_option maxHeartbeats 4000000 in
theorem boxOf_any (X Y : Int) (W H l x y b off cap n : Nat) (v : Nat → Nat) (w : World) (h0 : checkR X Y W H = 0) (hn : n = W * H) (hr : FlAt w b off n v) (hh : allB n (fun i => hgtB (v i)) = true) (hcap : n ≤ cap) (hl : l ≤ 10) (hx : x * 2 ^ l < W) (hy : y * 2 ^ l < H) :
    Calls Try.prog 150 #[fldV X Y W H (.slice (some ⟨b, off, none⟩) n cap), .int .i64 l, .int .i64 x, .int .i64 y] w (BoxPost w v W H l x y) := by
  obtain ⟨b1, b2, b3, b4, b5, b6, b7, b8, b9⟩ := checkR_zero h0
  have CE := Lib.hid (fun w => cellsOf_any X Y W H l x y w h0 hl hx hy)
  obtain ⟨qx, hqx⟩ : ∃ q, x * 2 ^ l = q := ⟨_, rfl⟩
  obtain ⟨qy, hqy⟩ : ∃ q, y * 2 ^ l = q := ⟨_, rfl⟩
  have hp : 1 ≤ 2 ^ l := Nat.two_pow_pos l
  have hcw : 1 ≤ bxC W l x ∧ qx + bxC W l x ≤ W := by unfold bxC; rw [hqx] at hx ⊢; omega
  have hch : 1 ≤ bxC H l y ∧ qy + bxC H l y ≤ H := by unfold bxC; rw [hqy] at hy ⊢; omega
  unfold BoxPost
  rw [hqx, hqy] at CE ⊢
  generalize bxC W l x = cw at *
  generalize bxC H l y = ch at *
  rw [hqx] at hx
  rw [hqy] at hy
  obtain ⟨F, hF⟩ : ∃ F, qy * W + qx = F := ⟨_, rfl⟩
  rw [hF]
  have hlast : ∀ r c, r < ch → c < cw → F + r * W + c < n := fun r c h1 h2 => by
    have q : (qy + r + 1) * W ≤ H * W := Nat.mul_le_mul_right _ (by omega)
    rw [hn, Nat.mul_comm W H, ← hF]
    rw [Nat.add_mul, Nat.add_mul, Nat.one_mul] at q
    omega
  have hn1 : 1 ≤ n := by have := hlast 0 0 (by omega) (by omega); omega
  have hn2 : n ≤ 65536 := by
    have : ((W : Int) * (H : Int)) = (n : Int) := by rw [hn]; simp
    omega
  have zb : b < w.heap.size := World.block_lt_of_cell? w _ (hr 0 hn1)
  have hF0 : F < n := by have := hlast 0 0 (by omega) (by omega); omega
  have hF6 : F ≤ 65536 := by omega
  have IX := Lib.hid (fun w => index_any X Y W H F (X + qx) (Y + qy) w (by omega) (by omega) (by omega) (by omega) (by omega) (by omega) (by omega) (by omega) (by omega) (by omega) (by omega) (by rw [← hF, show Y + (qy : Int) - Y = qy by omega, show X + (qx : Int) - X = qx by omega]; simp) (by omega))
  have HR := Lib.hid hr
  have HLAST := Lib.hid hlast
  have HGT := Lib.hid hh
  have hcw2 : (cw : Int) ≤ 512 := by omega
  have hch2 : (ch : Int) ≤ 512 := by omega
  have hF2 : (F : Int) < (n : Int) := by omega
  have HX := Lib.hid (And.intro hcw (And.intro hch hn2))
  clear hr hlast hh h0 hp hqx hqy hF hn hcw hch hx hy b1 b2 b3 b4 b5 b6 b7 b8 b9 hl hF6
  go_enter Try.func150, Try.ntmps150
  go_upto_region 3 with (first | (go_at_call 152; refine (CE.out _).mono ?_; rintro e w1 ⟨rfl, hb1⟩; have HF1 := Lib.hid (blkStay (b := w.heap.size) (o := fldO X Y W H (.slice (some ⟨b, off, none⟩) n cap)) (by (first | (rw [heap_alloc_get, if_pos rfl]; done) | ((simp only [heap_alloc_get, heap_size_alloc, if_true]) <;> ((repeat' split) <;> first | rfl | omega)))) hb1); have HO1 := Lib.hid (blkStay (b := w.heap.size + 1) (o := .cells #[.int .i64 0, .int .i64 0, .int .i64 0, .float .f32 0, .float .f32 0] 71) (by (first | (rw [heap_alloc_get, if_pos rfl]; done) | ((simp only [heap_alloc_get, heap_size_alloc, if_true]) <;> ((repeat' split) <;> first | rfl | omega)))) hb1); have B1 := Lib.hid (Below.trans (show Below w.heap.size w _ from (by repeat (first | exact Below.refl _ _ | refine Below.alloc ?_ (by first | omega | (simp; done) | (simp; omega)) _ | refine Below.setCell ?_ (by first | omega | (simp; done) | (simp; omega)) _ | refine Below.drew ?_))) (hb1.mono (by first | omega | (simp; done) | (simp; omega)))); clear hb1; obtain ⟨cF, fF, zF⟩ := blkC HF1.out) | (go_at_call 112; refine (IX.out _).mono ?_; rintro e w2 ⟨rfl, rfl⟩))
  have hW3 : Below w1.heap.size w1 ((w1.alloc (regObj (X + qx) (Y + qy) cw ch)).alloc (regObj X Y W H)) := (by repeat (first | exact Below.refl _ _ | refine Below.alloc ?_ (by first | omega | (simp; done) | (simp; omega)) _ | refine Below.setCell ?_ (by first | omega | (simp; done) | (simp; omega)) _ | refine Below.drew ?_))
  have HF3 := Lib.hid (blkStay HF1.out hW3)
  have HO3 := Lib.hid (blkStay HO1.out hW3)
  have HC3 := Lib.hid (show ((w1.alloc (regObj (X + qx) (Y + qy) cw ch)).alloc (regObj X Y W H)).heap[w1.heap.size]? = some (regObj (X + qx) (Y + qy) cw ch) from by (first | (rw [heap_alloc_get, if_pos rfl]; done) | ((simp only [heap_alloc_get, heap_size_alloc, if_true]) <;> ((repeat' split) <;> first | rfl | omega))))
  have B3 := Lib.hid (B1.out.trans (hW3.mono B1.out.size))
  obtain ⟨pc, hpc⟩ : ∃ pc, pc = w1.heap.size := ⟨_, rfl⟩
  have hpc2 : w.heap.size + 1 < pc := by rw [hpc]; exact (blkC HO1.out).2.2
  rw [← hpc] at HC3 ⊢
  unfold regObj at HF3 HO3 HC3 B3
  clear hW3 HF1 HO1 B1 cF fF zF CE IX hpc
  generalize ((w1.alloc (Obj.cells #[.int .i64 (X + qx), .int .i64 (Y + qy), .int .i64 cw, .int .i64 ch] 38)).alloc (Obj.cells #[.int .i64 X, .int .i64 Y, .int .i64 W, .int .i64 H] 38)) = w3 at *
  have hsl : FlAt w3 b off n v := flAt_congr HR.out (B3.out.block b zb)
  have HS3 := Lib.hid hsl
  have zb3 : b < w3.heap.size := World.block_lt_of_cell? w3 _ (hsl 0 hn1)
  have hcF := hsl F hF0
  obtain ⟨cF, fF, zF⟩ := blkC HF3.out
  clear hsl
  go_cut [11, 12] from 29 to 38 (fun s11 s12 wx => s11 = .float .f32 (v F) ∧ s12 = .float .f32 (v F) ∧ Below w3.heap.size w3 wx)
  case first =>
    go_region
    all_goals
      go_wp2_with fail
      go_meet
      case rel => exact ⟨rfl, rfl, (by repeat (first | exact Below.refl _ _ | refine Below.alloc ?_ (by first | omega | (simp; done) | (simp; omega)) _ | refine Below.setCell ?_ (by first | omega | (simp; done) | (simp; omega)) _ | refine Below.drew ?_))⟩
  case rest =>
    obtain ⟨rfl, rfl, hb4⟩ := hcut
    have HB4 := Lib.hid hb4
    obtain ⟨cC, fC, zC⟩ := blkC (blkStay HC3.out hb4)
    have HLO := Lib.hid ((LoIn.one (allB_iff.1 HGT.out F hF0)).congr (Q := fun i => SeenI W F cw 0 0 i ∨ i = F) (fun i => ⟨.inr, fun q => by
      rcases q with ⟨j, c, e, h1, h2⟩ | q
      · omega
      · exact q⟩))
    have HHI := Lib.hid ((HiIn.one (allB_iff.1 HGT.out F hF0)).congr (Q := fun i => SeenI W F cw 0 0 i ∨ i = F) (fun i => ⟨.inr, fun q => by
      rcases q with ⟨j, c, e, h1, h2⟩ | q
      · omega
      · exact q⟩))
    clear hcF cF fF zF hb4
    go_wp2_with fail
    go_loopw [11, 12, 41] (fun s11 s12 s41 wr => ∃ (r lo hi : Nat), r ≤ ch ∧ s41 = .int .i64 r ∧ s11 = .float .f32 lo ∧ s12 = .float .f32 hi ∧ LoIn v (fun i => SeenI W F cw r 0 i ∨ i = F) lo ∧ HiIn v (fun i => SeenI W F cw r 0 i ∨ i = F) hi ∧ Below w3.heap.size w3 wr) (fun _ _ s41 _ => ch - (intOf s41).toNat)
    case atStart => exact ⟨0, v F, v F, Nat.zero_le _, rfl, rfl, rfl, HLO.out, HHI.out, HB4.out⟩
    case round =>
      clear HLO HHI HB4 cC fC zC
      obtain ⟨r, lo, hi, hrc, rfl, rfl, rfl, hlo, hhi, hb5⟩ := hrel
      have HLO := Lib.hid hlo
      have HHI := Lib.hid hhi
      have HB5 := Lib.hid hb5
      obtain ⟨cC, fC, zC⟩ := blkC (blkStay HC3.out hb5)
      obtain ⟨cF, fF, zF⟩ := blkC (blkStay HF3.out hb5)
      obtain ⟨cO, fO, zO⟩ := blkC (blkStay HO3.out hb5)
      clear hlo hhi
      by_cases hlt : r < ch
      · have HLT := Lib.hid hlt
        have hq1 := HLAST.out r 0 hlt (by have := HX.out.1.1; omega)
        have hq2 := HLAST.out r (cw - 1) hlt (by have := HX.out.1.1; omega)
        have hrows := Lib.hid (fun c (hc : c < cw) => HLAST.out r c hlt hc)
        obtain ⟨rW, hrW⟩ : ∃ q, r * W = q := ⟨_, rfl⟩
        have hrI : (r : Int) * (W : Int) = (rW : Int) := by rw [← hrW]; simp
        have hSE := Lib.hid (fun k (hk : k < cw) (i : Nat) => seen_next (W := W) (f := F) (c1 := cw) (r := r) (k := k) hk i)
        have hSR := Lib.hid (fun i => seen_row (W := W) (f := F) (c1 := cw) (r := r) i)
        rw [hrW] at hq1 hq2 hrows hSE
        obtain ⟨q, hq⟩ : ∃ q, F + rW = q := ⟨_, rfl⟩
        rw [hq] at hq1 hq2 hrows hSE
        have hcw0 : 1 ≤ cw := HX.out.1.1
        have u1 : IntKind.i64.wrap ((r : Int) * (W : Int)) = (rW : Int) := by rw [hrI]; exact IntWalk.i64_in _ (by omega)
        have u2 : IntKind.i64.wrap ((F : Int) + (rW : Int)) = (q : Int) := by rw [← hq, IntWalk.i64_in _ (by omega)]; simp
        have sl1 := slice_row_l b off n cap q (by omega) hcap
        have sl2 := slice_row_h b (off + q) (n - q) (cap - q) cw (by omega) (by omega)
        have hqn : (q : Int) < (n : Int) := by omega
        have hlt' : (r : Int) < (ch : Int) := by omega
        have HQ := Lib.hid hq1
        clear hrI hrW hq hq1 hq2 hcw0 hb5
        go_upto_region 7 with fail
        go_cut [56, 57, 58] from 44 to 58 (fun s56 s57 s58 wx => s56 = .slice (some ⟨b, off + q, none⟩) cw (cap - q) ∧ s57 = .int .i64 cw ∧ s58 = .int .i64 0 ∧ Below w3.heap.size w3 wx)
        case first =>
          go_region
          all_goals
            go_wp2_with fail
            go_meet
            case rel => exact ⟨rfl, rfl, rfl, HB5.out.drew⟩
        case rest =>
          obtain ⟨rfl, rfl, rfl, hb6⟩ := hcut
          have HB6 := Lib.hid hb6
          clear hb6 cC fC zC cF fF zF cO fO zO
          go_wp2_with fail
          go_loopw [11, 12, 58] (fun s11 s12 s58 wq => ∃ (k lo hi : Nat), k ≤ cw ∧ s58 = .int .i64 k ∧ s11 = .float .f32 lo ∧ s12 = .float .f32 hi ∧ LoIn v (fun i => SeenI W F cw r k i ∨ i = F) lo ∧ HiIn v (fun i => SeenI W F cw r k i ∨ i = F) hi ∧ Below w3.heap.size w3 wq) (fun _ _ s58 _ => cw - (intOf s58).toNat)
          case atStart => exact ⟨0, lo, hi, Nat.zero_le _, rfl, rfl, rfl, HLO.out, HHI.out, HB6.out⟩
          case round =>
            clear HLO HHI HB6 HB5
            obtain ⟨k, lo, hi, hk, rfl, rfl, rfl, hlo, hhi, hb7⟩ := hrel
            have HLO := Lib.hid hlo
            have HHI := Lib.hid hhi
            have HB7 := Lib.hid hb7
            clear hlo hhi
            by_cases hkc : k < cw
            · have hqk := hrows.out k hkc
              have hcell := (flAt_congr HS3.out (hb7.block b zb3)) (q + k) hqk
              rw [← Nat.add_assoc] at hcell
              have LE := Lib.hid (fun w => lesser_any lo (v (q + k)) w)
              have GE := Lib.hid (fun w => greater_any hi (v (q + k)) w)
              have HK := Lib.hid (allB_iff.1 HGT.out (q + k) hqk)
              have HL2 := Lib.hid ((HLO.out.step HK.out).congr (Q := fun i => SeenI W F cw r (k + 1) i ∨ i = F) (fun i => by
                rw [hSE.out k hkc i]
                constructor
                · rintro ((h | h) | h)
                  · exact .inl (.inl h)
                  · exact .inr h
                  · exact .inl (.inr h)
                · rintro ((h | h) | h)
                  · exact .inl (.inl h)
                  · exact .inr h
                  · exact .inl (.inr h)))
              have HH2 := Lib.hid ((HHI.out.step HK.out).congr (Q := fun i => SeenI W F cw r (k + 1) i ∨ i = F) (fun i => by
                rw [hSE.out k hkc i]
                constructor
                · rintro ((h | h) | h)
                  · exact .inl (.inl h)
                  · exact .inr h
                  · exact .inl (.inr h)
                · rintro ((h | h) | h)
                  · exact .inl (.inl h)
                  · exact .inr h
                  · exact .inl (.inr h)))
              have hkI : (k : Int) < (cw : Int) := by omega
              clear hb7
              generalize lesW lo (v (q + k)) = lo2 at *
              generalize grtW hi (v (q + k)) = hi2 at *
              go_wp2_with (first | (go_at_call 138; refine (LE.out _).mono ?_; rintro e w' ⟨rfl, rfl⟩) | (go_at_call 82; refine (GE.out _).mono ?_; rintro e w' ⟨rfl, rfl⟩))
              go_roundw
              case rel => exact ⟨k + 1, lo2, hi2, by omega, by go_num, rfl, rfl, HL2.out, HH2.out, HB7.out⟩
              case measure => simp [intOf]; omega
            · have hkw : k = cw := by omega
              have HL3 := Lib.hid (HLO.out.congr (Q := fun i => SeenI W F cw (r + 1) 0 i ∨ i = F) (fun i => by rw [hSR.out i, hkw]))
              have HH3 := Lib.hid (HHI.out.congr (Q := fun i => SeenI W F cw (r + 1) 0 i ∨ i = F) (fun i => by rw [hSR.out i, hkw]))
              clear hb7
              go_wp2_with fail
              go_roundw
              case rel => exact ⟨r + 1, lo, hi, HLT.out, by go_num, rfl, rfl, HL3.out, HH3.out, HB7.out⟩
              case measure => have := HLT.out; simp [intOf]; omega
      · have hrc2 : r = ch := by omega
        have HLF := Lib.hid (HLO.out.congr (Q := SeenI W F cw ch 0) (fun i => by
          rw [hrc2]
          constructor
          · rintro (h | h)
            · exact h
            · exact ⟨0, 0, by omega, HX.out.1.1, .inl HX.out.2.1.1⟩
          · exact .inl))
        have HHF := Lib.hid (HHI.out.congr (Q := SeenI W F cw ch 0) (fun i => by
          rw [hrc2]
          constructor
          · rintro (h | h)
            · exact h
            · exact ⟨0, 0, by omega, HX.out.1.1, .inl HX.out.2.1.1⟩
          · exact .inl))
        have HOR := Lib.hid (blkStay HO3.out hb5)
        have B5 := Lib.hid (B3.out.trans (HB5.out.mono B3.out.size))
        clear hb5
        have hsf := fun (w : World) (a : Addr) (m : Mode) (k : FloatKind) (b : Nat) => run_store_float (P := Try.prog) (w := w) (a := a) (m := m) k b
        go_wp2_with fail
        have h1 := heap_setCell_same wr (w.heap.size + 1) 0 _ _ (.int .i64 l) HOR.out
        have h2 := heap_setCell_same _ (w.heap.size + 1) 1 _ _ (.int .i64 x) h1
        have h3 := heap_setCell_same _ (w.heap.size + 1) 2 _ _ (.int .i64 y) h2
        have h4 := heap_setCell_same _ (w.heap.size + 1) 3 _ _ (.float .f32 lo) h3
        have h5 := heap_setCell_same _ (w.heap.size + 1) 4 _ _ (.float .f32 hi) h4
        have H5 := Lib.hid h5
        have BE := Lib.hid (show Below w.heap.size w (((((wr.setCell ⟨w.heap.size + 1, 0, none⟩ (.int .i64 l)).setCell ⟨w.heap.size + 1, 1, none⟩ (.int .i64 x)).setCell ⟨w.heap.size + 1, 2, none⟩ (.int .i64 y)).setCell ⟨w.heap.size + 1, 3, none⟩ (.float .f32 lo)).setCell ⟨w.heap.size + 1, 4, none⟩ (.float .f32 hi)) from by
          repeat (first | exact B5.out | refine Below.setCell ?_ (by simp; try omega) _))
        clear h1 h2 h3 h4 h5 cC fC zC cF fF zF cO fO zO
        obtain ⟨cE, fE, zE⟩ := blkC H5.out
        refine bodyPost_ret (v := boxV l x y lo hi) (by simp [results, Try.results150, go_sem, cE, boxV]) rfl ?_
        exact ⟨lo, hi, rfl, HLF.out, HHF.out, BE.out⟩
end Go.Proofs.Ytkcehbnmcdppkaa

/- The list of a field's boxes: how they are numbered; lists of boxes that are appended. -/
namespace Go.Proofs.Ytkcehbnmcdppkaa
open Go.RowKit Fl
set_option linter.unusedVariables false

/-- How many boxes a level has, and how many lie ahead of it. -/
def lvN (W H l : Nat) : Nat := bxN W l * bxN H l
def ofN (W H : Nat) : Nat → Nat
  | 0 => 0
  | l + 1 => ofN W H l + lvN W H l
theorem bxN_pos {n l : Nat} (h : 1 ≤ n) : 1 ≤ bxN n l := by
  unfold bxN
  have hp : 0 < 2 ^ l := Nat.two_pow_pos l
  rw [Nat.le_div_iff_mul_le hp]
  omega
theorem bxN_le {n l : Nat} (h : 1 ≤ n) : bxN n l ≤ n := by
  unfold bxN
  have hp : 0 < 2 ^ l := Nat.two_pow_pos l
  generalize 2 ^ l = p at *
  have : n + p - 1 < (n + 1) * p := by
    obtain ⟨m, rfl⟩ : ∃ m, n = m + 1 := ⟨n - 1, by omega⟩
    obtain ⟨q, rfl⟩ : ∃ q, p = q + 1 := ⟨p - 1, by omega⟩
    have : (m + 1 + 1) * (q + 1) = m * q + m + 2 * q + 2 := by grind
    have := Nat.zero_le (m * q)
    omega
  have := (Nat.div_lt_iff_lt_mul hp).2 this
  omega
theorem bxN_last {n l : Nat} (h : 1 ≤ n) (h2 : n ≤ 2 ^ l) : bxN n l = 1 := by
  unfold bxN
  have hp : 0 < 2 ^ l := Nat.two_pow_pos l
  generalize 2 ^ l = p at *
  rw [Nat.div_eq_of_lt_le] <;> omega
/-- A column that is one of a level has cells. -/
theorem bxN_in {n l x : Nat} (h : x < bxN n l) : x * 2 ^ l < n := by
  unfold bxN at h
  have hp : 0 < 2 ^ l := Nat.two_pow_pos l
  have := (Nat.le_div_iff_mul_le hp).1 (show x + 1 ≤ _ from h)
  rw [Nat.add_mul, Nat.one_mul] at this
  omega
theorem lvN_le {W H l : Nat} (h1 : 1 ≤ W) (h2 : 1 ≤ H) : 1 ≤ lvN W H l ∧ lvN W H l ≤ W * H :=
  ⟨Nat.mul_pos (bxN_pos h1) (bxN_pos h2), Nat.mul_le_mul (bxN_le h1) (bxN_le h2)⟩
theorem ofN_le {W H : Nat} (h1 : 1 ≤ W) (h2 : 1 ≤ H) (l : Nat) : ofN W H l ≤ l * (W * H) := by
  induction l with
  | zero => simp [ofN]
  | succ l ih =>
    have := (lvN_le (l := l) h1 h2).2
    rw [Nat.add_mul, Nat.one_mul]
    show ofN W H l + lvN W H l ≤ _
    omega
theorem lvN_one {W H l : Nat} (h1 : 1 ≤ W) (h2 : 1 ≤ H) (h3 : W ≤ 512) (h4 : H ≤ 512) (h : 9 ≤ l) : lvN W H l = 1 := by
  have hp : 2 ^ 9 ≤ 2 ^ l := Nat.pow_le_pow_right (by omega) h
  unfold lvN
  rw [bxN_last h1 (by omega), bxN_last h2 (by omega)]

/-- A box, as numbers. -/
structure BxR where
  l : Nat
  x : Nat
  y : Nat
  lo : Nat
  hi : Nat
abbrev BxR.cells (r : BxR) : Array Value := #[.int .i64 r.l, .int .i64 r.x, .int .i64 r.y, .float .f32 r.lo, .float .f32 r.hi]
/-- It is the box number i of the level l. -/
def BoxIs (v : Nat → Nat) (W H l i : Nat) (r : BxR) : Prop :=
  r.l = l ∧ r.x = i % bxN W l ∧ r.y = i / bxN W l ∧ LoIn v (SeenI W (r.y * 2 ^ l * W + r.x * 2 ^ l) (bxC W l r.x) (bxC H l r.y) 0) r.lo ∧ HiIn v (SeenI W (r.y * 2 ^ l * W + r.x * 2 ^ l) (bxC W l r.x) (bxC H l r.y) 0) r.hi
/-- The boxes ahead of the box i of the level l are there. -/
def BxsTo (v : Nat → Nat) (W H l i : Nat) (T : Nat → BxR) : Prop := ∀ l' i', (l' < l ∧ i' < lvN W H l') ∨ (l' = l ∧ i' < i) → BoxIs v W H l' i' (T (ofN W H l' + i'))
def updX (T : Nat → BxR) (k : Nat) (f : BxR) (i : Nat) : BxR := if i = k then f else T i
theorem updX_same (T : Nat → BxR) (k : Nat) (f : BxR) : updX T k f k = f := if_pos rfl
theorem updX_ne (T : Nat → BxR) {k i : Nat} (f : BxR) (h : i ≠ k) : updX T k f i = T i := if_neg h
theorem ofN_step {W H : Nat} {l' l i' : Nat} (h : l' < l) (hi : i' < lvN W H l') : ofN W H l' + i' < ofN W H l := by
  induction l with
  | zero => omega
  | succ l ih =>
    show _ < ofN W H l + lvN W H l
    by_cases e : l' = l
    · subst e; omega
    · have := ih (by omega); omega
theorem BxsTo.push {v : Nat → Nat} {W H l i : Nat} {T : Nat → BxR} {f : BxR} (h : BxsTo v W H l i T) (hf : BoxIs v W H l i f) : BxsTo v W H l (i + 1) (updX T (ofN W H l + i) f) := by
  intro l' i' c
  by_cases e : l' = l ∧ i' = i
  · obtain ⟨rfl, rfl⟩ := e
    rw [updX_same]; exact hf
  · have hne : ofN W H l' + i' ≠ ofN W H l + i := by
      rcases c with ⟨c1, c2⟩ | ⟨c1, c2⟩
      · have := ofN_step c1 c2; omega
      · subst c1; omega
    rw [updX_ne T f hne]
    exact h l' i' (by omega)
theorem BxsTo.next {v : Nat → Nat} {W H l : Nat} {T : Nat → BxR} (h : BxsTo v W H l (lvN W H l) T) : BxsTo v W H (l + 1) 0 T := by
  intro l' i' c
  refine h l' i' ?_
  rcases c with ⟨c1, c2⟩ | ⟨_, c2⟩
  · by_cases e : l' = l
    · subst e; exact .inr ⟨rfl, c2⟩
    · exact .inl ⟨by omega, c2⟩
  · omega

/-- The cells of the first k boxes. -/
def bxsL (T : Nat → BxR) : Nat → List Value
  | 0 => []
  | k + 1 => bxsL T k ++ (T k).cells.toList
theorem bxsL_len (T : Nat → BxR) (k : Nat) : (bxsL T k).length = k * 5 := by
  induction k with
  | zero => rfl
  | succ k ih => simp [bxsL, ih]; omega
theorem bxsL_congr {T T' : Nat → BxR} {k : Nat} (h : ∀ i, i < k → T i = T' i) : bxsL T k = bxsL T' k := by
  induction k with
  | zero => rfl
  | succ k ih => simp only [bxsL]; rw [ih (fun i hi => h i (by omega)), h k (by omega)]
theorem bxsL_upd (T : Nat → BxR) (k : Nat) (f : BxR) : bxsL (updX T k f) (k + 1) = bxsL T k ++ f.cells.toList := by
  show bxsL (updX T k f) k ++ (updX T k f k).cells.toList = _
  rw [bxsL_congr (T' := T) (fun i hi => updX_ne T f (by omega)), updX_same]
theorem bxsL_get (T : Nat → BxR) (k : Nat) {i j : Nat} (hi : i < k) (hj : j < 5) : (bxsL T k)[i * 5 + j]? = (T i).cells[j]? := by
  induction k with
  | zero => omega
  | succ k ih =>
    simp only [bxsL]
    by_cases e : i < k
    · rw [List.getElem?_append_left (by rw [bxsL_len]; omega)]
      exact ih e
    · obtain rfl : i = k := by omega
      rw [List.getElem?_append_right (by rw [bxsL_len]; omega), bxsL_len, show i * 5 + j - i * 5 = j by omega, Array.getElem?_toList]
/-- A block whose first n elements are these boxes. -/
def BxRow (w : World) (g n : Nat) (T : Nat → BxR) : Prop := (∀ i, i < n → ∀ j, j < 5 → w.cell? ⟨g, i * 5 + j, none⟩ = (T i).cells[j]?) ∧ g < w.heap.size
theorem BxRow.stay {w w' : World} {g n : Nat} {T : Nat → BxR} (h : BxRow w g n T) (hb : Below w.heap.size w w') : BxRow w' g n T :=
  ⟨fun i hi j hj => by rw [World.cell?_of_block (w := w) (a := ⟨g, i * 5 + j, none⟩) (hb.block g h.2)]; exact h.1 i hi j hj, Nat.lt_of_lt_of_le h.2 hb.size⟩
end Go.Proofs.Ytkcehbnmcdppkaa
