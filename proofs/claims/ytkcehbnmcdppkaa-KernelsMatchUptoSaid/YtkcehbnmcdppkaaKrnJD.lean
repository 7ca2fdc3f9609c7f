/- KernelsMatch, for every field, every row of weights, every side and every radius: Kernel and Blur answer as the references do, bit by bit. The condition: what comes in is of bulk at most 1048576 (the law repeats the weights thirty times, so beyond 2^44 weights no room is left). -/
import Derived.Test.YtkcehbnmcdppkaaKrnJC
import Derived.ProofKit
import Derived.OpenShut
import Derived.Lib.SmallJoins
import Derived.Laws.Cover2
import Derived.Deep.Slices
import Derived.JoinedCond

/- KernelsMatch: Kernel and Blur answer as the references do, for every field that fit makes. -/
namespace Go.Proofs.Ytkcehbnmcdppkaa
open Go.RowKit Fl
set_option linter.unusedVariables false

/-- The world has not changed (behind a name: no tactic strikes it off). -/
def SameK (a b : World) : Prop := a = b

set_option maxRecDepth 100000 in
set_option maxHeartbeats 8000000 in
theorem kernelsLaw_any (X0 Y0 W0 H0 : Int) (sl : Value) (a : Option Addr) (kl kc : Nat) (side rd : Int) (w : World) (hk : SlK w a kl kc) (hk2 : kl ≤ 1048576)
    (hfit : ∀ W', Below w.heap.size w W' → Calls Try.prog 36 #[fldV X0 Y0 W0 H0 sl] W' (FitPost W')) :
    Calls Try.prog 6 #[fldV X0 Y0 W0 H0 sl, .slice a kl kc, .int .i64 side, .int .i64 rd] w fun e w' => e = .returned (.bool true) ∧ Below w.heap.size w w' := by
  have HF := Lib.hid hfit
  have HK := Lib.hid hk
  have hkI : (kl : Int) ≤ 1048576 := by omega
  clear hfit hk
  go_enter Try.func6, Try.ntmps6
  go_wp2_with (first | (go_at_call 35; refine (landed_any _).mono ?_; rintro e w1 ⟨rfl, hb1⟩; have HA1 := Lib.hid (blkStay (b := w.heap.size) (o := fldO X0 Y0 W0 H0 sl) (heap_alloc_new w _) hb1); have hB1 : Below w.heap.size w w1 := Below.trans (by repeat (first | exact Below.refl _ _ | refine Below.alloc ?_ (by first | omega | (simp; done) | (simp; omega)) _ | refine Below.setCell ?_ (by first | omega | (simp; done) | (simp; omega)) _ | refine Below.drew ?_)) (Below.mono hb1 (by first | omega | (simp; done) | (simp; omega))); obtain ⟨cA, fA, zA⟩ := blkC HA1.out; clear hb1))
  refine (HF.out w1 hB1).mono ?_
  rintro e w2 ⟨X, Y, W', H', b, n, rfl, x1, x2, y1, y2, u1, u2, h1, h2, hn, hn1, hn2, hlo, hrow, hb2⟩
  obtain ⟨W, rfl⟩ : ∃ W : Nat, W' = W := ⟨W'.toNat, by omega⟩
  obtain ⟨H, rfl⟩ : ∃ H : Nat, H' = H := ⟨H'.toNat, by omega⟩
  obtain ⟨v, fv, wv, hv, bv⟩ := fit_fn hrow
  have h0 := fit_check x1 x2 y1 y2 u1 u2 h1 h2 hn hn2
  have hnn : n = W * H := by
    have : (n : Int) = ((W * H : Nat) : Int) := by rw [hn]; simp
    omega
  have HA2 := Lib.hid (blkStay HA1.out hb2)
  have hB2 : Below w.heap.size w w2 := hB1.trans (hb2.mono hB1.size)
  obtain ⟨cA, fA, zA⟩ := blkC HA2.out
  have KB := Lib.hid (fun W3 a' kl' kc' (hf : FlAt W3 b 0 n v) (hk' : SlK W3 a' kl' kc') => kernel_both X Y W H n b n v W3 h0 hnn hf hv (Nat.le_refl _) a' kl' kc' side hk')
  have BB := Lib.hid (fun W3 (hf : FlAt W3 b 0 n v) => blur_both X Y W H n b n v W3 h0 hnn hf hv (Nat.le_refl _) rd)
  have HN1 := Lib.hid hn1
  clear x1 x2 y1 y2 u1 u2 h1 h2 hn h0 hnn hrow hv wv
  have hbp : b ≠ w.heap.size := by have := hB1.size; omega
  have HA3 := Lib.hid (set5_self (.int .i64 X) (.int .i64 Y) (.int .i64 W) (.int .i64 H) (.slice (some ⟨b, 0, none⟩) n n) HA2.out)
  have F3 := Lib.hid (flAt_congr fv (set5_heap w2 w.heap.size b (.int .i64 X) (.int .i64 Y) (.int .i64 W) (.int .i64 H) (.slice (some ⟨b, 0, none⟩) n n) hbp))
  have hB3 := Lib.hid (set5_below hB2 w.heap.size (.int .i64 X) (.int .i64 Y) (.int .i64 W) (.int .i64 H) (.slice (some ⟨b, 0, none⟩) n n) (Nat.le_refl _))
  have hx := Lib.hid (set5_size w2 w.heap.size (.int .i64 X) (.int .i64 Y) (.int .i64 W) (.int .i64 H) (.slice (some ⟨b, 0, none⟩) n n))
  have ZB := Lib.hid bv
  clear hb2 hB2 hB1 hlo fv bv hbp hn1
  go_upto_region 4 with fail
  simp only [set5] at HA3 F3 hB3 hx
  have ZB3 := Lib.hid (show b < (((((w2.setCell ⟨w.heap.size, 0, none⟩ (.int .i64 X)).setCell ⟨w.heap.size, 1, none⟩ (.int .i64 Y)).setCell ⟨w.heap.size, 2, none⟩ (.int .i64 W)).setCell ⟨w.heap.size, 3, none⟩ (.int .i64 H)).setCell ⟨w.heap.size, 4, none⟩ (.slice (some ⟨b, 0, none⟩) n n)).heap.size from by rw [hx.out]; exact ZB.out)
  clear hx ZB HA1 HA2 HF
  generalize ((((w2.setCell ⟨w.heap.size, 0, none⟩ (.int .i64 X)).setCell ⟨w.heap.size, 1, none⟩ (.int .i64 Y)).setCell ⟨w.heap.size, 2, none⟩ (.int .i64 W)).setCell ⟨w.heap.size, 3, none⟩ (.int .i64 H)).setCell ⟨w.heap.size, 4, none⟩ (.slice (some ⟨b, 0, none⟩) n n) = w3 at *
  have SK := Lib.hid (HK.out.stay hB3.out)
  clear cA fA zA
  go_cut [27] from 17 to 27 (fun s27 wx => s27 = .bool (decide ((1 ≤ side ∧ side ≤ 5) ∧ 0 < kl)) ∧ SameK wx w3)
  case first =>
    by_cases c : (1 ≤ side ∧ side ≤ 5) ∧ 0 < kl
    · have HC := Lib.hid c
      obtain ⟨⟨c1, c2⟩, c3⟩ := c
      clear KB BB
      go_wp2_with fail
      go_meet
      case rel => exact ⟨by rw [decide_eq_true HC.out], rfl⟩
    · have HC := Lib.hid c
      have hc : side < 1 ∨ (¬ (side < 1) ∧ 5 < side) ∨ (¬ (side < 1) ∧ ¬ (5 < side) ∧ ¬ (0 < kl)) := by omega
      clear c KB BB
      rcases hc with c | ⟨c, c1⟩ | ⟨c, c1, c2⟩
      all_goals
        go_wp2_with fail
        go_meet
        case rel => exact ⟨by rw [decide_eq_false HC.out], rfl⟩
  case rest =>
  obtain ⟨rfl, hsw⟩ := hcut
  unfold SameK at hsw
  subst hsw
  generalize hcd : decide ((1 ≤ side ∧ side ≤ 5) ∧ 0 < kl) = cd
  have HCD := Lib.hid hcd
  clear hcd
  go_upto_if 27 with fail
  go_cut [1] from 28 to 33 (fun s1 wx => ∃ (a' : Option Addr) (kl' kc' : Nat), s1 = .slice a' kl' kc' ∧ SlK wx a' kl' kc' ∧ Below wc.heap.size wc wx)
  case first =>
    cases cd with
    | true =>
      obtain ⟨⟨c1, c2⟩, c3⟩ := of_decide_eq_true HCD.out
      obtain ⟨s, rfl⟩ : ∃ s : Nat, side = s := ⟨side.toNat, by omega⟩
      rcases SK.out.2 with q | ⟨kb, koff, kv, rfl, hkc, hkf, hkw⟩
      · omega
      have RP := Lib.hid (repeatS_any kb koff kl kc kv wc hkf hkw (by omega) hk2)
      obtain ⟨N, hN⟩ : ∃ N, kl * 30 = N := ⟨_, rfl⟩
      obtain ⟨M, hM⟩ : ∃ M, s * s = M := ⟨_, rfl⟩
      have hM2 : M ≤ 25 := by rw [← hM]; exact Nat.mul_le_mul (show s ≤ 5 by omega) (show s ≤ 5 by omega)
      have hMN : M ≤ N := by omega
      have HMN := Lib.hid hMN
      have hMNI : (M : Int) ≤ (N : Int) := by omega
      have uM : IntKind.i64.wrap ((s : Int) * (s : Int)) = (M : Int) := by
        rw [show (s : Int) * (s : Int) = (M : Int) from by rw [← hM]; simp]
        exact IntWalk.i64_in _ (by omega)
      rw [hN] at RP
      have HNN := Lib.hid (show N ≤ 9223372036854775807 from by omega)
      clear hN hM hkf hkw hkc c1 c2 c3 SK HK KB BB HCD
      go_wp2_with (go_at_call 37; (with_reducible refine Calls.mono RP.out ?_); rintro e w4 ⟨g, rfl, hg, hrow, hb4⟩; have HR4 := Lib.hid hrow; have HB4 := Lib.hid hb4; clear hrow hb4 hg)
      go_meet
      case rel =>
        obtain ⟨x, hx1, hx2, _⟩ := HR4.out.fn
        exact ⟨_, M, N, rfl, ⟨by have := HMN.out; have := HNN.out; omega, .inr ⟨g, 0, x, rfl, HMN.out, fun i hi => hx1 i (by have := HMN.out; omega), fun i hi => hx2 i (by have := HMN.out; omega)⟩⟩, HB4.out⟩
    | false =>
      clear KB BB HCD
      go_wp2_with fail
      go_meet
      case rel => exact ⟨_, _, _, rfl, SK.out, Below.refl _ _⟩
  case rest =>
    obtain ⟨a', kl', kc', rfl, hsk, hbc⟩ := hcut
    have F5 := flAt_congr F3.out (hbc.block b ZB3.out)
    have HA5 := Lib.hid (blkStay HA3.out hbc)
    have hB5 := Lib.hid (hB3.out.trans (hbc.mono hB3.out.size))
    obtain ⟨X1, Y1, W1, H1, n1, f1, er1, m1, m2, K1⟩ := KB.out wc a' kl' kc' F5 hsk
    obtain ⟨X2, Y2, W2, H2, n2, f2, er2, m3, m4, K2⟩ := BB.out wc F5
    have KK := Lib.hid K1
    have KL := Lib.hid K2
    have MM := Lib.hid (And.intro m1 (And.intro m2 (And.intro m3 m4)))
    clear K1 K2 m1 m2 m3 m4 F5 F3 HA3 hB3 hbc ZB3 SK HK KB BB hsk HCD hk2 hkI
    obtain ⟨cA, fA, zA⟩ := blkC HA5.out
    go_wp2_with fail
    with_reducible refine Calls.mono ((KK.out _ (Below.refl _ _)).1) ?_
    intro e w4 hp
    obtain ⟨x1, y1, u1, h1, p1, l1, q1, k1, rfl, r1, hb4⟩ := made_res hp
    have HA4 := Lib.hid (blkStay HA5.out hb4)
    have z4 := Lib.hid hb4.size
    have ZA4 := Lib.hid (blkC HA4.out).2.2
    have hb5 := al_below w4 (fldO x1 y1 u1 h1 (.slice p1 l1 q1))
    have B5 := Lib.hid (hb4.trans (hb5.mono hb4.size))
    have HQ5 := Lib.hid (heap_alloc_new w4 (fldO x1 y1 u1 h1 (.slice p1 l1 q1)))
    have R5 := Lib.hid (r1.stay hb5)
    clear hp hb4 r1 hb5 cA fA zA
    obtain ⟨cA, fA, zA⟩ := blkC HA4.out
    go_wp2_with fail
    with_reducible refine Calls.mono ((KK.out _ B5.out).2) ?_
    intro e w6 hp
    obtain ⟨x2, y2, u2, h2, p2, l2, q2, k2, rfl, r2, hb6⟩ := made_res hp
    have B6 := Lib.hid (B5.out.trans (hb6.mono B5.out.size))
    have HA6 := Lib.hid (blkStay HA5.out B6.out)
    have HQ6 := Lib.hid (blkStay HQ5.out hb6)
    have R6 := Lib.hid (R5.out.stay hb6)
    have z46 : w4.heap.size < w6.heap.size := (blkC HQ6.out).2.2
    have Z46 := Lib.hid z46
    have hb7 := al_below w6 (fldO x2 y2 u2 h2 (.slice p2 l2 q2))
    have B7 := Lib.hid (B6.out.trans (hb7.mono B6.out.size))
    have HQ7 := Lib.hid (blkStay HQ6.out hb7)
    have HR7 := Lib.hid (heap_alloc_new w6 (fldO x2 y2 u2 h2 (.slice p2 l2 q2)))
    have R7 := Lib.hid (R6.out.stay hb7)
    have T7 := Lib.hid (r2.stay hb7)
    clear hp hb6 r2 hb7 R5 HQ5 B5 HA4 R6 z46 cA fA zA KK
    obtain ⟨cA, fA, zA⟩ := blkC HA6.out
    obtain ⟨cQ, fQ, zQ6⟩ := blkC HQ6.out
    go_wp2_with fail
    refine (same_res MM.out.1 MM.out.2.1 R7.out T7.out).mono ?_
    rintro e w8 ⟨rfl, hb8⟩
    have B8 := Lib.hid (B7.out.trans (hb8.mono B7.out.size))
    have HA8 := Lib.hid (blkStay HA5.out B8.out)
    have HQ8 := Lib.hid (blkStay HQ7.out hb8)
    have HR8 := Lib.hid (blkStay HR7.out hb8)
    clear R7 T7 HQ7 HR7 B7 hb8 HQ6 HA6 B6 cA fA zA cQ fQ
    obtain ⟨cA, fA, zA⟩ := blkC HA8.out
    obtain ⟨cQ, fQ, zQ8⟩ := blkC HQ8.out
    obtain ⟨cR, fR, zR8⟩ := blkC HR8.out
    go_wp2_with fail
    with_reducible refine Calls.mono ((KL.out _ B8.out).1) ?_
    intro e w9 hp
    obtain ⟨x3, y3, u3, h3, p3, l3, q3, k3, rfl, r3, hb9⟩ := made_res hp
    have B9 := Lib.hid (B8.out.trans (hb9.mono B8.out.size))
    have HA9 := Lib.hid (blkStay HA5.out B9.out)
    have HQ9 := Lib.hid (blkStay HQ8.out hb9)
    have HR9 := Lib.hid (blkStay HR8.out hb9)
    have hx := set5_size w9 w4.heap.size (.int .i64 x3) (.int .i64 y3) (.int .i64 u3) (.int .i64 h3) (.slice p3 l3 q3)
    have HQ10 := Lib.hid (set5_self (.int .i64 x3) (.int .i64 y3) (.int .i64 u3) (.int .i64 h3) (.slice p3 l3 q3) HQ9.out)
    have HR10 := Lib.hid ((set5_heap w9 w4.heap.size w6.heap.size (.int .i64 x3) (.int .i64 y3) (.int .i64 u3) (.int .i64 h3) (.slice p3 l3 q3) (by have := Z46.out; omega)).trans HR9.out)
    have R10 := Lib.hid (r3.heap (w' := set5 w9 w4.heap.size (.int .i64 x3) (.int .i64 y3) (.int .i64 u3) (.int .i64 h3) (.slice p3 l3 q3)) (p := w4.heap.size) (by rw [hx]; exact Nat.le_refl _) (by have := zQ8; omega) (fun k hk _ => set5_heap w9 w4.heap.size k (.int .i64 x3) (.int .i64 y3) (.int .i64 u3) (.int .i64 h3) (.slice p3 l3 q3) hk))
    have B10 := Lib.hid (set5_below B9.out w4.heap.size (.int .i64 x3) (.int .i64 y3) (.int .i64 u3) (.int .i64 h3) (.slice p3 l3 q3) z4.out)
    have HA10 := Lib.hid (blkStay HA5.out B10.out)
    have Z9 := Lib.hid (show w8.heap.size ≤ w9.heap.size from hb9.size)
    have Z8 := Lib.hid (And.intro zQ8 zR8)
    have HX := Lib.hid hx
    clear hp hb9 r3 hx HQ8 HR8 HA8 B8 cA fA zA cQ fQ cR fR
    obtain ⟨cA, fA, zA⟩ := blkC HA9.out
    obtain ⟨cQ, fQ, zQ9⟩ := blkC HQ9.out
    obtain ⟨cR, fR, zR9⟩ := blkC HR9.out
    have q1 : w.heap.size < w4.heap.size := ZA4.out
    have q2 : w4.heap.size < w6.heap.size := Z46.out
    have q3 : w.heap.size < w6.heap.size := Nat.lt_trans q1 q2
    go_wp2_with fail
    with_reducible refine Calls.mono ((KL.out _ B10.out).2) ?_
    intro e w11 hp
    obtain ⟨x4, y4, u4, h4, p4, l4, q4, k4, rfl, r4, hb11⟩ := made_res hp
    rw [HX.out] at r4
    have HQ11 := Lib.hid (blkStay HQ10.out hb11)
    have HR11 := Lib.hid (blkStay HR10.out hb11)
    have R11 := Lib.hid (R10.out.stay hb11)
    have B11 := Lib.hid (B10.out.trans (hb11.mono B10.out.size))
    have hx2 := set5_size w11 w6.heap.size (.int .i64 x4) (.int .i64 y4) (.int .i64 u4) (.int .i64 h4) (.slice p4 l4 q4)
    have R12 := Lib.hid (R11.out.heap (w' := set5 w11 w6.heap.size (.int .i64 x4) (.int .i64 y4) (.int .i64 u4) (.int .i64 h4) (.slice p4 l4 q4)) (p := w6.heap.size) (by rw [hx2]; exact Nat.le_refl _) (by have := Z8.out.2; omega) (fun k hk _ => set5_heap w11 w6.heap.size k (.int .i64 x4) (.int .i64 y4) (.int .i64 u4) (.int .i64 h4) (.slice p4 l4 q4) hk))
    have T12 := Lib.hid (r4.heap (w' := set5 w11 w6.heap.size (.int .i64 x4) (.int .i64 y4) (.int .i64 u4) (.int .i64 h4) (.slice p4 l4 q4)) (p := w6.heap.size) (by rw [hx2]; exact Nat.le_refl _) (by have := Z8.out.2; have := Z9.out; omega) (fun k hk _ => set5_heap w11 w6.heap.size k (.int .i64 x4) (.int .i64 y4) (.int .i64 u4) (.int .i64 h4) (.slice p4 l4 q4) hk))
    have B12 := Lib.hid (set5_below B11.out w6.heap.size (.int .i64 x4) (.int .i64 y4) (.int .i64 u4) (.int .i64 h4) (.slice p4 l4 q4) (by have := Z46.out; have := z4.out; omega))
    clear hp hb11 r4 R10 R11 HQ9 HR9 HA9 HQ10 HR10 HA10 B9 B10 cA fA zA cQ fQ cR fR hx2 HX KL
    obtain ⟨cQ, fQ, zQ11⟩ := blkC HQ11.out
    obtain ⟨cR, fR, zR11⟩ := blkC HR11.out
    go_wp2_with fail
    refine (same_res MM.out.2.2.1 MM.out.2.2.2 R12.out T12.out).mono ?_
    rintro e w13 ⟨rfl, hb13⟩
    have B13 := Lib.hid (hB5.out.trans ((B12.out.trans (hb13.mono B12.out.size)).mono hB5.out.size))
    clear hb13
    go_wp2
    go_ret
    exact ⟨rfl, B13.out⟩
end Go.Proofs.Ytkcehbnmcdppkaa

/- A field that came in, opened: four integers, and a slice of singles that is empty or known cell by cell. -/
namespace Go.Proofs.Ytkcehbnmcdppkaa
open Go.ChangeShapes Go.WideShapes Go.ChangeAt Go.RowKit Go.Joins Fl

section
variable {H : Type} {enc : TypeId × Value → H} {w : World} {base : Nat} {spare : Nat → Bool} {held : Bool}

theorem trod_f32 {P : Program} {t : TypeId} {fuel : Nat} {v : Value} {y : DataW H × List MemPlace} (ht : P.underlying t = some (.float .f32)) (h : DataW.trod enc P w base spare held fuel t [v] = some y) : ∃ b, v = .float .f32 b ∧ b < 4294967296 := by
  cases fuel with
  | zero => simp [DataW.trod] at h
  | succ n =>
    unfold DataW.trod at h
    rw [ht] at h
    cases v <;> simp at h
    rename_i k b
    obtain ⟨⟨rfl, hw⟩, _⟩ := h
    exact ⟨b, rfl, by simpa [Lit.wf] using hw⟩

theorem array5 {α : Type} {cs : Array α} (h : cs.size = 5) : ∃ c0 c1 c2 c3 c4, cs = #[c0, c1, c2, c3, c4] := by
  obtain ⟨l⟩ := cs
  match l, h with
  | [c0, c1, c2, c3, c4], _ => exact ⟨c0, c1, c2, c3, c4, rfl⟩

theorem flAt_congr' {w w' : World} {b off n : Nat} {f : Nat → Nat} (h : FlAt w b off n f) (e : w'.heap[b]? = w.heap[b]?) : FlAt w' b off n f := fun i hi => by
  rw [← h i hi]; exact World.cell?_of_block (w := w) (a := ⟨b, off + i, none⟩) e

/-- What a slice of singles is: empty, or known cell by cell. -/
def SlF (w : World) (s : Value) : Prop :=
  (∃ a cap, s = .slice a 0 cap) ∨ ∃ b off len cap x, s = .slice (some ⟨b, off, none⟩) len cap ∧ 0 < len ∧ len ≤ 9223372036854775807 ∧ FlAt w b off len x ∧ wf32 len x

theorem open_singles {t e : TypeId} {fuel : Nat} {cs : List Value} {y : DataW H × List MemPlace} (ht : Try.prog.underlying t = some (.slice e)) (he : Try.prog.underlying e = some (.float .f32)) (hc : Try.prog.cellsOf e = 1)
    (h : DataW.trod enc Try.prog w base spare held fuel t cs = some y) : ∃ s, cs = [s] ∧ SlF w s := by
  rcases Go.Deep.open_slice1 ht hc h with ⟨rfl, _⟩ | ⟨a, len, cap, m, n, V, D, Pl, rfl, hb, hl, hm, hmm, _, hx⟩
  · exact ⟨_, rfl, .inl ⟨none, 0, rfl⟩⟩
  · refine ⟨_, rfl, ?_⟩
    rcases Nat.eq_zero_or_pos len with z | z
    · subst z; exact .inl ⟨_, _, rfl⟩
    · have hlm : len ≤ m := by rw [hmm]; split <;> omega
      have h0 := (hx 0 (by omega)).1
      obtain ⟨b, off, spot⟩ := a
      have hspot : spot = none := by simpa [Addr.add] using World.cell?_spot h0
      subst hspot
      have hv : ∀ i, i < len → ∃ x, V i = .float .f32 x ∧ x < 4294967296 := fun i hi => trod_f32 he (hx i (by omega)).2
      refine .inr ⟨b, off, len, cap, fun i => match V i with | .float _ x => x | _ => 0, rfl, z, ?_, fun i hi => ?_, fun i hi => ?_⟩
      · exact Nat.le_trans hl (Nat.le_trans hm (by decide))
      · have h1 := (hx i (by omega)).1
        obtain ⟨x, e1, _⟩ := hv i hi
        rw [← Go.WideShapes.add_plain, h1]
        simp only [e1]
      · obtain ⟨x, e1, e2⟩ := hv i hi
        simp only [e1]; exact e2

theorem cellsF : Try.prog.cellsOf 41 = 5 := by kernel_rfl
theorem cellsR : Try.prog.cellsOf 38 = 4 := by kernel_rfl
theorem cellsS : Try.prog.cellsOf 39 = 1 := by kernel_rfl
theorem cells1 : Try.prog.cellsOf 22 = 1 := by kernel_rfl
theorem cellsI : Try.prog.cellsOf 3 = 1 := by kernel_rfl

set_option maxRecDepth 100000 in
theorem open_field {r : Reach} {b0 : Nat} {v : Value} {d : DataW H} {p : List MemPlace} (hv : Value.okWide Try.prog w r b0 41 v) (h : DataW.Trod enc Try.prog w base spare held 41 v d p) :
    ∃ X Y W' H' : Int, ∃ s, v = fldV X Y W' H' s ∧ SlF w s := by
  obtain ⟨cs, rfl, hsz⟩ := okWide_struct Try.underlying41 hv
  obtain ⟨c0, c1, c2, c3, c4, rfl⟩ := array5 (hsz.trans cellsF)
  obtain ⟨fuel, hf⟩ := h
  obtain ⟨y0, y1, n, _, _, h0, h1⟩ := trod_struct2 Try.underlying41 hf
  rw [cellsR] at h0
  rw [cellsS] at h1
  obtain ⟨s, e4, hs⟩ := open_singles Try.underlying39 Try.underlying22 cells1 h1
  obtain ⟨z0, z1, z2, z3, n2, _, _, g0, g1, g2, g3⟩ := trod_struct4 Try.underlying38 h0
  rw [cellsI] at g0 g1 g2 g3
  obtain ⟨x0, e0, _, _⟩ := DataW.trod_int Try.underlying3 g0
  obtain ⟨x1, e1, _, _⟩ := DataW.trod_int Try.underlying3 g1
  obtain ⟨x2, e2, _, _⟩ := DataW.trod_int Try.underlying3 g2
  obtain ⟨x3, e3, _, _⟩ := DataW.trod_int Try.underlying3 g3
  simp [Value.cells] at e0 e1 e2 e3 e4
  subst e0 e1 e2 e3 e4
  exact ⟨x0, x1, x2, x3, _, rfl, hs⟩
end

theorem SlF.stay {w w' : World} {s : Value} (h : SlF w s) (hb : Below w.heap.size w w') : SlF w' s := by
  rcases h with h | ⟨b, off, len, cap, x, rfl, h1, h2, h3, h4⟩
  · exact .inl h
  · exact .inr ⟨b, off, len, cap, x, rfl, h1, h2, flAt_congr' h3 (hb.block _ (World.block_lt_of_cell? w _ (h3 0 h1))), h4⟩

/-- fit, of whatever slice. -/
theorem fit_any {X Y W H : Int} {s : Value} {w : World} (h : SlF w s) : Calls Try.prog 36 #[fldV X Y W H s] w (FitPost w) := by
  rcases h with ⟨a, cap, rfl⟩ | ⟨b, off, len, cap, x, rfl, h1, h2, h3, h4⟩
  · exact fit_none X Y W H a cap w
  · exact fit_some X Y W H b off len cap x w h1 h2 h3 h4

theorem laidOut : laidOutB Try.prog = true := by kernel_rfl
end Go.Proofs.Ytkcehbnmcdppkaa

/- KernelsMatch, for every field, every row of weights, every side and every radius: Kernel and Blur answer as the references do, bit by bit. The condition: what comes in is of bulk at most 1048576 (the law repeats the weights thirty times, so beyond 2^44 weights no room is left). -/
namespace Go.Proofs.Ytkcehbnmcdppkaa.kernelsMatch
open Go.ChangeShapes Go.WideShapes Go.ChangeAt Go.RowKit Go.Joins Fl
set_option linter.unusedVariables false

section
variable {H : Type} {enc : TypeId × Value → H} {w : World} {base : Nat} {spare : Nat → Bool} {held : Bool}

theorem one_le (d : DataW H) : 1 ≤ Rows.uptoBulk d := by
  cases d with
  | lit l => cases l <;> simp [Rows.uptoBulk]
  | nil => simp [Rows.uptoBulk]
  | ptr d => simp [Rows.uptoBulk]
  | slice elems spare => simp [Rows.uptoBulk]
  | agg parts => simp [Rows.uptoBulk]
  | iface t d => simp [Rows.uptoBulk]
  | map entries => simp [Rows.uptoBulk]
  | held h => simp [Rows.uptoBulk]
theorem bulk_len (l : List (DataW H)) : l.length ≤ Rows.uptoBulkAll l := by
  induction l with
  | nil => simp [Rows.uptoBulkAll]
  | cons x r ih => have := one_le x; simp only [Rows.uptoBulkAll, List.length_cons]; omega

set_option maxRecDepth 100000 in
/-- A row of singles that came in. -/
theorem open_row {r : Reach} {b0 : Nat} {v : Value} {d : DataW H} {p : List MemPlace} (hv : Value.okWide Try.prog w r b0 39 v) (h : DataW.Trod enc Try.prog w base spare held 39 v d p) :
    ∃ a n cap, v = .slice a n cap ∧ SlK w a n cap ∧ n ≤ Rows.uptoBulk d := by
  have hc : Try.prog.cellsOf 22 = 1 := by kernel_rfl
  obtain ⟨a2, len, cap, rfl⟩ := okWide_slice Try.underlying39 hv
  obtain ⟨fuel, hf⟩ := h
  rcases Go.Deep.open_slice1 Try.underlying39 hc hf with ⟨hcs, _⟩ | ⟨a, len', cap', m, n, V, D, Pl, hcs, hb, hl, hm, hmm, hx, hcell⟩
  · cases hcs
    exact ⟨_, _, _, rfl, ⟨by omega, .inl rfl⟩, by omega⟩
  · cases hcs
    have hmax : len ≤ 9223372036854775807 := Nat.le_trans hl (Nat.le_trans hm (by decide))
    refine ⟨_, _, _, rfl, ⟨hmax, ?_⟩, ?_⟩
    · rcases Nat.eq_zero_or_pos len with z | z
      · exact .inl z
      · have hlm : len ≤ m := by rw [hmm]; split <;> omega
        have h0 := (hcell 0 (by omega)).1
        obtain ⟨b, off, spot⟩ := a
        have hspot : spot = none := by simpa [Addr.add] using World.cell?_spot h0
        subst hspot
        have hv : ∀ i, i < len → ∃ x, V i = .float .f32 x ∧ x < 4294967296 := fun i hi => trod_f32 Try.underlying22 (hcell i (by omega)).2
        refine .inr ⟨b, off, fun i => match V i with | .float _ x => x | _ => 0, rfl, hl, fun i hi => ?_, fun i hi => ?_⟩
        · have h1 := (hcell i (by omega)).1
          obtain ⟨x, e1, _⟩ := hv i hi
          rw [← Go.WideShapes.add_plain, h1]
          simp only [e1]
        · obtain ⟨x, e1, e2⟩ := hv i hi
          simp only [e1]; exact e2
    · obtain ⟨rfl, _⟩ := Prod.mk.inj hx
      simp only [Rows.uptoBulk]
      have := bulk_len ((List.range len).map D)
      simp only [List.length_map, List.length_range] at this
      omega
end

theorem own : ownKnob Try.prog.godebug = none := by kernel_rfl

set_option maxRecDepth 100000 in
theorem lifted (os : Os) (started : os.Started) (H : Type) (enc : TypeId × Value → H) (F : Stop.Interp) :
    ReturnsInHanded {} Try.checked os 6 .any ((Rows.OpenSpec.upto Rows.kernelsMatchSpec).pre6 enc Try.prog Try.f6 Rows.kernelsMatchUptoRow.domain false) (((Rows.OpenSpec.upto Rows.kernelsMatchSpec).at F).post enc Try.prog Try.f6 false true false false) := by
  refine returnsInHanded_of_cond (C := Try.checked) (s := Rows.OpenSpec.upto Rows.kernelsMatchSpec) (k := Rows.uptoSmall) rfl own started (by kernel_rfl) Try.func6
    (OpenSpec.witness (enc := enc) (C := Try.checked) (s := Rows.OpenSpec.upto Rows.kernelsMatchSpec) (k := Rows.uptoSmall) rfl false ⟨#[], #[fldV 0 0 0 0 (.slice none 0 0), .slice none 0 0, .int .i64 0, .int .i64 0], []⟩ 8 (by kernel_rfl) (by kernel_rfl) (by kernel_rfl)
      (x := ([.agg [.agg [.lit (.int .i64 0), .lit (.int .i64 0), .lit (.int .i64 0), .lit (.int .i64 0)], .nil], .nil, .lit (.int .i64 0), .lit (.int .i64 0)], [], [])) (by kernel_rfl) rfl (by kernel_rfl)) ?_
  intro W base args ds gs before hval0 hW _ hk _
  have hval : ∀ (j : Nat) t v, Try.f6.params[j]? = some t → args[j]? = some v → Value.okWide Try.prog W .any base t v := hval0
  have hW' := hW
  have hplt : ∀ x ∈ before, x.block < W.heap.size := fun x hx => by simpa using hW'.lt x hx
  obtain ⟨p, q, hA0, hV, rfl, hfz, hnd⟩ := hW
  have hA : DataW.TrodAll enc Try.prog W 0 (fun _ => true) true Try.f6.params.toList args.toList ds p := hA0
  rw [Try.params6] at hA hval
  obtain ⟨v0, vs0, d0, ds0, p0, q0, hargs, rfl, rfl, h0, r0⟩ := trodAll_cons hA
  obtain ⟨v1, vs1, d1, ds1, p1, q1, rfl, rfl, rfl, h1, r1⟩ := trodAll_cons r0
  obtain ⟨v2, vs2, d2, ds2, p2, q2, rfl, rfl, rfl, h2, r2⟩ := trodAll_cons r1
  obtain ⟨v3, vs3, d3, ds3, p3, q3, rfl, rfl, rfl, h3, r3⟩ := trodAll_cons r2
  obtain ⟨rfl, rfl, rfl⟩ := trodAll_nil r3
  obtain rfl : args = #[v0, v1, v2, v3] := by cases args; simp_all
  obtain ⟨rfl, rfl⟩ := trodVars_none hV
  obtain ⟨X, Y, W0, H0, s, rfl, hs⟩ := open_field (hval 0 41 v0 rfl rfl) h0
  obtain ⟨a, n, cap, rfl, hsk, hbulk⟩ := open_row (hval 1 39 v1 rfl rfl) h1
  obtain ⟨sd, rfl, rfl, rfl, w2⟩ := open_int Try.underlying3 (hval 2 3 v2 rfl rfl) h2
  obtain ⟨rd, rfl, rfl, rfl, w3⟩ := open_int Try.underlying3 (hval 3 3 v3 rfl rfl) h3
  have hlt0 : ∀ x ∈ p0, x.block < W.heap.size := fun x hx => hplt x (by simp [hx])
  have hlt1 : ∀ x ∈ p1, x.block < W.heap.size := fun x hx => hplt x (by simp [hx])
  have hn : n ≤ 1048576 := by
    have h : Rows.uptoBulkAll [d0, d1, DataW.lit (H := H) (.int .i64 sd), DataW.lit (.int .i64 rd)] ≤ 1048576 := by
      have := of_decide_eq_true hk
      simpa only [List.append_nil] using this
    simp only [Rows.uptoBulkAll] at h
    omega
  clear hA0 hval0 hplt hk
  simp only [List.append_nil] at hW'
  refine (kernelsLaw_any X Y W0 H0 s a n cap sd rd W hsk hn (fun W' hb => fit_any (hs.stay hb))).mono fun e W' ⟨he, hb⟩ => ?_
  subst he
  exact ⟨_, rfl, _, _, _, [], _, [], hW', trodAll_cons_mk (shut_bool Try.underlying4 _) trodAll_mk0, trodAll_cons_mk (Below.trod laidOut (by kernel_rfl) (of_decide_eq_true (by kernel_rfl)) h0 hb hlt0) (trodAll_cons_mk (Below.trod laidOut (by kernel_rfl) (of_decide_eq_true (by kernel_rfl)) h1 hb hlt1) (trodAll_cons_mk (shut_int Try.underlying3 w2) (trodAll_cons_mk (shut_int Try.underlying3 w3) trodAll_mk0))), rfl, hb.frame _, fun h => by cases h⟩

theorem over : Rows.kernelsMatchUptoRow.holds Try.pinned (Rows.OpenSpec.upto Rows.kernelsMatchSpec) :=
  OpenClaim.holds_of_cond 6 Try.f6 rfl rfl rfl rfl rfl rfl rfl ⟨rfl, rfl, rfl, rfl, rfl⟩ rfl rfl rfl rfl rfl (by kernel_rfl) Try.func6 (by kernel_rfl)
    (of_decide_eq_true (by kernel_rfl)) (by unfold Func.isWrapper; rw [if_neg (of_decide_eq_false (by kernel_rfl))]; exact ⟨rfl, rfl⟩)
    (fun os started H enc _ F => lifted os started H enc F)

theorem proved : Rows.KernelsMatchUptoSaid :=
  over
#print axioms proved
end Go.Proofs.Ytkcehbnmcdppkaa.kernelsMatch
