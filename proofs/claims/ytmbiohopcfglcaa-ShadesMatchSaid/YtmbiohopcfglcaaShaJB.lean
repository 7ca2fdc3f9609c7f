/- Lemmas and contracts for the proof that the last text of this claim holds. -/
import Derived.Test.YtmbiohopcfglcaaShaJA
import Derived.Deep.AppendLies
import Derived.Deep.RegionLaw
import Derived.WalkKit
import Derived.Deep.RegionHeld3

/- Contract: the reference's made, whatever function it is given. -/
namespace Go.Proofs.Ytmbiohopcfglcaa
open Go.RowKit Fl
set_option linter.unusedVariables false

def rowL (f : Nat → Nat) (k : Nat) : List Value := (List.range k).map fun i => Value.float .f32 (f i)
theorem rowL_succ (f : Nat → Nat) (k : Nat) : rowL f (k + 1) = rowL f k ++ [.float .f32 (f k)] := by simp [rowL, List.range_succ]
theorem ownsRow_below {w w' : World} {base : Nat} {e : TypeId} {size : Nat} {v : Value} {n : Nat} {xs : List Value} (h : w.ownsRow base e size v n xs) (hb : Below w.heap.size w w') : w'.ownsRow base e size v n xs := by
  obtain ⟨h1, h2⟩ := h
  refine ⟨h1, ?_⟩
  rcases h2 with h2 | ⟨g, cap, cur, hv, hg, hh, r⟩
  · exact .inl h2
  · exact .inr ⟨g, cap, cur, hv, hg, blkStay hh hb, r⟩
theorem ownsRow_far {w : World} {base : Nat} {e : TypeId} {size : Nat} {v : Value} {n : Nat} {xs : List Value} (h : w.ownsRow base e size v n xs) {b : Nat} (hb : b < base) : some b ≠ v.ownBlock := by
  rcases h.2 with ⟨rfl, _⟩ | ⟨g, cap, cur, rfl, hg, _⟩
  · simp [Value.ownBlock]
  · intro c
    have : b = g := by simpa [Value.ownBlock] using c
    omega
theorem ownsRow_flAt {w : World} {base b cap k : Nat} {f : Nat → Nat} (h : w.ownsRow base 22 1 (.slice (some ⟨b, 0, none⟩) k cap) k (rowL f k)) (hk : 0 < k) : FlAt w b 0 k f ∧ b < w.heap.size ∧ base ≤ b := by
  rcases h.2 with ⟨h0, _⟩ | ⟨g, cap', cur, hv, hg, hh, h1, h2, h3, h4⟩
  · cases h0
  · cases hv
    refine ⟨fun i hi => ?_, (blkC hh).2.2, hg⟩
    rw [Nat.zero_add, (blkC hh).1 i]
    have : (cur.toList.take (k * 1))[i]? = some (.float .f32 (f i)) := by rw [h4]; simp [rowL, hi]
    rw [List.getElem?_take, if_pos (by omega)] at this
    simpa using this

/-- A function of a cell's place, as a closure. -/
def Clos2 (g : Nat) (caps : Array Value) (X Y W H : Int) (f : Nat → Nat) (w : World) : Prop :=
  ∀ (x y : Int) (i : Nat) (W' : World), X ≤ x → x < X + W → Y ≤ y → y < Y + H → (i : Int) = (y - Y) * W + (x - X) → Below w.heap.size w W' →
    Calls Try.prog g (#[.int .i64 x, .int .i64 y] ++ caps) W' fun e W'' => e = .returned (.float .f32 (f i)) ∧ Below W'.heap.size W' W''

/-- What holds of the world at each head of made's loops, when k values have been made. -/
def MadeAt (w : World) (X Y W H : Int) (f : Nat → Nat) (k : Nat) (wr : World) : Prop :=
  ∃ ov, wr.ownsRow (w.heap.size + 1 + 1 + 1) 22 1 ov k (rowL f k) ∧ wr.heap[w.heap.size]? = some (regObj X Y W H) ∧ wr.heap[w.heap.size + 1]? = some (fldO 0 0 0 0 (.slice none 0 0)) ∧
    wr.heap[w.heap.size + 1 + 1]? = some (fldO X Y W H ov) ∧ Below w.heap.size w wr

theorem flAt_congr {w w' : World} {b off n : Nat} {f : Nat → Nat} (h : FlAt w b off n f) (e : w'.heap[b]? = w.heap[b]?) : FlAt w' b off n f := fun i hi => by
  rw [← h i hi]; exact World.cell?_of_block (w := w) (a := ⟨b, off + i, none⟩) e

theorem made_step {w wr w2 w3 : World} {X Y W H : Int} {f : Nat → Nat} {k gg cap : Nat} {ov : Value} {o : Obj}
    (HO : wr.ownsRow (w.heap.size + 1 + 1 + 1) 22 1 ov k (rowL f k)) (HB : wr.heap[w.heap.size]? = some (regObj X Y W H)) (HS : wr.heap[w.heap.size + 1]? = some (fldO 0 0 0 0 (.slice none 0 0)))
    (HV : wr.heap[w.heap.size + 1 + 1]? = some (fldO X Y W H ov)) (hbel : Below w.heap.size w wr) (hb2 : Below wr.heap.size wr w2) (hgrow : (w2.alloc o).grownBy w3 ov.ownBlock)
    (hown3 : w3.ownsRow (w.heap.size + 1 + 1 + 1) 22 1 (.slice (some ⟨gg, 0, none⟩) (k + 1) cap) (k + 1) (rowL f k ++ [.float .f32 (f k)])) :
    MadeAt w X Y W H f (k + 1) (w3.setCell ⟨w.heap.size + 1 + 1, 4, none⟩ (.slice (some ⟨gg, 0, none⟩) (k + 1) cap)) := by
  have go : ∀ b o', wr.heap[b]? = some o' → b < w.heap.size + 1 + 1 + 1 → w3.heap[b]? = some o' := by
    intro b o' h hb
    have h2 := blkStay h hb2
    have hlt : b < w2.heap.size := by
      rcases Nat.lt_or_ge b w2.heap.size with x | x
      · exact x
      · rw [Array.getElem?_eq_none x] at h2; cases h2
    rw [hgrow.block b (by rw [heap_size_alloc]; omega) (ownsRow_far HO hb), heap_alloc_old _ _ hlt, h2]
  refine ⟨.slice (some ⟨gg, 0, none⟩) (k + 1) cap, ?_, ?_, ?_, ?_, ?_⟩
  · rw [rowL_succ]; exact ownsRow_setCell_below hown3 (show w.heap.size + 1 + 1 < w.heap.size + 1 + 1 + 1 by omega) _
  · exact (Below.heap_setCell _ _ _ _ (show w.heap.size ≠ w.heap.size + 1 + 1 by omega)).trans (go _ _ HB (by omega))
  · exact (Below.heap_setCell _ _ _ _ (show w.heap.size + 1 ≠ w.heap.size + 1 + 1 by omega)).trans (go _ _ HS (by omega))
  · rw [heap_setCell_same w3 (w.heap.size + 1 + 1) 4 _ _ _ (go _ _ HV (by omega))]; rfl
  · have h2 : Below w.heap.size w w2 := hbel.trans (hb2.mono hbel.size)
    have h3 := (h2.alloc h2.size o).grown hgrow (by rw [heap_size_alloc]; have := h2.size; omega) (fun b hb => by
      rcases HO.2 with ⟨rfl, _⟩ | ⟨g, _, _, rfl, hg, _⟩
      · cases hb
      · have : b = g := by simpa [Value.ownBlock] using hb.symm
        omega)
    exact h3.setCell (p := ⟨w.heap.size + 1 + 1, 4, none⟩) (show w.heap.size ≤ w.heap.size + 1 + 1 by omega) _

set_option maxRecDepth 100000 in
set_option maxHeartbeats 4000000 in
theorem made_any (X Y : Int) (W H n : Nat) (g : Nat) (caps : Array Value) (f : Nat → Nat) (w : World) (hcall : Enters g) (hcl : Clos2 g caps X Y W H f w) (hwf : wf32 n f) (hX1 : -16777216 ≤ X) (hX2 : X ≤ 16777216) (hY1 : -16777216 ≤ Y) (hY2 : Y ≤ 16777216) (hW1 : 1 ≤ W) (hW2 : W ≤ 512) (hH1 : 1 ≤ H) (hH2 : H ≤ 512) (hn : n = H * W) :
    Calls Try.prog 93 #[reg X Y W H, .func (.func g) #[] caps] w (MadePost w X Y W H n f) := by
  have HCL := Lib.hid hcl
  have HWF := Lib.hid hwf
  unfold Enters at hcall
  have HN := Lib.hid hn
  have hinfo : (Try.prog.info? 22).map (fun i => (i.zero, i.size, i.bytes)) = some (some (.float .f32 0), 1, 4) := by kernel_rfl
  obtain ⟨i0, hi, hz0, hz1, hz2⟩ := info_parts hinfo
  clear hcl hn hinfo hwf
  go_enter Try.func93, Try.ntmps93
  go_wp2
  go_loopw [7, 8] (fun y x wr => ∃ j : Nat, j ≤ H ∧ y = .int .i64 (Y + j) ∧ MadeAt w X Y W H f (j * W) wr) (fun y _ _ => (Y + H - intOf y).toNat)
  case atStart =>
    refine ⟨0, by omega, by simp, .slice none 0 0, ⟨by simp [rowL], .inl ⟨rfl, by simp⟩⟩, ?_, ?_, ?_, (by repeat (first | exact Below.refl _ _ | refine Below.alloc ?_ (by first | omega | (simp; done) | (simp; omega)) _ | refine Below.setCell ?_ (by first | omega | (simp; done) | (simp; omega)) _ | refine Below.drew ?_))⟩
    · simp only [heap_alloc_get, heap_size_alloc]; simp <;> omega
    · simp only [heap_alloc_get, heap_size_alloc]; simp <;> omega
    · simp only [heap_alloc_get, heap_size_alloc]; simp <;> omega
  case round =>
    obtain ⟨j, hj, rfl, hmade⟩ := hrel
    have HM := Lib.hid hmade
    obtain ⟨_, _, hbox, _⟩ := hmade
    obtain ⟨cB, fB, zB⟩ := blkC hbox
    clear hbox
    by_cases hlt : j < H
    · go_wp2
      clear cB fB zB
      obtain ⟨w1, rfl⟩ : ∃ w1, w1 = wr := ⟨_, rfl⟩
      go_loopw [8] (fun x wr => ∃ i : Nat, i ≤ W ∧ x = .int .i64 (X + i) ∧ MadeAt w X Y W H f (j * W + i) wr) (fun x _ => (X + W - intOf x).toNat)
      case atStart => exact ⟨0, by omega, by simp, HM.out⟩
      case round =>
        obtain ⟨i, hi1, rfl, hmi⟩ := hrel
        have HMi := Lib.hid hmi
        obtain ⟨ov, hown, hbox, hres, hout, hbel⟩ := hmi
        have HO := Lib.hid hown
        have HB := Lib.hid hbox
        have HS := Lib.hid hres
        have HV := Lib.hid hout
        obtain ⟨cB, fB, zB⟩ := blkC hbox
        obtain ⟨cV, fV, zV⟩ := blkC hout
        clear hbox hown hres hout
        by_cases hlt2 : i < W
        · have CC := Lib.hid (fun W' hb => HCL.out (X + i) (Y + j) (j * W + i) W' (by omega) (by omega) (by omega) (by omega) (by rw [show (Y + (j : Int) - Y) = j by omega, show (X + (i : Int) - X) = i by omega]; simp) hb)
          have hk : j * W + i < 262144 := by
            have : j * W ≤ 511 * 512 := Nat.mul_le_mul (by omega) hW2
            omega
          have hx : f (j * W + i) < 4294967296 := HWF.out _ (by
            rw [HN.out]
            have : (j + 1) * W ≤ H * W := Nat.mul_le_mul_right _ hlt
            rw [Nat.succ_mul] at this; omega)
          obtain ⟨k, hke⟩ : ∃ k, j * W + i = k := ⟨_, rfl⟩
          rw [hke] at CC hk hx HO
          have KE := Lib.hid (show j * W + (i + 1) = k + 1 by omega)
          clear hke
          have hrd : Below w.heap.size w wr.drew := hbel.drew
          have hb1 : k + 1 ≤ maxLen := by unfold maxLen; omega
          have hb2 : (k + 1) * 4 ≤ 140737488355328 := by omega
          have HB1 := Lib.hid hb1
          have HB2 := Lib.hid hb2
          clear hb1 hb2
          go_wp2_with fail
          go_region_law (first
            | (go_simp; (with_reducible refine (CC.out _ hrd).mono ?_); rintro e w2 ⟨rfl, hb2'⟩; have hb2 : Below wr.heap.size wr w2 := ⟨hb2'.os, hb2'.tape, hb2'.output, hb2'.size, hb2'.block⟩; have own2 := Lib.hid (ownsRow_below HO.out hb2); have out2 := Lib.hid (blkStay HV.out hb2); obtain ⟨cV2, fV2, zV2⟩ := blkC out2.out)
            | (refine step_append_lies _ (by rfl) _ _ _ (by rfl) (w.heap.size + 1 + 1 + 1) 22 i0 _ 1 4 Try.underlying27 hi hz0 hz1 hz2 rfl (by omega) ov k (rowL f k) (by rfl) (own2.out.alloc _) ⟨w2.heap.size, 0, none⟩ 1 1 [.float .f32 (f k)] (by rfl) (by rfl) (World.news_of_block (cs := #[.float .f32 (f k)]) (t := 22) (fr := (0, 0)) (heap_alloc_new w2 _)) (by simp [Value.oneCell']) (by omega) HB1.out HB2.out (by simp; omega) (w2.heap.size + 1) (by simp) ?_; intro gg cap w3 hown3 hgrow hat hlt3; have hF := ownsRow_far HO.out (show w.heap.size + 1 + 1 < w.heap.size + 1 + 1 + 1 by omega); have out3 := Lib.hid ((hgrow.block (w.heap.size + 1 + 1) (by rw [heap_size_alloc]; omega) hF).trans ((heap_alloc_old _ _ zV2).trans out2.out)); obtain ⟨cV3, fV3, zV3⟩ := blkC out3.out))
          all_goals
            have HM2 := Lib.hid (made_step HO.out HB.out HS.out HV.out hbel hb2 hgrow hown3)
            clear hown3 hgrow hat hlt3 hF cV3 fV3 zV3 cV2 fV2 zV2 cV fV zV
            go_wp2
            go_roundw
            case rel => exact ⟨i + 1, by omega, by go_num, by rw [KE.out]; exact HM2.out⟩
            case measure => simp [intOf]; omega
        · have hiW : i = W := by omega
          have HM3 : Hid (MadeAt w X Y W H f ((j + 1) * W) wr) := by
            have h := HMi.out
            rw [hiW, ← Nat.succ_mul] at h
            exact h
          have hge : ¬ X + (i : Int) < X + W := by omega
          clear hiW
          go_wp2
          go_roundw
          case rel => exact ⟨j + 1, by omega, by go_num, HM3.out⟩
          case measure => simp [intOf]; omega
    · have hjH : j = H := by omega
      have hn1 : 0 < n := by rw [HN.out]; exact Nat.mul_pos hH1 hW1
      have hn2 : n ≤ 262144 := by rw [HN.out]; exact Nat.le_trans (Nat.mul_le_mul hH2 hW2) (by omega)
      have hm := HM.out
      rw [hjH, ← HN.out] at hm
      obtain ⟨ov, hown, hbox, hres, hout, hbel⟩ := hm
      obtain ⟨gb, cap, rfl, hgb, _⟩ := hown.form hn1
      obtain ⟨hfl, hgl, _⟩ := ownsRow_flAt hown hn1
      obtain ⟨cV, fV, zV⟩ := blkC hout
      obtain ⟨cS, fS, zS⟩ := blkC hres
      have HF := Lib.hid hfl
      have OUT := Lib.hid (refOut_row gb 0 cap n f (by omega) wr hfl HWF.out)
      have HBL := Lib.hid hbel
      clear hjH hown hbox hres hout hfl hbel
      cases hall : allB n (fun i => hgtB (f i)) with
      | true =>
        have HA := Lib.hid hall
        rw [hall] at OUT
        clear hall
        go_wp2_with (go_at_call 184; refine OUT.out.mono ?_; rintro e w' ⟨rfl, rfl⟩)
        refine bodyPost_ret (v := .tuple #[fldV X Y W H (.slice (some ⟨gb, 0, none⟩) n cap), .int .i64 0]) (by simp [results, Try.results93, go_sem, cS]) rfl ?_
        exact .inl ⟨HA.out, gb, cap, rfl, by omega, by rw [set5_size]; exact hgl, flAt_congr HF.out (set5_heap wr (w.heap.size + 1) gb _ _ _ _ _ (by omega)), set5_below HBL.out (w.heap.size + 1) _ _ _ _ _ (by omega)⟩
      | false =>
        have HA := Lib.hid hall
        rw [hall] at OUT
        clear hall
        go_wp2_with (go_at_call 184; refine OUT.out.mono ?_; rintro e w' ⟨rfl, rfl⟩)
        refine bodyPost_ret (v := .tuple #[fldV 0 0 0 0 (.slice none 0 0), .int .i64 3]) (by simp [results, Try.results93, go_sem, cS]) rfl ?_
        exact .inr ⟨HA.out, rfl, set5_below HBL.out (w.heap.size + 1) _ _ _ _ _ (by omega)⟩

end Go.Proofs.Ytmbiohopcfglcaa

/- Values of rounded results, in units of 2 ^ -1074: sums, differences, products, whole numbers; rounding is monotone, exact on few digits, and errs by half a unit of the last place. -/
namespace Go.Proofs.Ytmbiohopcfglcaa.Fl
open Ieee

theorem vS_some {x : Nat} {a : Int} (h : vS x = some a) : ∃ s m p, single.read x = .number s m p ∧ vOf s m p = a := by
  unfold vS at h
  split at h
  · rename_i s m p e
    exact ⟨s, m, p, e, Option.some.inj h⟩
  · cases h

/-- The value of the single nearest to a value. -/
def rdS (c : Int) : Int := if c < 0 then -((rd single 925 c.natAbs : Nat) : Int) else ((rd single 925 c.natAbs : Nat) : Int)

theorem rdS_zero : rdS 0 = 0 := by
  unfold rdS
  rw [if_neg (by omega), show (0 : Int).natAbs = 0 from rfl, rd_zero]; rfl

theorem rdS_sign {c : Int} {sg : Bool} (h : c = 0 ∨ sg = decide (c < 0)) : (if sg then -1 else 1) * ((rd single 925 c.natAbs : Nat) : Int) = rdS c := by
  rcases h with rfl | rfl
  · rw [rdS_zero, show (0 : Int).natAbs = 0 from rfl, rd_zero]; simp
  · unfold rdS
    by_cases h : c < 0
    · rw [if_pos h]; simp [h]
    · rw [if_neg h]; simp [h]

theorem vS_word {sg : Bool} {V B : Nat} (hB : V < 2 ^ B) (hB' : B < 1202) : vS (wordAt single 925 sg V) = some ((if sg then -1 else 1) * ((rd single 925 V : Nat) : Int)) := by
  obtain ⟨M, I, q1, _, q3⟩ := read_val single sg (-1074) 925 leastS V (rungS_lt hB hB')
  rw [vS_num q1]; unfold vOf; rw [signed_eq]
  have e : (I - (-1074)).toNat = (I + 1074).toNat := by omega
  rw [e] at q3; rw [q3]

theorem vS_sum {s t : Bool} {m n : Nat} {i j : Int} {r B : Nat} (hi : -1074 ≤ i) (hj : -1074 ≤ j) (h : ((Datum.number s m i).sum (.number t n j)).map single.write = some r)
    (hB : (vOf s m i + vOf t n j).natAbs < 2 ^ B) (hB' : B < 1202) : vS r = some (rdS (vOf s m i + vOf t n j)) := by
  obtain ⟨p, q, q1, q2, q3⟩ := sum_val (s := s) (t := t) (m := m) (n := n) hi hj
  rw [q1] at h
  have h' := Option.some.inj h
  rw [← h']
  show vS (single.nearest _ p q) = _
  rw [nearest_val single _ (-1074) 925 leastS p (p := q) q2, show (q - (-1074)).toNat = (q + 1074).toNat by omega, q3, vS_word hB hB', rdS_sign]
  by_cases z : vOf s m i + vOf t n j = 0
  · exact .inl z
  · right; rw [if_neg z]

theorem vS_add {x y r B : Nat} {a b : Int} (h : Go.floatBits .add .f32 x y = some r) (ha : vS x = some a) (hb : vS y = some b) (hB : (a + b).natAbs < 2 ^ B) (hB' : B < 1202) : vS r = some (rdS (a + b)) := by
  obtain ⟨s, m, i, h1, rfl⟩ := vS_some ha
  obtain ⟨t, n, j, h2, rfl⟩ := vS_some hb
  have g1 := (read_single h1).low
  have g2 := (read_single h2).low
  have h' : ((single.read x).sum (single.read y)).map single.write = some r := h
  rw [h1, h2] at h'
  exact vS_sum (by omega) (by omega) h' hB hB'

theorem vOf_opp (t : Bool) (n : Nat) (j : Int) : vOf (!t) n j = - vOf t n j := by
  unfold vOf; rw [signed_eq, signed_eq]; cases t <;> simp

theorem vS_sub {x y r B : Nat} {a b : Int} (h : Go.floatBits .sub .f32 x y = some r) (ha : vS x = some a) (hb : vS y = some b) (hB : (a - b).natAbs < 2 ^ B) (hB' : B < 1202) : vS r = some (rdS (a - b)) := by
  obtain ⟨s, m, i, h1, rfl⟩ := vS_some ha
  obtain ⟨t, n, j, h2, rfl⟩ := vS_some hb
  have g1 := (read_single h1).low
  have g2 := (read_single h2).low
  have h' : ((single.read x).sum (single.read y).opposite).map single.write = some r := h
  rw [h1, h2] at h'
  have e : vOf s m i - vOf t n j = vOf s m i + vOf (!t) n j := by rw [vOf_opp]; omega
  rw [e] at hB ⊢
  exact vS_sum (t := !t) (by omega) (by omega) h' hB hB'

/-- One, in units. -/
def one : Nat := 2 ^ (1074 : Int).toNat
theorem one_eq : one = 2 ^ (1074 : Int).toNat := rfl
theorem one_pos : 0 < one := Nat.two_pow_pos _

theorem vS_mul {x y r B : Nat} {a b c : Int} (h : Go.floatBits .mul .f32 x y = some r) (ha : vS x = some a) (hb : vS y = some b) (hc : a * b = c * (one : Int)) (hB : c.natAbs < 2 ^ B) (hB' : B < 1202) : vS r = some (rdS c) := by
  obtain ⟨s, m, i, h1, rfl⟩ := vS_some ha
  obtain ⟨t, n, j, h2, rfl⟩ := vS_some hb
  have g1 := (read_single h1).low
  have g2 := (read_single h2).low
  have h' : ((single.read x).product (single.read y)).map single.write = some r := h
  rw [h1, h2] at h'
  have h'' := Option.some.inj h'
  rw [← h'']
  show vS (single.nearest (s ^^ t) (m * n) (i + j)) = _
  rw [nearest_val single _ (-1074) 925 leastS (m * n) (p := i + j) (by omega), show (i + j - (-1074)).toNat = (i + j + 1074).toNat by omega]
  have hv : c = (if (s ^^ t) then -1 else 1) * ((m * n * 2 ^ (i + j + 1074).toNat : Nat) : Int) := by
    have hp : (0 : Int) < (one : Int) := Int.natCast_pos.2 one_pos
    refine Int.eq_of_mul_eq_mul_right (Int.ne_of_gt hp) ?_
    rw [← hc]
    unfold vOf
    rw [signed_eq, signed_eq, one_eq]
    have p2 := pow_add_toNat (I := i + j + 1074) (J := 1074) (K := i + 1074) (L := j + 1074) (by omega) (by omega) (by omega) (by omega) (by omega)
    have e : m * n * 2 ^ (i + j + 1074).toNat * 2 ^ (1074 : Int).toNat = (m * 2 ^ (i + 1074).toNat) * (n * 2 ^ (j + 1074).toNat) := by
      rw [Nat.mul_assoc (m * n), p2]; simp only [Nat.mul_assoc, Nat.mul_left_comm]
    have e' : ((m * n * 2 ^ (i + j + 1074).toNat : Nat) : Int) * ((2 ^ (1074 : Int).toNat : Nat) : Int) = ((m * 2 ^ (i + 1074).toNat : Nat) : Int) * ((n * 2 ^ (j + 1074).toNat : Nat) : Int) := by
      rw [← Int.natCast_mul, e, Int.natCast_mul]
    refine Eq.trans ?_ (Int.mul_assoc _ _ _).symm
    rw [e']
    generalize ((m * 2 ^ (i + 1074).toNat : Nat) : Int) = u
    generalize ((n * 2 ^ (j + 1074).toNat : Nat) : Int) = v
    cases s <;> cases t <;> simp [Int.neg_mul, Int.mul_neg]
  have hn : c.natAbs = m * n * 2 ^ (i + j + 1074).toNat := by
    rw [hv, Int.natAbs_mul, Int.natAbs_natCast]; cases (s ^^ t) <;> simp
  rw [← hn, vS_word hB hB', rdS_sign]
  by_cases z : c = 0
  · exact .inl z
  · right
    have : 0 < m * n * 2 ^ (i + j + 1074).toNat := by omega
    generalize m * n * 2 ^ (i + j + 1074).toNat = V at *
    rw [hv]
    cases (s ^^ t)
    · simp
    · simp; omega

/-- A whole number as a single. -/
theorem vS_int {n : Int} {B : Nat} (hB : (n * (one : Int)).natAbs < 2 ^ B) (hB' : B < 1202) : vS (Go.floatOfInt .f32 n) = some (rdS (n * (one : Int))) := by
  show vS (single.nearest (n < 0) n.natAbs 0) = _
  rw [nearest_val single _ (-1074) 925 leastS n.natAbs (p := 0) (by omega), show ((0 : Int) - (-1074)).toNat = (1074 : Int).toNat by rfl]
  have e : (n * (one : Int)).natAbs = n.natAbs * 2 ^ (1074 : Int).toNat := by rw [Int.natAbs_mul, Int.natAbs_natCast, one_eq]
  rw [← e, vS_word hB hB', rdS_sign]
  by_cases z : n = 0
  · left; rw [z, Int.zero_mul]
  · right
    have hp : (0 : Int) < (one : Int) := Int.natCast_pos.2 one_pos
    by_cases h : n < 0
    · have := Int.mul_neg_of_neg_of_pos h hp
      simp [h, this]
    · have := Int.mul_nonneg (Int.not_lt.1 h) (Int.le_of_lt hp)
      simp [h]; omega

theorem rdS_neg (c : Int) : rdS (-c) = - rdS c := by
  rcases Int.lt_trichotomy c 0 with h | h | h
  · unfold rdS; rw [if_neg (by omega), if_pos h, Int.natAbs_neg]; omega
  · subst h; rw [show -(0 : Int) = 0 from rfl, rdS_zero]; rfl
  · unfold rdS; rw [if_pos (by omega), if_neg (by omega), Int.natAbs_neg]

theorem rdS_nat (V : Nat) : rdS (V : Int) = (rd single 925 V : Nat) := by
  unfold rdS; rw [if_neg (by omega), Int.natAbs_natCast]

theorem rd_mono {V W : Nat} (h : V ≤ W) : rd single 925 V ≤ rd single 925 W := by
  rcases Nat.eq_zero_or_pos V with z | z
  · subst z; rw [rd_zero]; exact Nat.zero_le _
  have z' : 0 < W := by omega
  obtain ⟨l1, l2, l3⟩ := last_le single 925 V z
  obtain ⟨k1, k2, k3⟩ := last_le single 925 W z'
  unfold rd
  generalize lastOf single 925 V = l at *
  generalize lastOf single 925 W = k at *
  rw [fbS] at l2 l3 k2 k3
  have pl : 0 < 2 ^ l := Nat.two_pow_pos l
  have pk : 0 < 2 ^ k := Nat.two_pow_pos k
  rcases Nat.lt_trichotomy l k with c | c | c
  · -- W reaches a higher binade
    have a : rnq V (2 ^ l) ≤ 2 ^ 24 := by
      have := rnq_mono (M := 2 ^ l) pl (N := V) (N' := 2 ^ 24 * 2 ^ l) (by rw [← Nat.pow_add]; exact Nat.le_of_lt (by rwa [show 24 + l = l + 23 + 1 by omega]))
      rwa [rnq_mul _ _ pl] at this
    have b : 2 ^ 23 ≤ rnq W (2 ^ k) := by
      have e : 2 ^ (k + 23) ≤ W := by rcases k3 with x | x; omega; exact x
      have := rnq_mono (M := 2 ^ k) pk (N := 2 ^ 23 * 2 ^ k) (N' := W) (by rw [← Nat.pow_add, show 23 + k = k + 23 by omega]; exact e)
      rwa [rnq_mul _ _ pk] at this
    calc rnq V (2 ^ l) * 2 ^ l ≤ 2 ^ 24 * 2 ^ l := Nat.mul_le_mul_right _ a
      _ = 2 ^ (24 + l) := by rw [Nat.pow_add]
      _ ≤ 2 ^ (23 + k) := Nat.pow_le_pow_right (by omega) (by omega)
      _ = 2 ^ 23 * 2 ^ k := by rw [Nat.pow_add]
      _ ≤ rnq W (2 ^ k) * 2 ^ k := Nat.mul_le_mul_right _ b
  · subst c
    exact Nat.mul_le_mul_right _ (rnq_mono pl h)
  · exfalso
    rcases l3 with x | x
    · omega
    · have : 2 ^ (l + 23) < 2 ^ (k + 23 + 1) := Nat.lt_of_le_of_lt (Nat.le_trans x h) k2
      have := (Nat.pow_lt_pow_iff_right (by omega : 1 < 2)).1 this
      omega

theorem rdS_mono {a b : Int} (h : a ≤ b) : rdS a ≤ rdS b := by
  have p : ∀ {a b : Int}, 0 ≤ a → a ≤ b → rdS a ≤ rdS b := by
    intro a b h0 h
    obtain ⟨m, rfl⟩ := Int.eq_ofNat_of_zero_le h0
    obtain ⟨n, rfl⟩ := Int.eq_ofNat_of_zero_le (Int.le_trans h0 h)
    rw [rdS_nat, rdS_nat]
    exact Int.ofNat_le.2 (rd_mono (Int.ofNat_le.1 h))
  rcases Int.lt_or_le a 0 with c | c
  · rcases Int.lt_or_le b 0 with d | d
    · have := p (a := -b) (b := -a) (by omega) (by omega)
      rw [rdS_neg, rdS_neg] at this; omega
    · have u := p (a := 0) (b := b) (by omega) d
      have v := p (a := 0) (b := -a) (by omega) (by omega)
      rw [rdS_neg] at v
      rw [rdS_zero] at u v
      omega
  · exact p c h

theorem rdS_exact {c : Int} (t : Int) (j : Nat) (ht : t.natAbs < 16777216) (hj : 925 ≤ j) (h : c = t * ((2 ^ j : Nat) : Int)) : rdS c = c := by
  have key : ∀ t : Nat, t < 16777216 → rdS ((t : Int) * ((2 ^ j : Nat) : Int)) = (t : Int) * ((2 ^ j : Nat) : Int) := by
    intro t ht
    rw [← Int.natCast_mul, rdS_nat, rd_exact single 925 t j (by rw [fbS]; exact ht) hj]
  subst h
  rcases Int.lt_or_le t 0 with c | c
  · obtain ⟨n, hn⟩ := Int.eq_ofNat_of_zero_le (show 0 ≤ -t by omega)
    have e : t * ((2 ^ j : Nat) : Int) = -((n : Int) * ((2 ^ j : Nat) : Int)) := by rw [← hn, Int.neg_mul, Int.neg_neg]
    rw [e, rdS_neg, key n (by omega)]
  · obtain ⟨n, rfl⟩ := Int.eq_ofNat_of_zero_le c
    exact key n (by omega)

/-- The error: at most half of 2 ^ e, below 2 ^ (e + 24). -/
theorem rdS_err {c : Int} {e : Nat} (he : 925 ≤ e) (hc : c.natAbs < 2 ^ (e + 24)) : 2 * (rdS c - c).natAbs ≤ 2 ^ e := by
  have key : ∀ V : Nat, V < 2 ^ (e + 24) → 2 * (rdS (V : Int) - (V : Int)).natAbs ≤ 2 ^ e := by
    intro V hV
    rcases Nat.eq_zero_or_pos V with z | z
    · subst z; rw [show ((0 : Nat) : Int) = 0 from rfl, rdS_zero]; simp
    obtain ⟨l1, l2, l3⟩ := last_le single 925 V z
    rw [rdS_nat]
    unfold rd
    generalize lastOf single 925 V = l at *
    rw [fbS] at l2 l3
    have hl : l ≤ e := by
      rcases l3 with x | x
      · omega
      · have : 2 ^ (l + 23) < 2 ^ (e + 24) := Nat.lt_of_le_of_lt x hV
        have := (Nat.pow_lt_pow_iff_right (by omega : 1 < 2)).1 this
        omega
    have hn := rnq_near (N := V) (M := 2 ^ l) (Nat.two_pow_pos l)
    have a := hn.low
    have b := hn.high
    have m : 2 ^ l ≤ 2 ^ e := Nat.pow_le_pow_right (by omega) hl
    generalize rnq V (2 ^ l) * 2 ^ l = R at *
    omega
  rcases Int.lt_or_le c 0 with d | d
  · obtain ⟨n, hn⟩ := Int.eq_ofNat_of_zero_le (show 0 ≤ -c by omega)
    have := key n (by omega)
    rw [← hn, rdS_neg] at this
    omega
  · obtain ⟨n, rfl⟩ := Int.eq_ofNat_of_zero_le d
    exact key n (by omega)

end Go.Proofs.Ytmbiohopcfglcaa.Fl

/- Values of literals; the words of Unit and Signed: what Hash's upper bits come to. -/
namespace Go.Proofs.Ytmbiohopcfglcaa.Fl
open Ieee

theorem vS_lit {x m t k j : Nat} {s : Bool} {p : Int} (h : single.read x = .number s m p) (hm : m = t * 2 ^ k) (hj : k + (p + 1074).toNat = j) : vS x = some ((if s then -1 else 1) * ((t * 2 ^ j : Nat) : Int)) := by
  rw [vS_num h]; unfold vOf; rw [signed_eq, hm, Nat.mul_assoc, ← Nat.pow_add, hj]

theorem one_split {a j : Nat} (h : a + j = 1074) : one = 2 ^ a * 2 ^ j := by
  rw [one_eq, ← Nat.pow_add]; exact congrArg (2 ^ ·) (by omega)
theorem one_pow {j : Nat} (h : j = 1074) : one = 2 ^ j := by rw [one_eq]; exact congrArg (2 ^ ·) (by omega)

theorem vS_one : vS 1065353216 = some (one : Int) := by
  have h : single.read 1065353216 = .number false 8388608 (-23) := by decide
  obtain ⟨j, hj⟩ : ∃ j : Nat, j = 1074 := ⟨_, rfl⟩
  rw [vS_lit (t := 1) (k := 23) (j := j) h (by decide) (by rw [hj]; decide), one_pow hj]; simp
theorem vS_mone : vS 3212836864 = some (-(one : Int)) := by
  have h : single.read 3212836864 = .number true 8388608 (-23) := by decide
  obtain ⟨j, hj⟩ : ∃ j : Nat, j = 1074 := ⟨_, rfl⟩
  rw [vS_lit (t := 1) (k := 23) (j := j) h (by decide) (by rw [hj]; decide), one_pow hj]; simp
theorem vS_two : vS 1073741824 = some (2 * (one : Int)) := by
  have h : single.read 1073741824 = .number false 8388608 (-22) := by decide
  obtain ⟨j, hj⟩ : ∃ j : Nat, j = 1074 := ⟨_, rfl⟩
  rw [vS_lit (t := 1) (k := 23) (j := j + 1) h (by decide) (by rw [hj]; decide), Nat.pow_succ, one_pow hj]; simp; omega
theorem vS_three : vS 1077936128 = some (3 * (one : Int)) := by
  have h : single.read 1077936128 = .number false 12582912 (-22) := by decide
  obtain ⟨j, hj⟩ : ∃ j : Nat, j = 1074 := ⟨_, rfl⟩
  rw [vS_lit (t := 3) (k := 22) (j := j) h (by decide) (by rw [hj]; decide), one_pow hj]; simp
theorem vS_zero : vS 0 = some 0 := by
  have h : single.read 0 = .number false 0 (-149) := by decide
  obtain ⟨j, hj⟩ : ∃ j : Nat, j = 925 := ⟨_, rfl⟩
  rw [vS_lit (t := 0) (k := 0) (j := j) h (by decide) (by rw [hj]; decide)]; simp
theorem vS_eps {j : Nat} (hj : j = 1050) : vS 864026624 = some ((2 ^ j : Nat) : Int) := by
  have h : single.read 864026624 = .number false 8388608 (-47) := by decide
  rw [vS_lit (t := 1) (k := 23) (j := j) h (by decide) (by rw [hj]; decide)]; simp

theorem bd_val {x k : Nat} {a : Int} (h : vS x = some a) (hb : a.natAbs ≤ 2 ^ (1074 + k)) : Bd k x := by
  obtain ⟨s, m, p, e, rfl⟩ := vS_some h
  refine ⟨s, m, p, e, ?_⟩
  unfold vOf at hb
  rw [signed_eq, Int.natAbs_mul, Int.natAbs_natCast] at hb
  cases s <;> simpa using hb
theorem val_bd {x k : Nat} (h : Bd k x) : ∃ a, vS x = some a ∧ a.natAbs ≤ 2 ^ (1074 + k) := by
  obtain ⟨s, m, p, e, hb⟩ := h
  refine ⟨_, vS_num e, ?_⟩
  unfold vOf
  rw [signed_eq, Int.natAbs_mul, Int.natAbs_natCast]
  cases s <;> simpa using hb

theorem bd_val' {x k j : Nat} {a : Int} (h : vS x = some a) (hj : j = 1074 + k) (hb : a.natAbs ≤ 2 ^ j) : Bd k x := by subst hj; exact bd_val h hb
theorem natAbs_lt_pow {a : Int} {B : Nat} {M : Int} (h1 : -M ≤ a) (h2 : a ≤ M) (h : M < ((2 ^ B : Nat) : Int)) : a.natAbs < 2 ^ B := by omega

/-- Unit of h as a word. -/
def unitW (h : Int) : Nat := (Go.floatBits .mul .f32 (Go.floatOfInt .f32 (h / 256)) 864026624).getD 0
/-- Signed of h as a word. -/
def sgnW (h : Int) : Nat := (Go.floatBits .sub .f32 ((Go.floatBits .mul .f32 (unitW h) 1073741824).getD 0) 1065353216).getD 0

theorem int_val {n : Int} (h : n.natAbs < 16777216) : vS (Go.floatOfInt .f32 n) = some (n * (one : Int)) ∧ Bd 24 (Go.floatOfInt .f32 n) := by
  obtain ⟨j, hj⟩ : ∃ j : Nat, j = 1074 := ⟨_, rfl⟩
  have e : 2 ^ (24 + j) = 16777216 * one := by rw [one_pow hj, Nat.pow_add]
  have hn : (n * (one : Int)).natAbs < 2 ^ (24 + j) := by
    rw [Int.natAbs_mul, Int.natAbs_natCast, e]
    exact Nat.mul_lt_mul_of_pos_right h one_pos
  have v := vS_int hn (by omega)
  rw [rdS_exact n j h (by omega) (by rw [one_pow hj])] at v
  exact ⟨v, bd_val' v (by omega) (Nat.le_of_lt hn)⟩

theorem unit_parts {h : Int} (h0 : 0 ≤ h) (h1 : h < 4294967296) :
    ∃ r, Go.floatBits .mul .f32 (Go.floatOfInt .f32 (h / 256)) 864026624 = some r ∧ Same2 .mul 24 (Go.floatOfInt .f32 (h / 256)) 864026624 ∧ r = unitW h := by
  obtain ⟨_, b⟩ := int_val (n := h / 256) (by omega)
  obtain ⟨j, hj⟩ : ∃ j : Nat, j = 1050 := ⟨_, rfl⟩
  have b2 : Bd 0 864026624 := bd_val' (j := 24 + j) (vS_eps hj) (by omega) (by rw [Int.natAbs_natCast]; exact Nat.pow_le_pow_right (by omega) (by omega))
  have S := mul_same (a := 24) (b := 0) (by omega) b b2
  obtain ⟨X, Y, Z, r, _, _, _, _, e, _⟩ := S.ex
  exact ⟨r, e, S, by unfold unitW; rw [e]; rfl⟩

theorem unit_val {h : Int} {j : Nat} (hj : j = 1050) (h0 : 0 ≤ h) (h1 : h < 4294967296) : vS (unitW h) = some (h / 256 * ((2 ^ j : Nat) : Int)) := by
  obtain ⟨r, e, S, rfl⟩ := unit_parts h0 h1
  obtain ⟨v, _⟩ := int_val (n := h / 256) (by omega)
  have hp : (0 : Int) < ((2 ^ j : Nat) : Int) := Int.natCast_pos.2 (Nat.two_pow_pos _)
  have eo : (2 : Nat) ^ (24 + j) = 16777216 * 2 ^ j := by rw [Nat.pow_add]
  have bd : (h / 256 * ((2 ^ j : Nat) : Int)).natAbs < 2 ^ (24 + j) := by
    rw [Int.natAbs_mul, Int.natAbs_natCast, eo]
    exact Nat.mul_lt_mul_of_pos_right (by omega) (Nat.two_pow_pos _)
  have m := vS_mul (c := h / 256 * ((2 ^ j : Nat) : Int)) e v (vS_eps hj) (by rw [Int.mul_assoc, Int.mul_assoc, Int.mul_comm (one : Int)]) bd (by omega)
  rwa [rdS_exact (h / 256) j (by omega) (by omega) rfl] at m

theorem sgn_parts {h : Int} (h0 : 0 ≤ h) (h1 : h < 4294967296) :
    ∃ p r, Go.floatBits .mul .f32 (unitW h) 1073741824 = some p ∧ Same2 .mul 2 (unitW h) 1073741824 ∧ Go.floatBits .sub .f32 p 1065353216 = some r ∧ Same2 .sub 3 p 1065353216 ∧ r = sgnW h := by
  obtain ⟨j, hj⟩ : ∃ j : Nat, j = 1050 := ⟨_, rfl⟩
  have u := unit_val hj h0 h1
  have b1 : Bd 0 (unitW h) := bd_val' (j := 24 + j) u (by omega) (by
    rw [Int.natAbs_mul, Int.natAbs_natCast, Nat.pow_add]
    exact Nat.mul_le_mul_right _ (by omega))
  obtain ⟨J, hJ⟩ : ∃ J : Nat, J = 1074 := ⟨_, rfl⟩
  have b2 : Bd 2 1073741824 := bd_val' (j := 2 + J) vS_two (by omega) (by
    rw [one_pow hJ, Nat.pow_add, Int.natAbs_mul, Int.natAbs_natCast]
    exact Nat.mul_le_mul_right _ (by decide))
  have b3 : Bd 2 1065353216 := bd_val' (j := 2 + J) vS_one (by omega) (by
    rw [one_pow hJ, Int.natAbs_natCast]; exact Nat.pow_le_pow_right (by omega) (by omega))
  have S := mul_same (a := 0) (b := 2) (by omega) b1 b2
  obtain ⟨X, Y, Z, p, _, _, _, _, e, bp⟩ := S.ex
  have T := sub_same (k := 2) (by omega) bp b3
  obtain ⟨X', Y', Z', r, _, _, _, _, e', _⟩ := T.ex
  exact ⟨p, r, e, S, e', T, by unfold sgnW; rw [e]; show r = (Go.floatBits .sub .f32 p 1065353216).getD 0; rw [e']; rfl⟩

theorem sgn_val {h : Int} {j : Nat} (hj : j = 1050) (h0 : 0 ≤ h) (h1 : h < 4294967296) : vS (sgnW h) = some ((2 * (h / 256) - 16777216) * ((2 ^ j : Nat) : Int)) := by
  obtain ⟨p, r, e, _, e', _, rfl⟩ := sgn_parts h0 h1
  have u := unit_val hj h0 h1
  have eo : one = 16777216 * 2 ^ j := by rw [one_split (a := 24) (j := j) (by omega)]
  obtain ⟨k, hk⟩ : ∃ k : Int, k = h / 256 := ⟨_, rfl⟩
  have k0 : 0 ≤ k := by omega
  have k1 : k < 16777216 := by omega
  rw [← hk] at u ⊢
  have ep : (2 : Nat) ^ (26 + j) = 67108864 * 2 ^ j := by rw [Nat.pow_add]
  have pj : 0 < 2 ^ j := Nat.two_pow_pos j
  have eJ : ((2 ^ (j + 1) : Nat) : Int) = 2 * ((2 ^ j : Nat) : Int) := by rw [Nat.pow_succ]; omega
  generalize hU : (2 ^ j : Nat) = U at *
  have hc : k * (U : Int) * (2 * (one : Int)) = 2 * k * (U : Int) * (one : Int) := by
    have G : ∀ a b c : Int, a * b * (2 * c) = 2 * a * b * c := fun a b c => by
      rw [Int.mul_left_comm, Int.mul_assoc 2 a b, Int.mul_assoc 2]
    exact G _ _ _
  have m := vS_mul (c := 2 * k * (U : Int)) e u vS_two hc (B := 26 + j) (by
      rw [ep, Int.natAbs_mul, Int.natAbs_natCast]
      exact Nat.mul_lt_mul_of_pos_right (by omega) pj) (by omega)
  rw [rdS_exact k (j + 1) (by omega) (by omega) (by rw [eJ, ← Int.mul_assoc, Int.mul_comm k 2])] at m
  have s := vS_sub e' m vS_one (B := 26 + j) (by
      rw [ep, eo]
      have a : (0 : Int) ≤ k * U := Int.mul_nonneg k0 (by omega)
      have b : k * U ≤ 16777216 * (U : Int) := Int.mul_le_mul_of_nonneg_right (by omega) (by omega)
      rw [Int.mul_assoc]
      omega) (by omega)
  have E : 2 * k * (U : Int) - ((one : Nat) : Int) = (2 * k - 16777216) * (U : Int) := by
    rw [eo, Int.sub_mul]; simp
  rw [E] at s
  have R : rdS ((2 * k - 16777216) * (U : Int)) = (2 * k - 16777216) * (U : Int) := by
    rcases Int.lt_or_le k 1 with c | c
    · have : k = 0 := by omega
      subst this
      refine rdS_exact (-1) (24 + j) (by decide) (by omega) ?_
      rw [Nat.pow_add, hU]; omega
    · exact rdS_exact (2 * k - 16777216) j (by omega) (by omega) (by rw [hU])
  rwa [R] at s

theorem unit_in {h : Int} (h0 : 0 ≤ h) (h1 : h < 4294967296) : ∃ a, vS (unitW h) = some a ∧ 0 ≤ a ∧ a < (one : Int) := by
  obtain ⟨j, hj⟩ : ∃ j : Nat, j = 1050 := ⟨_, rfl⟩
  have eo : one = 16777216 * 2 ^ j := by rw [one_split (a := 24) (j := j) (by omega)]
  have pj : 0 < 2 ^ j := Nat.two_pow_pos j
  refine ⟨_, unit_val hj h0 h1, Int.mul_nonneg (by omega) (by omega), ?_⟩
  rw [eo, Int.natCast_mul]
  exact Int.mul_lt_mul_of_pos_right (by omega) (Int.natCast_pos.2 pj)
theorem sgn_in {h : Int} (h0 : 0 ≤ h) (h1 : h < 4294967296) : ∃ a, vS (sgnW h) = some a ∧ -(one : Int) ≤ a ∧ a < (one : Int) := by
  obtain ⟨j, hj⟩ : ∃ j : Nat, j = 1050 := ⟨_, rfl⟩
  have eo : one = 16777216 * 2 ^ j := by rw [one_split (a := 24) (j := j) (by omega)]
  have pj : 0 < 2 ^ j := Nat.two_pow_pos j
  refine ⟨_, sgn_val hj h0 h1, ?_, ?_⟩
  · rw [eo, Int.natCast_mul, ← Int.neg_mul]
    exact Int.mul_le_mul_of_nonneg_right (by omega) (by omega)
  · rw [eo, Int.natCast_mul]
    exact Int.mul_lt_mul_of_pos_right (by omega) (Int.natCast_pos.2 pj)

end Go.Proofs.Ytmbiohopcfglcaa.Fl

/- Ease: t * t * (3 - 2 * t), each step rounded, lies from 0 to 1 where t does. -/
namespace Go.Proofs.Ytmbiohopcfglcaa.Fl
open Ieee

theorem vS_form {x : Nat} {a : Int} (h : vS x = some a) : ∃ (t : Int) (j : Nat), t.natAbs < 16777216 ∧ 925 ≤ j ∧ a = t * ((2 ^ j : Nat) : Int) := by
  obtain ⟨s, m, p, e, rfl⟩ := vS_some h
  have g := read_single e
  have l := g.low
  have sm := g.small
  refine ⟨(if s then -1 else 1) * (m : Int), (p + 1074).toNat, ?_, by omega, ?_⟩
  · rw [Int.natAbs_mul, Int.natAbs_natCast]; cases s <;> simp <;> omega
  · unfold vOf; rw [signed_eq, Int.natCast_mul, Int.mul_assoc]

theorem rdS_self {x : Nat} {a : Int} (h : vS x = some a) : rdS a = a := by
  obtain ⟨t, j, ht, hj, e⟩ := vS_form h
  exact rdS_exact t j ht hj e
theorem rdS_dbl {x : Nat} {a : Int} (h : vS x = some a) : rdS (2 * a) = 2 * a := by
  obtain ⟨t, j, ht, hj, e⟩ := vS_form h
  refine rdS_exact t (j + 1) ht (by omega) ?_
  rw [e, Nat.pow_succ]; generalize (2 : Nat) ^ j = U; grind

theorem mul_unit {x y : Nat} {a b : Int} (ha : vS x = some a) (hb : vS y = some b) : ∃ c, a * b = c * (one : Int) := by
  obtain ⟨t, i, _, hi, rfl⟩ := vS_form ha
  obtain ⟨u, j, _, hj, rfl⟩ := vS_form hb
  obtain ⟨k, hk⟩ : ∃ k : Nat, i + j = k + 1074 := ⟨i + j - 1074, by omega⟩
  obtain ⟨O, hO⟩ : ∃ O : Nat, O = 1074 := ⟨_, rfl⟩
  refine ⟨t * u * ((2 ^ k : Nat) : Int), ?_⟩
  have e : ((2 ^ i : Nat) : Int) * ((2 ^ j : Nat) : Int) = ((2 ^ k : Nat) : Int) * (one : Int) := by
    rw [one_pow hO, ← Int.natCast_mul, ← Int.natCast_mul, ← Nat.pow_add, ← Nat.pow_add]
    exact congrArg (fun n : Nat => ((2 ^ n : Nat) : Int)) (by omega)
  generalize ((2 ^ i : Nat) : Int) = I at *
  generalize ((2 ^ j : Nat) : Int) = J at *
  generalize ((2 ^ k : Nat) : Int) = K at *
  generalize (one : Int) = N at *
  rw [Int.mul_assoc (t * u), ← e]
  grind

theorem rdS_nonneg {c : Int} (h : 0 ≤ c) : 0 ≤ rdS c := by have := rdS_mono h; rwa [rdS_zero] at this

theorem rdS_tie {j : Nat} (hj : 925 ≤ j) : rdS (((16777217 * 2 ^ j : Nat) : Int)) = ((16777216 * 2 ^ j : Nat) : Int) := by
  rw [rdS_nat]
  congr 1
  have e : (16777217 * 2 ^ j).log2 = 24 + j := by
    rw [log2_mul_pow (by omega)]; rw [show Nat.log2 16777217 = 24 by decide]
  have l : lastOf single 925 (16777217 * 2 ^ j) = j + 1 := by
    unfold lastOf; rw [e, fbS]; omega
  unfold rd
  rw [l]
  have pj : 0 < 2 ^ j := Nat.two_pow_pos j
  have q : rnq (16777217 * 2 ^ j) (2 ^ (j + 1)) = 8388608 := by
    refine rnq_eq (Nat.two_pow_pos _) ?_
    rw [Nat.pow_succ]
    generalize 2 ^ j = U at *
    exact ⟨by omega, by omega, by omega, by omega⟩
  rw [q, Nat.pow_succ]; omega

/-- Ease as words. -/
def easeW (t : Nat) : Nat := (Go.floatBits .mul .f32 ((Go.floatBits .mul .f32 t t).getD 0) ((Go.floatBits .sub .f32 1077936128 ((Go.floatBits .mul .f32 1073741824 t).getD 0)).getD 0)).getD 0

theorem bd_two : Bd 2 1073741824 := by
  obtain ⟨J, hJ⟩ : ∃ J : Nat, J = 1074 := ⟨_, rfl⟩
  exact bd_val' (j := 2 + J) vS_two (by omega) (by
    rw [one_pow hJ, Nat.pow_add, Int.natAbs_mul, Int.natAbs_natCast]
    exact Nat.mul_le_mul_right _ (by decide))
theorem bd_three : Bd 2 1077936128 := by
  obtain ⟨J, hJ⟩ : ∃ J : Nat, J = 1074 := ⟨_, rfl⟩
  exact bd_val' (j := 2 + J) vS_three (by omega) (by
    rw [one_pow hJ, Nat.pow_add, Int.natAbs_mul, Int.natAbs_natCast]
    exact Nat.mul_le_mul_right _ (by decide))
theorem bd_unit {t : Nat} {a : Int} (h : vS t = some a) (a0 : -(one : Int) ≤ a) (a1 : a ≤ (one : Int)) : Bd 0 t := by
  obtain ⟨J, hJ⟩ : ∃ J : Nat, J = 1074 := ⟨_, rfl⟩
  exact bd_val' (j := J) h (by omega) (by rw [one_pow hJ] at a1 a0; omega)

structure EaseAt (t p q r v : Nat) : Prop where
  p1 : Go.floatBits .mul .f32 t t = some p
  p2 : Same2 .mul 0 t t
  q1 : Go.floatBits .mul .f32 1073741824 t = some q
  q2 : Same2 .mul 2 1073741824 t
  r1 : Go.floatBits .sub .f32 1077936128 q = some r
  r2 : Same2 .sub 3 1077936128 q
  v1 : Go.floatBits .mul .f32 p r = some v
  v2 : Same2 .mul 3 p r
  w : easeW t = v

theorem ease_parts {t : Nat} (b : Bd 0 t) : ∃ p q r v, EaseAt t p q r v := by
  have p2 := mul_same (a := 0) (b := 0) (by omega) b b
  obtain ⟨_, _, _, p, _, _, _, _, p1, bp⟩ := p2.ex
  have q2 := mul_same (a := 2) (b := 0) (by omega) bd_two b
  obtain ⟨_, _, _, q, _, _, _, _, q1, bq⟩ := q2.ex
  have r2 := sub_same (k := 2) (by omega) bd_three bq
  obtain ⟨_, _, _, r, _, _, _, _, r1, br⟩ := r2.ex
  have v2 := mul_same (a := 0) (b := 3) (by omega) bp br
  obtain ⟨_, _, _, v, _, _, _, _, v1, bv⟩ := v2.ex
  refine ⟨p, q, r, v, p1, p2, q1, q2, r1, r2, v1, v2, ?_⟩
  unfold easeW
  rw [p1, q1]
  show (Go.floatBits .mul .f32 p ((Go.floatBits .sub .f32 1077936128 q).getD 0)).getD 0 = v
  rw [r1]
  show (Go.floatBits .mul .f32 p r).getD 0 = v
  rw [v1]; rfl

theorem one_lt {B : Nat} (h : 1074 < B) : one < 2 ^ B := by
  obtain ⟨J, hJ⟩ : ∃ J : Nat, J = 1074 := ⟨_, rfl⟩
  rw [one_pow hJ]; exact Nat.pow_lt_pow_right (by omega) (by omega)
theorem small_of {c : Int} {n B : Nat} (h0 : 0 ≤ c) (h1 : c ≤ (2 ^ n : Nat) * (one : Int)) (hB : 1074 + n < B) : c.natAbs < 2 ^ B := by
  have : one < 2 ^ (B - n) := one_lt (by omega)
  have e : 2 ^ B = 2 ^ n * 2 ^ (B - n) := by rw [← Nat.pow_add]; exact congrArg (2 ^ ·) (by omega)
  have := Nat.mul_lt_mul_of_pos_left this (Nat.two_pow_pos n)
  rw [e]
  have h2 : c ≤ ((2 ^ n * one : Nat) : Int) := by rw [Int.natCast_mul]; exact h1
  omega

theorem ease_in {t : Nat} {a : Int} (h : vS t = some a) (a0 : 0 ≤ a) (a1 : a ≤ (one : Int)) : ∃ c, vS (easeW t) = some c ∧ 0 ≤ c ∧ c ≤ (one : Int) := by
  obtain ⟨p, q, r, v, E⟩ := ease_parts (bd_unit h (by omega) a1)
  rw [E.w]
  obtain ⟨P, hP⟩ := mul_unit h h
  have hone : (0 : Int) < (one : Int) := Int.natCast_pos.2 one_pos
  have P0 : 0 ≤ P := by
    have := Int.mul_nonneg a0 a0
    rw [hP] at this
    exact Int.le_of_mul_le_mul_right (by rw [Int.zero_mul]; exact this) hone
  have P1 : P ≤ (one : Int) := by
    have := Int.mul_le_mul a1 a1 a0 (Int.le_of_lt hone)
    rw [hP] at this
    exact Int.le_of_mul_le_mul_right this hone
  obtain ⟨B, hB⟩ : ∃ B : Nat, B = 1100 := ⟨_, rfl⟩
  have vp := vS_mul (B := B) E.p1 h h hP (small_of (n := 0) P0 (by rw [Nat.pow_zero]; omega) (by omega)) (by omega)
  have vq := vS_mul (B := B) (c := 2 * a) E.q1 vS_two h (by grind) (small_of (n := 2) (by omega) (by show _ ≤ (4 : Int) * _; omega) (by omega)) (by omega)
  rw [rdS_dbl h] at vq
  have vr := vS_sub (B := B) E.r1 vS_three vq (small_of (n := 2) (by omega) (by show _ ≤ (4 : Int) * _; omega) (by omega)) (by omega)
  have pp0 := rdS_nonneg P0
  have r0 : 0 ≤ rdS (3 * (one : Int) - 2 * a) := rdS_nonneg (by omega)
  obtain ⟨c, hc⟩ := mul_unit vp vr
  have c0 : 0 ≤ c := by
    have := Int.mul_nonneg pp0 r0
    rw [hc] at this
    exact Int.le_of_mul_le_mul_right (by rw [Int.zero_mul]; exact this) hone
  obtain ⟨O, hO⟩ : ∃ O : Nat, O = 1072 := ⟨_, rfl⟩
  -- the bound of the last product
  have key : c ≤ 4 * (one : Int) ∧ rdS c ≤ (one : Int) := by
    rcases Int.le_total (2 * a) (one : Int) with d | d
    · have eV : (one : Int) = 4 * ((2 ^ O : Nat) : Int) := by rw [one_split (a := 2) (j := O) (by omega), Int.natCast_mul]; rfl
      generalize hV : ((2 ^ O : Nat) : Int) = V at *
      have PV : P ≤ V := by
        have h4 : (2 * a) * (2 * a) ≤ (one : Int) * (one : Int) := Int.mul_le_mul d d (by omega) (Int.le_of_lt hone)
        refine Int.le_of_mul_le_mul_right (a := (one : Int)) ?_ hone
        have e1 : (2 * a) * (2 * a) = 4 * (P * (one : Int)) := by rw [← hP]; grind
        have e2 : (one : Int) * (one : Int) = 4 * (V * (one : Int)) := by rw [← Int.mul_assoc, ← eV]
        omega
      have p1 : rdS P ≤ V := by
        have := rdS_mono PV
        rwa [rdS_exact (c := V) 1 O (by decide) (by omega) (by rw [hV, Int.one_mul])] at this
      have r1 : rdS (3 * (one : Int) - 2 * a) ≤ 3 * (one : Int) := by
        have := rdS_mono (show 3 * (one : Int) - 2 * a ≤ 3 * (one : Int) by omega)
        rwa [rdS_self vS_three] at this
      have hm := Int.mul_le_mul p1 r1 r0 (by omega)
      rw [hc] at hm
      have c1 : c ≤ 3 * V := Int.le_of_mul_le_mul_right (by rw [show 3 * V * (one : Int) = V * (3 * (one : Int)) by grind]; exact hm) hone
      refine ⟨by omega, ?_⟩
      have := rdS_mono (show c ≤ (one : Int) by omega)
      rwa [rdS_self vS_one] at this
    · obtain ⟨m, i, hm, hi, ha⟩ := vS_form h
      obtain ⟨j, hj⟩ : ∃ j : Nat, j = 1050 := ⟨_, rfl⟩
      have eU : (one : Int) = 16777216 * ((2 ^ j : Nat) : Int) := by rw [one_split (a := 24) (j := j) (by omega), Int.natCast_mul]; rfl
      have pj : (0 : Int) < ((2 ^ j : Nat) : Int) := Int.natCast_pos.2 (Nat.two_pow_pos _)
      have hij : j ≤ i := by
        rcases Nat.lt_or_ge i j with c' | c'
        · exfalso
          have e : ((2 ^ j : Nat) : Int) = ((2 ^ i : Nat) : Int) * ((2 ^ (j - i) : Nat) : Int) := by rw [← Int.natCast_mul, ← Nat.pow_add]; exact congrArg (fun n : Nat => ((2 ^ n : Nat) : Int)) (by omega)
          have two : (2 : Int) ≤ ((2 ^ (j - i) : Nat) : Int) := by
            have : 2 ^ 1 ≤ 2 ^ (j - i) := Nat.pow_le_pow_right (by omega) (by omega)
            omega
          have pi : (0 : Int) < ((2 ^ i : Nat) : Int) := Int.natCast_pos.2 (Nat.two_pow_pos _)
          have : 2 * ((2 ^ i : Nat) : Int) ≤ ((2 ^ j : Nat) : Int) := by rw [e, Int.mul_comm]; exact Int.mul_le_mul_of_nonneg_left two (Int.le_of_lt pi)
          have ml : m ≤ 16777215 := by omega
          have : m * ((2 ^ i : Nat) : Int) ≤ 16777215 * ((2 ^ i : Nat) : Int) := Int.mul_le_mul_of_nonneg_right ml (Int.le_of_lt pi)
          omega
        · exact c'
      obtain ⟨k, hk⟩ : ∃ k : Int, a = k * ((2 ^ j : Nat) : Int) := ⟨m * ((2 ^ (i - j) : Nat) : Int), by
        rw [ha, Int.mul_assoc, ← Int.natCast_mul, ← Nat.pow_add]; exact congrArg (fun n : Nat => m * ((2 ^ n : Nat) : Int)) (by omega)⟩
      have vtie := rdS_tie (j := j) (by omega)
      rw [Int.natCast_mul, Int.natCast_mul] at vtie
      have verr := fun (hlt : P.natAbs < 2 ^ (j + 24)) => rdS_err (c := P) (e := j) (by omega) hlt
      have hlt : P ≠ (one : Int) → P.natAbs < 2 ^ (j + 24) := by
        intro ne
        have : 2 ^ (j + 24) = one := by rw [one_split (a := 24) (j := j) (by omega), Nat.pow_add, Nat.mul_comm]
        rw [this]; omega
      have hr : rdS (3 * (one : Int) - 2 * a) = (50331648 - 2 * k) * ((2 ^ j : Nat) : Int) := by
        have k1 : 8388608 ≤ k := by
          refine Int.le_of_mul_le_mul_right (a := ((2 ^ j : Nat) : Int)) ?_ pj
          rw [← hk]; omega
        have k2 : k ≤ 16777216 := by
          refine Int.le_of_mul_le_mul_right (a := ((2 ^ j : Nat) : Int)) ?_ pj
          rw [← hk]; omega
        have e : 3 * (one : Int) - 2 * a = (50331648 - 2 * k) * ((2 ^ j : Nat) : Int) := by rw [eU, hk]; grind
        rw [e]
        rcases Int.lt_or_le 8388608 k with c' | c'
        · refine rdS_exact (25165824 - k) (j + 1) (by omega) (by omega) ?_
          rw [Nat.pow_succ, Int.natCast_mul]; grind
        · have : k = 8388608 := by omega
          subst this
          refine rdS_exact 1 (j + 25) (by decide) (by omega) ?_
          rw [Nat.pow_add, Int.natCast_mul, Int.one_mul, Int.mul_comm]; rfl
      rw [hr] at hc
      have k1 : 8388608 ≤ k := by
        refine Int.le_of_mul_le_mul_right (a := ((2 ^ j : Nat) : Int)) ?_ pj
        rw [← hk]; omega
      have k2 : k ≤ 16777216 := by
        refine Int.le_of_mul_le_mul_right (a := ((2 ^ j : Nat) : Int)) ?_ pj
        rw [← hk]; omega
      generalize hU : ((2 ^ j : Nat) : Int) = U at *
      have pb : 2 * rdS P ≤ 2 * P + U := by
        by_cases ne : P = (one : Int)
        · rw [ne, rdS_self vS_one]; omega
        · have := verr (hlt ne); omega
      generalize rdS P = R at *
      have b1 : c ≤ 16777217 * U := by
        have cc : (2 * R) * ((50331648 - 2 * k) * U) ≤ (2 * P + U) * ((50331648 - 2 * k) * U) := Int.mul_le_mul_of_nonneg_right pb (Int.mul_nonneg (by omega) (by omega))
        have e1 : (2 * R) * ((50331648 - 2 * k) * U) = 2 * (c * (16777216 * U)) := by rw [← eU, ← hc]; grind
        -- P in units of U
        have e2 : P * 16777216 = k * k * U := by
          refine Int.eq_of_mul_eq_mul_right (Int.ne_of_gt pj) ?_
          rw [Int.mul_assoc P, ← eU, ← hP, hk]; grind
        have id : k * k * (50331648 - 2 * k) = 16777216 * 16777216 * 16777216 - (16777216 - k) * (16777216 - k) * (16777216 + 2 * k) := by grind
        have nn : 0 ≤ (16777216 - k) * (16777216 - k) * (16777216 + 2 * k) := Int.mul_nonneg (Int.mul_nonneg (by omega) (by omega)) (by omega)
        have f1 : k * k * (50331648 - 2 * k) * U ≤ 16777216 * 16777216 * 16777216 * U := Int.mul_le_mul_of_nonneg_right (by omega) (by omega)
        have f2 : (50331648 - 2 * k) * U ≤ 33554432 * U := Int.mul_le_mul_of_nonneg_right (by omega) (by omega)
        have e3 : (2 * P + U) * ((50331648 - 2 * k) * U) * 16777216 = (2 * (k * k * (50331648 - 2 * k) * U) + 16777216 * ((50331648 - 2 * k) * U)) * U := by
          have : (2 * P + U) * ((50331648 - 2 * k) * U) * 16777216 = (2 * (P * 16777216) + 16777216 * U) * ((50331648 - 2 * k) * U) := by grind
          rw [this, e2]; grind
        have e4 : 2 * (c * (16777216 * U)) * 16777216 = (2 * 16777216 * 16777216 * c) * U := by grind
        have g : (2 * 16777216 * 16777216 * c) * U ≤ (2 * (k * k * (50331648 - 2 * k) * U) + 16777216 * ((50331648 - 2 * k) * U)) * U := by
          rw [← e3, ← e4]
          exact Int.mul_le_mul_of_nonneg_right (by rw [← e1]; exact cc) (by omega)
        have g' := Int.le_of_mul_le_mul_right g pj
        omega
      refine ⟨by omega, ?_⟩
      have := rdS_mono b1
      have e5 : ((16777217 : Nat) : Int) * U = 16777217 * U := rfl
      have e6 : ((16777216 : Nat) : Int) * U = 16777216 * U := rfl
      rw [e5, e6] at vtie
      omega
  have vv := vS_mul (B := B) E.v1 vp vr hc (small_of (n := 2) c0 (by show _ ≤ (4 : Int) * _; exact key.1) (by omega)) (by omega)
  exact ⟨_, vv, rdS_nonneg c0, key.2⟩

end Go.Proofs.Ytmbiohopcfglcaa.Fl

/- Sums, products and quotients of singles as words. -/
namespace Go.Proofs.Ytmbiohopcfglcaa
open Go.RowKit Fl
set_option linter.unusedVariables false

/-- What an operation on singles answers stays below 2 ^ 32. -/
theorem opt_lt {d : Option Ieee.Datum} {r : Nat} (h : d.map Ieee.single.write = some r) : r < 4294967296 := by
  cases d with
  | none => cases h
  | some d => cases h; exact Ieee.Format.write_lt Ieee.single d

/-- The lesser, the greater, as words: the first one where they are equal. -/
def lesW (x y : Nat) : Nat := if (FloatKind.f32.format.order y x == some .lt) = true then y else x
def grtW (x y : Nat) : Nat := if (FloatKind.f32.format.order y x == some .gt) = true then y else x

def quoW (a b : Nat) : Nat := (floatBits .quo .f32 a b).getD 0
def subW (a b : Nat) : Nat := (floatBits .sub .f32 a b).getD 0
def addW (a b : Nat) : Nat := (floatBits .add .f32 a b).getD 0
def mulW (a b : Nat) : Nat := (floatBits .mul .f32 a b).getD 0
def ltB (a b : Nat) : Bool := FloatKind.f32.format.order a b == some .lt

theorem same_ex {op : BinOp} {k x y : Nat} (h : Same2 op k x y) : ∃ r, floatBits op .f32 x y = some r ∧ Bd k r := by
  obtain ⟨_, _, _, r, _, _, _, _, e, b⟩ := h.ex
  exact ⟨r, e, b⟩
theorem sub_lt {x y r : Nat} (h : floatBits .sub .f32 x y = some r) : r < 4294967296 := opt_lt (d := (Ieee.single.read x).sum (Ieee.single.read y).opposite) h
theorem mul_lt {x y r : Nat} (h : floatBits .mul .f32 x y = some r) : r < 4294967296 := opt_lt (d := (Ieee.single.read x).product (Ieee.single.read y)) h
theorem add_lt {x y r : Nat} (h : floatBits .add .f32 x y = some r) : r < 4294967296 := opt_lt (d := (Ieee.single.read x).sum (Ieee.single.read y)) h

end Go.Proofs.Ytmbiohopcfglcaa

/- Contracts: the reference's add, sub, mul; scaled, clamped; lesser, greater; At; Check of a right field. -/
namespace Go.Proofs.Ytmbiohopcfglcaa
open Go.RowKit Fl
set_option linter.unusedVariables false

theorem ret_fl {k : FloatKind} {a b : Nat} (h : a = b) : Ending.returned (.float k a) = .returned (.float k b) := by rw [h]

set_option maxHeartbeats 400000 in
theorem refAdd_any (k x y r : Nat) (h : Same2 .add k x y) (hr : floatBits .add .f32 x y = some r) (w : World) :
    Calls Try.prog 95 #[.float .f32 x, .float .f32 y] w fun e w' => e = .returned (.float .f32 r) ∧ w = w' := by
  obtain ⟨X, Y, Z, r', h1, h2, h3, h4, h5, _⟩ := h.ex
  rw [hr] at h5
  have h5 := Option.some.inj h5
  subst h5
  have c1 := fun (W : World) => run_convert_float_float (P := Try.prog) W 22 182 .f32 .f64 x X (by kernel_rfl) Try.underlying182 h1
  have c2 := fun (W : World) => run_convert_float_float (P := Try.prog) W 22 182 .f32 .f64 y Y (by kernel_rfl) Try.underlying182 h2
  have c3 := fun (W : World) => run_float_arith (P := Try.prog) W .add 182 .f64 X Y Z h3
  have c4 := fun (W : World) => run_convert_float_float (P := Try.prog) W 182 22 .f64 .f32 Z r (by kernel_rfl) Try.underlying22 h4
  clear h1 h2 h3 h4 hr h
  go_enter Try.func95, Try.ntmps95
  go_wp2
  go_ret
  exact ⟨rfl, rfl⟩

set_option maxHeartbeats 400000 in
theorem refSub_any (k x y r : Nat) (h : Same2 .sub k x y) (hr : floatBits .sub .f32 x y = some r) (w : World) :
    Calls Try.prog 101 #[.float .f32 x, .float .f32 y] w fun e w' => e = .returned (.float .f32 r) ∧ w = w' := by
  obtain ⟨X, Y, Z, r', h1, h2, h3, h4, h5, _⟩ := h.ex
  rw [hr] at h5
  have h5 := Option.some.inj h5
  subst h5
  have c1 := fun (W : World) => run_convert_float_float (P := Try.prog) W 22 182 .f32 .f64 x X (by kernel_rfl) Try.underlying182 h1
  have c2 := fun (W : World) => run_convert_float_float (P := Try.prog) W 22 182 .f32 .f64 y Y (by kernel_rfl) Try.underlying182 h2
  have c3 := fun (W : World) => run_float_arith (P := Try.prog) W .sub 182 .f64 X Y Z h3
  have c4 := fun (W : World) => run_convert_float_float (P := Try.prog) W 182 22 .f64 .f32 Z r (by kernel_rfl) Try.underlying22 h4
  clear h1 h2 h3 h4 hr h
  go_enter Try.func101, Try.ntmps101
  go_wp2
  go_ret
  exact ⟨rfl, rfl⟩

set_option maxHeartbeats 400000 in
theorem refMul_any (k x y r : Nat) (h : Same2 .mul k x y) (hr : floatBits .mul .f32 x y = some r) (w : World) :
    Calls Try.prog 97 #[.float .f32 x, .float .f32 y] w fun e w' => e = .returned (.float .f32 r) ∧ w = w' := by
  obtain ⟨X, Y, Z, r', h1, h2, h3, h4, h5, _⟩ := h.ex
  rw [hr] at h5
  have h5 := Option.some.inj h5
  subst h5
  have c1 := fun (W : World) => run_convert_float_float (P := Try.prog) W 22 182 .f32 .f64 x X (by kernel_rfl) Try.underlying182 h1
  have c2 := fun (W : World) => run_convert_float_float (P := Try.prog) W 22 182 .f32 .f64 y Y (by kernel_rfl) Try.underlying182 h2
  have c3 := fun (W : World) => run_float_arith (P := Try.prog) W .mul 182 .f64 X Y Z h3
  have c4 := fun (W : World) => run_convert_float_float (P := Try.prog) W 182 22 .f64 .f32 Z r (by kernel_rfl) Try.underlying22 h4
  clear h1 h2 h3 h4 hr h
  go_enter Try.func97, Try.ntmps97
  go_wp2
  go_ret
  exact ⟨rfl, rfl⟩

/-- Clamped, as the reference does it. -/
def clpW (v a b : Nat) : Nat := if (FloatKind.f32.format.order v a == some .lt) = true then a else if (FloatKind.f32.format.order v b == some .gt) = true then b else v

theorem clp_eq {v a b : Nat} (hv : finB v = true) (ha : finB a = true) (hb : finB b = true) (hab : (FloatKind.f32.format.order a b == some .gt) = false) : lesW (grtW v a) b = clpW v a b := by
  rw [show FloatKind.f32.format = Ieee.single from rfl] at hab
  unfold finB at hv ha hb
  obtain ⟨i, hi⟩ := Option.isSome_iff_exists.1 hv
  obtain ⟨j, hj⟩ := Option.isSome_iff_exists.1 ha
  obtain ⟨k, hk⟩ := Option.isSome_iff_exists.1 hb
  rw [gtr_val hj hk] at hab
  unfold lesW grtW clpW
  rw [show FloatKind.f32.format = Ieee.single from rfl, gtr_val hj hi, lss_val hi hj, gtr_val hi hk]
  simp only [decide_eq_true_eq, decide_eq_false_iff_not] at *
  by_cases c : i < j
  · rw [if_pos c, if_pos c, lss_val hk hj]; simp only [decide_eq_true_eq]; rw [if_neg (by omega)]
  · rw [if_neg c, if_neg c, lss_val hk hi]; simp only [decide_eq_true_eq]

set_option maxHeartbeats 1000000 in
theorem refAt_any (X Y : Int) (W H n b cap i : Nat) (v : Nat → Nat) (x y : Int) (w : World) (hX1 : -16777216 ≤ X) (hX2 : X ≤ 16777216) (hY1 : -16777216 ≤ Y) (hY2 : Y ≤ 16777216) (hW1 : 1 ≤ W) (hW2 : W ≤ 512) (hH2 : H ≤ 512)
    (h1 : X ≤ x) (h2 : x < X + W) (h3 : Y ≤ y) (h4 : y < Y + H) (hi : (i : Int) = (y - Y) * W + (x - X)) (hn : i < n) (hn2 : n ≤ 65536) (hc : FlAt w b 0 n v) :
    Calls Try.prog 96 #[fldV X Y W H (.slice (some ⟨b, 0, none⟩) n cap), .int .i64 x, .int .i64 y] w fun e w' => e = .returned (.float .f32 (v i)) ∧ w.alloc (fldO X Y W H (.slice (some ⟨b, 0, none⟩) n cap)) = w' := by
  have hq : 0 ≤ (y - Y) * W := Int.mul_nonneg (by omega) (by omega)
  have e1 : wrap64 (y - Y) = y - Y := IntWalk.wrap64_in _ ⟨by omega, by omega⟩
  have e2 : wrap64 ((y - Y) * W) = (y - Y) * W := IntWalk.wrap64_in _ ⟨by omega, by omega⟩
  have e3 : wrap64 ((y - Y) * W + x) = (y - Y) * W + x := IntWalk.wrap64_in _ ⟨by omega, by omega⟩
  have e4 : wrap64 ((y - Y) * W + x - X) = (i : Int) := by rw [IntWalk.wrap64_in _ ⟨by omega, by omega⟩]; omega
  have hcell := hc i hn
  rw [Nat.zero_add] at hcell
  have hlt : b < w.heap.size := World.block_lt_of_cell? w _ hcell
  clear hi hq hc
  go_enter Try.func96, Try.ntmps96
  go_wp2
  go_ret
  exact ⟨rfl, rfl⟩

set_option maxHeartbeats 1000000 in
theorem check_ok (X Y : Int) (W H n b cap : Nat) (v : Nat → Nat) (w : World) (h0 : checkR X Y W H = 0) (hn : n = W * H) (hc : FlAt w b 0 n v) (hh : allB n (fun i => hgtB (v i)) = true) :
    Calls Try.prog 90 #[fldV X Y W H (.slice (some ⟨b, 0, none⟩) n cap)] w fun e w' => e = .returned (.int .i64 0) ∧ Below w.heap.size w w' := by
  have HH := Lib.hid (fldE_zero.2 hh)
  obtain ⟨b1, b2, b3, b4, b5, _⟩ := checkR_zero h0
  have en : wrap64 ((W : Int) * (H : Int)) = (n : Int) := by
    have : ((W : Int) * (H : Int)) = (n : Int) := by rw [hn]; simp
    rw [this]; rw [this] at b5; exact IntWalk.wrap64_in _ ⟨by omega, by omega⟩
  have hn2 : n ≤ 65536 := by
    have : ((W : Int) * (H : Int)) = (n : Int) := by rw [hn]; simp
    omega
  have h1 : 1 ≤ n := by
    have := Nat.mul_pos (by omega : 0 < W) (by omega : 0 < H)
    omega
  have hlt : b < w.heap.size := World.block_lt_of_cell? w _ (hc 0 h1)
  have CH := Lib.hid (fun W' (hb : Below w.heap.size w W') => CheckHeights_row b 0 cap n v (by omega) W' (flAt_congr hc (hb.block _ hlt)))
  rw [HH.out] at CH
  have RC := Lib.hid (fun w => checkRegion_any X Y W H w)
  rw [h0] at RC
  clear hn hc hh h0 b5
  go_enter Try.func90, Try.ntmps90
  go_wp2_with (first | (go_at_call 83; refine (RC.out _).mono ?_; rintro e w' ⟨rfl, rfl⟩) | (go_at_call 88; refine (CH.out _ (by repeat (first | exact Below.refl _ _ | refine Below.alloc ?_ (by first | omega | (simp; done) | (simp; omega)) _ | refine Below.setCell ?_ (by first | omega | (simp; done) | (simp; omega)) _ | refine Below.drew ?_))).mono ?_; rintro e w' ⟨rfl, rfl⟩))
  go_ret
  exact ⟨rfl, (by repeat (first | exact Below.refl _ _ | refine Below.alloc ?_ (by first | omega | (simp; done) | (simp; omega)) _ | refine Below.setCell ?_ (by first | omega | (simp; done) | (simp; omega)) _ | refine Below.drew ?_))⟩

end Go.Proofs.Ytmbiohopcfglcaa

/- Contracts: Index; byPlace and Make, whatever function they are given. -/
namespace Go.Proofs.Ytmbiohopcfglcaa
open Go.RowKit Fl
set_option linter.unusedVariables false

theorem enters_place1 : Enters 222 := by intro args W; simp [callFunc, Try.func222, Try.f222]

set_option maxHeartbeats 1000000 in
theorem index_any (X Y : Int) (W H : Nat) (i : Nat) (x y : Int) (w : World) (hX1 : -16777216 ≤ X) (hX2 : X ≤ 16777216) (hY1 : -16777216 ≤ Y) (hY2 : Y ≤ 16777216) (hW1 : 1 ≤ W) (hW2 : W ≤ 512) (hH2 : H ≤ 512)
    (h1 : X ≤ x) (h2 : x < X + W) (h3 : Y ≤ y) (h4 : y < Y + H) (hi : (i : Int) = (y - Y) * W + (x - X)) (hn : i ≤ 65536) :
    Calls Try.prog 183 #[reg X Y W H, .int .i64 x, .int .i64 y] w fun e w' => e = .returned (.int .i64 (i : Int)) ∧ w.alloc (regObj X Y W H) = w' := by
  have hq : 0 ≤ (y - Y) * W := Int.mul_nonneg (by omega) (by omega)
  have e2 : wrap64 ((y - Y) * W) = (y - Y) * W := IntWalk.wrap64_in _ ⟨by omega, by omega⟩
  have e3 : wrap64 ((y - Y) * W + x) = (y - Y) * W + x := IntWalk.wrap64_in _ ⟨by omega, by omega⟩
  have e4 : wrap64 ((y - Y) * W + x - X) = (i : Int) := by rw [IntWalk.wrap64_in _ ⟨by omega, by omega⟩]; omega
  clear hi hq
  go_enter Try.func183, Try.ntmps183
  go_wp2
  go_ret
  exact ⟨ret_int e4, rfl⟩

/-- A function value in a box. -/
abbrev fnObj (g : Nat) (caps : Array Value) : Obj := .cells #[.func (.func g) #[] caps] 126

set_option maxHeartbeats 2000000 in
theorem place1_any (X Y : Int) (W H n : Nat) (g : Nat) (caps : Array Value) (f : Nat → Nat) (p q : Nat) (w : World) (hcall : Enters g) (hcl : Clos2 g caps X Y W H f w)
    (hp : w.heap[p]? = some (fnObj g caps)) (hq : w.heap[q]? = some (regObj X Y W H)) (hX1 : -16777216 ≤ X) (hX2 : X ≤ 16777216) (hY1 : -16777216 ≤ Y) (hY2 : Y ≤ 16777216) (hW1 : 1 ≤ W) (hW2 : W ≤ 512) (hH2 : H ≤ 512) (hn : n = H * W) :
    Clos1 222 #[.pointer (some ⟨p, 0, none⟩), .pointer (some ⟨q, 0, none⟩)] n f w := by
  intro i w2 hi hb
  have hdm := Nat.div_add_mod i W
  have hml := Nat.mod_lt i (show 0 < W by omega)
  have hdl : i / W < H := Nat.div_lt_of_lt_mul (by rw [Nat.mul_comm]; omega)
  obtain ⟨a, ha⟩ : ∃ a : Nat, a = i % W := ⟨_, rfl⟩
  obtain ⟨b, hb'⟩ : ∃ b : Nat, b = i / W := ⟨_, rfl⟩
  rw [← ha, ← hb'] at hdm
  rw [← ha] at hml
  rw [← hb'] at hdl
  have ei : (i : Int) = ((Y + b) - Y) * W + ((X + a) - X) := by
    rw [show Y + (b : Int) - Y = b by omega, show X + (a : Int) - X = a by omega, ← hdm]; simp [Int.mul_comm]
  have CC := Lib.hid (fun W' (hB : Below w2.heap.size w2 W') => hcl (X + a) (Y + b) i W' (by omega) (by omega) (by omega) (by omega) ei (hb.trans (hB.mono hb.size)))
  have P := blkStay hp hb
  have Q := blkStay hq hb
  have HP := Lib.hid P
  have HQ := Lib.hid Q
  obtain ⟨cP, fP, zP⟩ := blkC P
  obtain ⟨cQ, fQ, zQ⟩ := blkC Q
  unfold Enters at hcall
  have t1 : (i : Int).tmod (W : Int) = (a : Int) := by rw [ha]; rw [Int.tmod_eq_emod_of_nonneg (by omega)]; simp
  have t2 : (i : Int).tdiv (W : Int) = (b : Int) := by rw [hb']; rw [Int.tdiv_eq_ediv_of_nonneg (by omega)]; simp
  have t3 : (i : Int) % (W : Int) = (a : Int) := by rw [ha]; simp
  have t4 : (i : Int) / (W : Int) = (b : Int) := by rw [hb']; simp
  have u1 : IntKind.i64.wrap (X + (a : Int)) = X + a := IntWalk.i64_in _ (by omega)
  have u2 : IntKind.i64.wrap (Y + (b : Int)) = Y + b := IntWalk.i64_in _ (by omega)
  have u3 : IntKind.i64.wrap (b : Int) = b := IntWalk.i64_in _ (by omega)
  have w0 : ¬ ((W : Int) = 0) := by omega
  have w0' : ¬ (W = 0) := by omega
  have t5 : ((i : Int) % (W : Int)) = (a : Int) := t3
  have t6 : i % W = a := ha.symm
  have t7 : i / W = b := hb'.symm
  have w1 : (1 : Int) ≤ (W : Int) := by omega
  have i0 : (0 : Int) ≤ (i : Int) := by omega
  have b1 : (a : Int) < 512 := by omega
  have b2 : (b : Int) < 512 := by omega
  clear hp hq P Q hb ei hdm hml hdl ha hb' hcl
  go_enter Try.func222, Try.ntmps222
  go_wp2
  go_region_held3 (fun w' => (∀ o, w'.cell? ⟨q, o, none⟩ = #[.int .i64 X, .int .i64 Y, .int .i64 W, .int .i64 H][o]?) ∧ (∀ o, w'.cell? ⟨p, o, none⟩ = #[.func (.func g) #[] caps][o]?) ∧ Below w2.heap.size w2 w') (first | exact ⟨(blkC (blkStay HQ.out hb9)).1, (blkC (blkStay HP.out hb9)).1, hb9⟩ | exact ⟨(blkC (blkStay HQ.out (by repeat (first | exact Below.refl _ _ | refine Below.alloc ?_ (by first | omega | (simp; done) | (simp; omega)) _ | refine Below.setCell ?_ (by first | omega | (simp; done) | (simp; omega)) _ | refine Below.drew ?_)))).1, (blkC (blkStay HP.out (by repeat (first | exact Below.refl _ _ | refine Below.alloc ?_ (by first | omega | (simp; done) | (simp; omega)) _ | refine Below.setCell ?_ (by first | omega | (simp; done) | (simp; omega)) _ | refine Below.drew ?_)))).1, (by repeat (first | exact Below.refl _ _ | refine Below.alloc ?_ (by first | omega | (simp; done) | (simp; omega)) _ | refine Below.setCell ?_ (by first | omega | (simp; done) | (simp; omega)) _ | refine Below.drew ?_))⟩) (first | (go_simp; (with_reducible refine Calls.mono (CC.out _ ?_) ?_); exact (by repeat (first | exact Below.refl _ _ | refine Below.alloc ?_ (by first | omega | (simp; done) | (simp; omega)) _ | refine Below.setCell ?_ (by first | omega | (simp; done) | (simp; omega)) _ | refine Below.drew ?_)); rintro e w' ⟨rfl, hb8⟩; have hb9 : Below w2.heap.size w2 w' := ⟨hb8.os, hb8.tape, hb8.output, hb8.size, hb8.block⟩; clear hb8))
  rename_i hHeld
  go_wp2
  go_ret
  exact ⟨rfl, hHeld.2.2⟩

set_option maxHeartbeats 2000000 in
theorem byPlace_any (X Y : Int) (W H n : Nat) (g : Nat) (caps : Array Value) (f : Nat → Nat) (w : World) (hcall : Enters g) (hcl : Clos2 g caps X Y W H f w)
    (hX1 : -16777216 ≤ X) (hX2 : X ≤ 16777216) (hY1 : -16777216 ≤ Y) (hY2 : Y ≤ 16777216) (hW1 : 1 ≤ W) (hW2 : W ≤ 512) (hH1 : 1 ≤ H) (hH2 : H ≤ 512) (hn : n = H * W) (hn2 : n ≤ 65536) :
    Calls Try.prog 193 #[reg X Y W H, .func (.func g) #[] caps] w (MadePost w X Y W H n f) := by
  have en : (n : Int) = (W : Int) * (H : Int) := by rw [hn, Nat.mul_comm]; simp
  have n1 : 1 ≤ n := by rw [hn]; exact Nat.mul_pos hH1 hW1
  have BC := Lib.hid (byCell_any X Y W H n 222 #[.pointer (some ⟨w.heap.size + 1, 0, none⟩), .pointer (some ⟨w.heap.size, 0, none⟩)] f (((w.alloc (regObj X Y W H)).alloc (fnObj g caps)).alloc (fldO 0 0 0 0 (.slice none 0 0))) enters_place1
    (place1_any X Y W H n g caps f (w.heap.size + 1) w.heap.size _ hcall (fun x y i W' h1 h2 h3 h4 h5 hb => hcl x y i W' h1 h2 h3 h4 h5 (Below.trans (by repeat (first | exact Below.refl _ _ | refine Below.alloc ?_ (by first | omega | (simp; done) | (simp; omega)) _ | refine Below.setCell ?_ (by first | omega | (simp; done) | (simp; omega)) _ | refine Below.drew ?_)) (hb.mono (by simp; omega)))) (by ((simp only [heap_alloc_get, heap_size_alloc, if_true]) <;> ((repeat' split) <;> first | rfl | omega))) (by ((simp only [heap_alloc_get, heap_size_alloc, if_true]) <;> ((repeat' split) <;> first | rfl | omega))) hX1 hX2 hY1 hY2 hW1 hW2 hH2 hn) en n1 hn2)
  clear hcl hcall hn en
  go_enter Try.func193, Try.ntmps193
  go_wp2_with fail
  refine BC.out.mono ?_
  intro e w4 hmade
  rcases hmade with ⟨hall, b', cap', rfl, hb', hlt', hrow, hbel⟩ | ⟨hall, rfl, hbel⟩
  · have hS := Lib.hid (blkStay (b := w.heap.size + 1 + 1) (o := fldO 0 0 0 0 (.slice none 0 0)) (by ((simp only [heap_alloc_get, heap_size_alloc, if_true]) <;> ((repeat' split) <;> first | rfl | omega))) hbel)
    have hB : Below w.heap.size w w4 := Below.trans (by repeat (first | exact Below.refl _ _ | refine Below.alloc ?_ (by first | omega | (simp; done) | (simp; omega)) _ | refine Below.setCell ?_ (by first | omega | (simp; done) | (simp; omega)) _ | refine Below.drew ?_)) (Below.mono hbel (by simp; omega))
    obtain ⟨cS, fS, zS⟩ := blkC hS.out
    have HB := Lib.hid hb'
    clear hb'
    go_wp2
    refine bodyPost_ret (v := .tuple #[fldV X Y W H (.slice (some ⟨b', 0, none⟩) n cap'), .int .i64 0]) (by simp [results, Try.results193, go_sem, cS]) rfl ?_
    have hb' := HB.out
    simp only [heap_size_alloc] at hb'
    exact .inl ⟨hall, b', cap', rfl, by omega, by rw [set5_size]; exact hlt', flAt_congr hrow (set5_heap w4 _ _ _ _ _ _ _ (by omega)), set5_below hB _ _ _ _ _ _ (by omega)⟩
  · have hS := Lib.hid (blkStay (b := w.heap.size + 1 + 1) (o := fldO 0 0 0 0 (.slice none 0 0)) (by ((simp only [heap_alloc_get, heap_size_alloc, if_true]) <;> ((repeat' split) <;> first | rfl | omega))) hbel)
    have hB : Below w.heap.size w w4 := Below.trans (by repeat (first | exact Below.refl _ _ | refine Below.alloc ?_ (by first | omega | (simp; done) | (simp; omega)) _ | refine Below.setCell ?_ (by first | omega | (simp; done) | (simp; omega)) _ | refine Below.drew ?_)) (Below.mono hbel (by simp; omega))
    obtain ⟨cS, fS, zS⟩ := blkC hS.out
    go_wp2
    refine bodyPost_ret (v := .tuple #[fldV 0 0 0 0 (.slice none 0 0), .int .i64 3]) (by simp [results, Try.results193, go_sem, cS]) rfl ?_
    exact .inr ⟨hall, rfl, set5_below hB _ _ _ _ _ _ (by omega)⟩

/-- What Make answers. -/
def MakePost (w : World) (X Y W H : Int) (n : Nat) (f : Nat → Nat) (e : Ending) (w' : World) : Prop :=
  (checkR X Y W H ≠ 0 ∧ e = .returned (.tuple #[fldV 0 0 0 0 (.slice none 0 0), .int .i64 (checkR X Y W H)]) ∧ Below w.heap.size w w') ∨ (checkR X Y W H = 0 ∧ MadePost w X Y W H n f e w')

set_option maxHeartbeats 2000000 in
theorem make_ok (X Y : Int) (W H n : Nat) (g : Nat) (caps : Array Value) (f : Nat → Nat) (w : World) (hcall : Enters g) (hcl : Clos2 g caps X Y W H f w) (h0 : checkR X Y W H = 0) (hn : n = H * W) :
    Calls Try.prog 118 #[reg X Y W H, .func (.func g) #[] caps] w (MadePost w X Y W H n f) := by
  obtain ⟨b1, b2, b3, b4, b5, b6, b7, b8, b9⟩ := checkR_zero h0
  have hn2 : n ≤ 65536 := by
    have : ((W : Int) * (H : Int)) = (n : Int) := by rw [hn, Nat.mul_comm]; simp
    omega
  have RC := Lib.hid (fun w => checkRegion_any X Y W H w)
  rw [h0] at RC
  have BP := Lib.hid (fun W' (hb : Below w.heap.size w W') => byPlace_any X Y W H n g caps f W' hcall (fun x y i W'' h1 h2 h3 h4 h5 hb' => hcl x y i W'' h1 h2 h3 h4 h5 (hb.trans (hb'.mono hb.size))) (by omega) (by omega) (by omega) (by omega) (by omega) (by omega) (by omega) (by omega) hn hn2)
  clear hcl hcall h0 b1 b2 b3 b4 b5 b6 b7 b8 b9 hn hn2
  go_enter Try.func118, Try.ntmps118
  go_wp2_with (first | (go_at_call 83; refine (RC.out _).mono ?_; rintro e w' ⟨rfl, rfl⟩))
  refine (BP.out _ (by repeat (first | exact Below.refl _ _ | refine Below.alloc ?_ (by first | omega | (simp; done) | (simp; omega)) _ | refine Below.setCell ?_ (by first | omega | (simp; done) | (simp; omega)) _ | refine Below.drew ?_))).mono ?_
  intro e w4 hmade
  rcases hmade with ⟨hall, b', cap', rfl, hb', hlt', hrow, hbel⟩ | ⟨hall, rfl, hbel⟩
  · have hS := Lib.hid (blkStay (b := w.heap.size + 1) (o := fldO 0 0 0 0 (.slice none 0 0)) (by ((simp only [heap_alloc_get, heap_size_alloc, if_true]) <;> ((repeat' split) <;> first | rfl | omega))) hbel)
    have hB : Below w.heap.size w w4 := Below.trans (by repeat (first | exact Below.refl _ _ | refine Below.alloc ?_ (by first | omega | (simp; done) | (simp; omega)) _ | refine Below.setCell ?_ (by first | omega | (simp; done) | (simp; omega)) _ | refine Below.drew ?_)) (Below.mono hbel (by simp; omega))
    obtain ⟨cS, fS, zS⟩ := blkC hS.out
    have HB := Lib.hid hb'
    clear hb'
    go_wp2
    refine bodyPost_ret (v := .tuple #[fldV X Y W H (.slice (some ⟨b', 0, none⟩) n cap'), .int .i64 0]) (by simp [results, Try.results118, go_sem, cS]) rfl ?_
    have hb' := HB.out
    simp only [heap_size_alloc] at hb'
    exact .inl ⟨hall, b', cap', rfl, by omega, by rw [set5_size]; exact hlt', flAt_congr hrow (set5_heap w4 _ _ _ _ _ _ _ (by omega)), set5_below hB _ _ _ _ _ _ (by omega)⟩
  · have hS := Lib.hid (blkStay (b := w.heap.size + 1) (o := fldO 0 0 0 0 (.slice none 0 0)) (by ((simp only [heap_alloc_get, heap_size_alloc, if_true]) <;> ((repeat' split) <;> first | rfl | omega))) hbel)
    have hB : Below w.heap.size w w4 := Below.trans (by repeat (first | exact Below.refl _ _ | refine Below.alloc ?_ (by first | omega | (simp; done) | (simp; omega)) _ | refine Below.setCell ?_ (by first | omega | (simp; done) | (simp; omega)) _ | refine Below.drew ?_)) (Below.mono hbel (by simp; omega))
    obtain ⟨cS, fS, zS⟩ := blkC hS.out
    go_wp2
    refine bodyPost_ret (v := .tuple #[fldV 0 0 0 0 (.slice none 0 0), .int .i64 3]) (by simp [results, Try.results118, go_sem, cS]) rfl ?_
    exact .inr ⟨hall, rfl, set5_below hB _ _ _ _ _ _ (by omega)⟩

set_option maxHeartbeats 2000000 in
theorem make_no (X Y W H : Int) (v : Value) (k : Int) (w : World) (hv : ∃ g caps, v = .func (.func g) #[] caps) (h0 : checkR X Y W H = k) (hk : k = 3 ∨ k = 4 ∨ k = 5) :
    Calls Try.prog 118 #[reg X Y W H, v] w fun e w' => e = .returned (.tuple #[fldV 0 0 0 0 (.slice none 0 0), .int .i64 k]) ∧ Below w.heap.size w w' := by
  obtain ⟨g, caps, rfl⟩ := hv
  have RC := Lib.hid (fun w => checkRegion_any X Y W H w)
  rw [h0] at RC
  clear h0
  rcases hk with rfl | rfl | rfl
  all_goals go_enter Try.func118, Try.ntmps118
  all_goals go_wp2_with (first | (go_at_call 83; refine (RC.out _).mono ?_; rintro e w' ⟨rfl, rfl⟩))
  · refine bodyPost_ret (v := .tuple #[fldV 0 0 0 0 (.slice none 0 0), .int .i64 3]) (by simp [results, Try.results118, go_sem]) rfl ⟨rfl, ?_⟩
    exact (by repeat (first | exact Below.refl _ _ | refine Below.alloc ?_ (by first | omega | (simp; done) | (simp; omega)) _ | refine Below.setCell ?_ (by first | omega | (simp; done) | (simp; omega)) _ | refine Below.drew ?_))
  · refine bodyPost_ret (v := .tuple #[fldV 0 0 0 0 (.slice none 0 0), .int .i64 4]) (by simp [results, Try.results118, go_sem]) rfl ⟨rfl, ?_⟩
    exact (by repeat (first | exact Below.refl _ _ | refine Below.alloc ?_ (by first | omega | (simp; done) | (simp; omega)) _ | refine Below.setCell ?_ (by first | omega | (simp; done) | (simp; omega)) _ | refine Below.drew ?_))
  · refine bodyPost_ret (v := .tuple #[fldV 0 0 0 0 (.slice none 0 0), .int .i64 5]) (by simp [results, Try.results118, go_sem]) rfl ⟨rfl, ?_⟩
    exact (by repeat (first | exact Below.refl _ _ | refine Below.alloc ?_ (by first | omega | (simp; done) | (simp; omega)) _ | refine Below.setCell ?_ (by first | omega | (simp; done) | (simp; omega)) _ | refine Below.drew ?_))
end Go.Proofs.Ytmbiohopcfglcaa

/- The floor of a single, by the model's own rounding of a double to a whole number. -/
namespace Go.Proofs.Ytmbiohopcfglcaa.Fl
open Ieee

/-- Down to a whole number: the magnitude. -/
theorem cut_down (s : Bool) (M k : Nat) : Toward.down.cut s M k = M / 2 ^ k + (s && decide (M % 2 ^ k ≠ 0)).toNat := by
  unfold Toward.cut
  simp only [Nat.one_shiftLeft]
  rcases Nat.le_total k (M.log2 + 2) with c | c
  · rw [Nat.min_eq_left c]
    congr 2
    simp [bne, BEq.beq]
  · rw [Nat.min_eq_right c]
    have h : M < 2 ^ (M.log2 + 2) := by
      rcases Nat.eq_zero_or_pos M with z | z
      · subst z; exact Nat.two_pow_pos _
      · exact Nat.lt_trans (Nat.lt_log2_self) (Nat.pow_lt_pow_right (by omega) (by omega))
    have h' : M < 2 ^ k := Nat.lt_of_lt_of_le h (Nat.pow_le_pow_right (by omega) c)
    rw [Nat.div_eq_of_lt h, Nat.div_eq_of_lt h', Nat.mod_eq_of_lt h, Nat.mod_eq_of_lt h']
    congr 2
    simp [bne, BEq.beq]

/-- The whole part of a double's magnitude, rounded down. -/
theorem integral_down {s : Bool} {M : Nat} {I : Int} {A : Nat} (hI : -1074 ≤ I) (hA : M * 2 ^ (I + 1074).toNat = A) :
    (Datum.number s M I).integral .down = .number s (A / one + (s && decide (A % one ≠ 0)).toNat) 0 := by
  show Datum.number s (Toward.down.cut s (M <<< I.toNat) (-I).toNat) 0 = _
  rw [cut_down, Nat.shiftLeft_eq]
  congr 1
  obtain ⟨j, hj⟩ : ∃ j : Nat, j = 1074 := ⟨_, rfl⟩
  rcases Int.le_total 0 I with c | c
  · have e : (I + 1074).toNat = I.toNat + j := by omega
    rw [e, Nat.pow_add, ← Nat.mul_assoc] at hA
    rw [show (-I).toNat = 0 by omega, Nat.pow_zero, Nat.div_one, Nat.mod_one, ← hA, one_pow hj, Nat.mul_div_cancel _ (Nat.two_pow_pos j), Nat.mul_mod_left]
  · obtain ⟨k, hk⟩ : ∃ k : Nat, k = (-I).toNat := ⟨_, rfl⟩
    have eo : one = 2 ^ k * 2 ^ (I + 1074).toNat := one_split (by omega)
    have p : 0 < 2 ^ (I + 1074).toNat := Nat.two_pow_pos _
    have hdec : decide (M % 2 ^ k * 2 ^ (I + 1074).toNat ≠ 0) = decide (M % 2 ^ k ≠ 0) := by
      generalize 2 ^ (I + 1074).toNat = P at *
      rw [decide_eq_decide]
      constructor
      · intro h h'; exact h (by rw [h', Nat.zero_mul])
      · intro h h'
        rcases Nat.mul_eq_zero.1 h' with x | x
        · exact h x
        · omega
    rw [show I.toNat = 0 by omega, Nat.pow_zero, Nat.mul_one, ← hk, ← hA, eo, Nat.mul_div_mul_right _ _ p, Nat.mul_mod_mul_right, hdec]

/-- The floor of a value. -/
def flV (a : Int) : Int := a / (one : Int) * (one : Int)

theorem fl_sign {O A : Nat} (hO : 0 < O) {s : Bool} {a : Int} (ha : a = (if s then -1 else 1) * (A : Int)) : (if s then -1 else 1) * (((A / O + (s && decide (A % O ≠ 0)).toNat) * O : Nat) : Int) = a / (O : Int) * (O : Int) := by
  have hd := Nat.div_add_mod A O
  have hr := Nat.mod_lt A hO
  have key : a / (O : Int) = (if s then -1 else 1) * ((A / O + (s && decide (A % O ≠ 0)).toNat : Nat) : Int) := by
    cases s with
    | false =>
      simp at ha ⊢
      rw [ha]
    | true =>
      generalize A / O = q at *
      generalize A % O = r at *
      simp only [if_true, Bool.true_and] at *
      have e : (A : Int) = (O : Int) * (q : Int) + (r : Int) := by rw [← Int.natCast_mul, ← Int.natCast_add, hd]
      rw [ha, e]
      by_cases z : r = 0
      · subst z
        have : (-1 : Int) * ((O : Int) * (q : Int) + ((0 : Nat) : Int)) = (O : Int) * (-(q : Int)) := by grind
        rw [this, Int.mul_ediv_cancel_left _ (by omega)]; simp
      · have : (-1 : Int) * ((O : Int) * (q : Int) + (r : Int)) = ((O : Int) - r) + (O : Int) * (-((q : Int) + 1)) := by grind
        rw [this, Int.add_mul_ediv_left _ _ (by omega), Int.ediv_eq_zero_of_lt (by omega) (by omega)]
        simp [z]
  rw [key, Int.natCast_mul, Int.mul_assoc]

theorem flV_sign {s : Bool} {A : Nat} {a : Int} (ha : a = (if s then -1 else 1) * (A : Int)) : (if s then -1 else 1) * (((A / one + (s && decide (A % one ≠ 0)).toNat) * one : Nat) : Int) = flV a := fl_sign one_pos ha

theorem whole_small {O A c : Nat} (hO : 0 < O) (h : c = A / O ∨ c = A / O + 1) : c * O ≤ A + O := by
  have hd := Nat.div_add_mod A O
  rcases h with rfl | rfl
  · rw [Nat.mul_comm]; omega
  · rw [Nat.succ_mul, Nat.mul_comm]; omega

/-- The word of a floor. -/
def flW (x : Nat) : Nat := ((Go.floatToFloatBits .f32 x .f64).bind fun X => Go.floatToFloatBits .f64 (double.write ((double.read X).integral .down)) .f32).getD 0

theorem floor_parts2 {x : Nat} {a : Int} {k : Nat} (h : vS x = some a) (hb : Bd k x) (hk : k ≤ 124) :
    ∃ X s M I F, Go.floatToFloatBits .f32 x .f64 = some X ∧ double.read X = .number s M I ∧ double.write ((double.read X).integral .down) = F ∧ Go.floatToFloatBits .f64 F .f32 = some (flW x) ∧ vS (flW x) = some (flV a) := by
  obtain ⟨s, m, p, e, rfl⟩ := vS_some h
  obtain ⟨X, M, I, c1, c2, c3, c4, _⟩ := toD e
  obtain ⟨A, hA⟩ : ∃ A, A = m * 2 ^ (p + 1074).toNat := ⟨_, rfl⟩
  have hv : vOf s m p = (if s then -1 else 1) * (A : Int) := by unfold vOf; rw [signed_eq, hA]
  have hbA : A ≤ 2 ^ (1074 + k) := by
    obtain ⟨s', m', p', e', b'⟩ := hb
    rw [e] at e'; cases e'
    rw [hA]; exact b'
  obtain ⟨t, j, ht, hj, hform⟩ := vS_form h
  have hAf : A = t.natAbs * 2 ^ j := by
    have := congrArg Int.natAbs hform
    rw [hv, Int.natAbs_mul, Int.natAbs_mul, Int.natAbs_natCast, Int.natAbs_natCast] at this
    cases s <;> simpa using this
  rw [← hA] at c4
  have hi := integral_down (s := s) c3 c4
  obtain ⟨c, hc⟩ : ∃ c, c = A / one + (s && decide (A % one ≠ 0)).toNat := ⟨_, rfl⟩
  rw [← hc] at hi
  obtain ⟨J, hJ⟩ : ∃ J : Nat, J = 1074 := ⟨_, rfl⟩
  have hw : double.write ((double.read X).integral .down) = wordAt double 0 s (c * one) := by
    rw [c2, hi]
    show double.nearest s c 0 = _
    rw [nearest_val double s (-1074) 0 leastD c (p := 0) (by omega), one_pow hJ, show ((0 : Int) - (-1074)).toNat = J by omega]
  -- the magnitude of the floor is a single's
  have hrep : ∃ u i, u < 16777216 ∧ 925 ≤ i ∧ c * one = u * 2 ^ i := by
    by_cases z : A % one = 0
    · refine ⟨t.natAbs, j, ht, hj, ?_⟩
      rw [← hAf, hc, z]
      have := Nat.div_add_mod A one
      rw [z, Nat.add_zero, Nat.mul_comm] at this
      simp [this]
    · have hj2 : j < J := by
        rcases Nat.lt_or_ge j J with q | q
        · exact q
        · exfalso; apply z
          have : A = t.natAbs * 2 ^ (j - J) * one := by rw [hAf, one_pow hJ, Nat.mul_assoc, ← Nat.pow_add, Nat.sub_add_cancel q]
          rw [this, Nat.mul_mod_left]
      have hlt : A < 8388608 * one := by
        have e1 : one = 2 * 2 ^ (J - 1) := by rw [one_pow hJ, ← Nat.pow_succ']; congr 1; omega
        rw [hAf, e1]
        have e2 : 2 ^ j ≤ 2 ^ (J - 1) := Nat.pow_le_pow_right (by omega) (by omega)
        have p1 : 0 < 2 ^ (J - 1) := Nat.two_pow_pos _
        calc t.natAbs * 2 ^ j ≤ t.natAbs * 2 ^ (J - 1) := Nat.mul_le_mul_left _ e2
          _ < 16777216 * 2 ^ (J - 1) := Nat.mul_lt_mul_of_pos_right ht p1
          _ = 8388608 * (2 * 2 ^ (J - 1)) := by rw [← Nat.mul_assoc]
      refine ⟨c, J, ?_, by omega, by rw [one_pow hJ]⟩
      have hq : A / one < 8388608 := Nat.div_lt_of_lt_mul (by rw [Nat.mul_comm]; exact hlt)
      have hb1 : (s && decide (A % one ≠ 0)).toNat ≤ 1 := Bool.toNat_le _
      generalize A / one = Q at *
      generalize (s && decide (A % one ≠ 0)).toNat = B1 at *
      omega
  obtain ⟨u, i, hu, hi2, hcu⟩ := hrep
  have hV : c * one < 2 ^ (1074 + k + 1 + 1) := by
    have hb1 : c = A / one ∨ c = A / one + 1 := by
      rw [hc]; cases (s && decide (A % one ≠ 0)) <;> simp
    have h1 := whole_small one_pos hb1
    have h2 : one ≤ 2 ^ (1074 + k) := by rw [one_pow hJ]; exact Nat.pow_le_pow_right (by omega) (by omega)
    rw [Nat.pow_succ, Nat.pow_succ]
    have p1 : 0 < 2 ^ (1074 + k) := Nat.two_pow_pos _
    generalize 2 ^ (1074 + k) = T at *
    generalize c * one = CO at *
    generalize one = O at *
    omega
  have hround : sRung (dVal (c * one)) = sRung (c * one) := by
    rw [hcu]; exact exact_round (Nat.lt_of_lt_of_le hu (by decide))
  have hback := back (sg := s) hV (by omega) hround
  have hfl : flW x = wordAt single 925 s (c * one) := by
    unfold flW
    rw [c1]
    show (Go.floatToFloatBits .f64 (double.write ((double.read X).integral .down)) .f32).getD 0 = _
    rw [hw, hback]; rfl
  refine ⟨X, s, M, I, _, c1, c2, rfl, by rw [hw, hback, hfl], ?_⟩
  rw [hfl, vS_word hV (by omega), hcu, rd_exact single 925 u i (by rw [fbS]; exact hu) hi2, ← hcu, hc, flV_sign hv]

theorem floor_parts {x : Nat} {a : Int} {k : Nat} (h : vS x = some a) (hb : Bd k x) (hk : k ≤ 50) :
    ∃ X s M I F, Go.floatToFloatBits .f32 x .f64 = some X ∧ double.read X = .number s M I ∧ double.write ((double.read X).integral .down) = F ∧ Go.floatToFloatBits .f64 F .f32 = some (flW x) ∧ vS (flW x) = some (flV a) := floor_parts2 h hb (by omega)

end Go.Proofs.Ytmbiohopcfglcaa.Fl

/- Contracts: math.Floor, and the floors of both sides. -/
namespace Go.Proofs.Ytmbiohopcfglcaa
open Go.RowKit Fl
set_option linter.unusedVariables false

theorem toIntegral_num (X : Nat) (d : Ieee.Datum) (h : FloatKind.f64.decode X = d) (hd : ∃ s M I, d = .number s M I) :
    Extern.MathFloor.toIntegral "math.archFloor" .down #[.float .f64 X] = pure (.float .f64 (FloatKind.f64.encode (d.integral .down))) := by
  obtain ⟨s, M, I, rfl⟩ := hd
  conv => lhs; whnf
  rw [h]

theorem archFloor_num (X : Nat) (s : Bool) (M : Nat) (I : Int) (h : Ieee.double.read X = .number s M I) (w : World) :
    (callFunc 219 #[.float .f64 X]).run Try.prog w = .ok (.value (.float .f64 (Ieee.double.write ((Ieee.double.read X).integral .down)))) w := by
  rw [run_callFunc_extern Try.func219 (by kernel_rfl) (by kernel_rfl) (by kernel_rfl) (e := Extern.MathFloor.toIntegral "math.archFloor" .down) (by kernel_rfl), toIntegral_num X _ rfl ⟨s, M, I, h⟩]
  rfl

set_option maxHeartbeats 400000 in
theorem mathFloor_num (X F : Nat) (s : Bool) (M : Nat) (I : Int) (h : Ieee.double.read X = .number s M I) (hF : Ieee.double.write ((Ieee.double.read X).integral .down) = F) (w : World) :
    Calls Try.prog 190 #[.float .f64 X] w fun e w' => e = .returned (.float .f64 F) ∧ w = w' := by
  have a1 := archFloor_num X s M I h
  rw [hF] at a1
  clear h hF
  go_enter Try.func190, Try.ntmps190
  go_wp2
  go_ret
  exact ⟨rfl, rfl⟩

set_option maxHeartbeats 400000 in
theorem floor_any (x k : Nat) (a : Int) (h : vS x = some a) (hb : Bd k x) (hk : k ≤ 50) (w : World) :
    Calls Try.prog 111 #[.float .f32 x] w fun e w' => e = .returned (.float .f32 (flW x)) ∧ w = w' := by
  obtain ⟨X, s, M, I, F, c1, c2, c3, c4, _⟩ := floor_parts h hb hk
  have d1 := fun (W : World) => run_convert_float_float (P := Try.prog) W 22 182 .f32 .f64 x X (by kernel_rfl) Try.underlying182 c1
  have d2 := fun (W : World) => run_convert_float_float (P := Try.prog) W 182 22 .f64 .f32 F (flW x) (by kernel_rfl) Try.underlying22 c4
  have MF := Lib.hid (fun w => mathFloor_num X F s M I c2 c3 w)
  clear c1 c2 c3 c4 h hb
  go_enter Try.func111, Try.ntmps111
  go_wp2_with (go_at_call 190; refine (MF.out _).mono ?_; rintro e w' ⟨rfl, rfl⟩)
  go_ret
  exact ⟨rfl, rfl⟩

set_option maxHeartbeats 400000 in
theorem refFloor_any (x k : Nat) (a : Int) (h : vS x = some a) (hb : Bd k x) (hk : k ≤ 50) (w : World) :
    Calls Try.prog 191 #[.float .f32 x] w fun e w' => e = .returned (.float .f32 (flW x)) ∧ w = w' := by
  obtain ⟨X, s, M, I, F, c1, c2, c3, c4, _⟩ := floor_parts h hb hk
  have d1 := fun (W : World) => run_convert_float_float (P := Try.prog) W 22 182 .f32 .f64 x X (by kernel_rfl) Try.underlying182 c1
  have d2 := fun (W : World) => run_convert_float_float (P := Try.prog) W 182 22 .f64 .f32 F (flW x) (by kernel_rfl) Try.underlying22 c4
  have MF := Lib.hid (fun w => mathFloor_num X F s M I c2 c3 w)
  clear c1 c2 c3 c4 h hb
  go_enter Try.func191, Try.ntmps191
  go_wp2_with (go_at_call 190; refine (MF.out _).mono ?_; rintro e w' ⟨rfl, rfl⟩)
  go_ret
  exact ⟨rfl, rfl⟩
end Go.Proofs.Ytmbiohopcfglcaa

/- Contracts: Hash, Unit, Signed of both sides. -/
namespace Go.Proofs.Ytmbiohopcfglcaa
open Go.RowKit Fl
set_option linter.unusedVariables false

/-- Exclusive or of two words of 32 bits. -/
def xorU (a b : Int) : Int := bits .xor .u32 a b
theorem xorU_in (a b : Int) : 0 ≤ xorU a b ∧ xorU a b < 4294967296 := by
  unfold xorU bits; simp only [IntKind.wrap_u32]; omega
def stA (h : Int) : Int := xorU h (h / 65536) * 2246822507 % 4294967296
def stB (h : Int) : Int := xorU h (h / 8192) * 3266489909 % 4294967296
def stC (h : Int) : Int := xorU h (h / 65536)
/-- Stirred once. -/
def stirI (h : Int) : Int := stC (stB (stA h))
theorem stirI_in (h : Int) : 0 ≤ stirI h ∧ stirI h < 4294967296 := xorU_in _ _
/-- The state behind one more whole number. -/
def stepI (h n : Int) : Int := stirI (xorU h (n % 4294967296))
theorem stepI_in (h n : Int) : 0 ≤ stepI h n ∧ stepI h n < 4294967296 := stirI_in _
def hashI (s x y n : Int) : Int := stepI (stepI (stepI s x) y) n
theorem hashI_in (s x y n : Int) : 0 ≤ hashI s x y n ∧ hashI s x y n < 4294967296 := stepI_in _ _

set_option maxHeartbeats 400000 in
theorem refConv_any (n : Int) (w : World) :
    Calls Try.prog 104 #[.int .i64 n] w fun e w' => e = .returned (.float .f32 (floatOfInt .f32 n)) ∧ w = w' := by
  go_enter Try.func104, Try.ntmps104
  go_wp2
  go_ret
  exact ⟨rfl, rfl⟩

/-- The reference's rounds: the place and the state. -/
inductive HashAt (s x y n : Int) : Value → Value → Prop where
  | z : HashAt s x y n (.int .u32 s) (.int .i64 0)
  | a : HashAt s x y n (.int .u32 (stepI s x)) (.int .i64 1)
  | b : HashAt s x y n (.int .u32 (stepI (stepI s x) y)) (.int .i64 2)
  | c : HashAt s x y n (.int .u32 (hashI s x y n)) (.int .i64 3)

end Go.Proofs.Ytmbiohopcfglcaa

/- Contracts: CheckWithin; Ease of both sides; the reference's operations of any words at all. -/
namespace Go.Proofs.Ytmbiohopcfglcaa
open Go.RowKit Fl
set_option linter.unusedVariables false

/-- The error of a single that should be from a to b. -/
def wiE (x a b : Nat) : Int := if finB x = false then 2 else if (FloatKind.f32.format.order x a == some .lt) = true ∨ (FloatKind.f32.format.order x b == some .gt) = true then 3 else 0

set_option maxHeartbeats 400000 in
theorem checkWithin_any (x a b : Nat) (w : World) :
    Calls Try.prog 158 #[.float .f32 x, .float .f32 a, .float .f32 b] w fun e w' => e = .returned (.int .i64 (wiE x a b)) ∧ w = w' := by
  have IH := Lib.hid (fun w => isFinite_any x w)
  unfold wiE
  cases hf : finB x with
  | false =>
    rw [hf] at IH
    clear hf
    go_enter Try.func158, Try.ntmps158
    go_wp2_with (go_at_call 179; refine (IH.out _).mono ?_; rintro e w' ⟨rfl, rfl⟩)
    go_ret
    exact ⟨ret_int rfl, rfl⟩
  | true =>
    rw [hf] at IH
    clear hf
    cases h1 : (FloatKind.f32.format.order x a == some .lt) with
    | true =>
      go_enter Try.func158, Try.ntmps158
      go_wp2_with (go_at_call 179; refine (IH.out _).mono ?_; rintro e w' ⟨rfl, rfl⟩)
      go_ret
      exact ⟨ret_int rfl, rfl⟩
    | false =>
      cases h2 : (FloatKind.f32.format.order x b == some .gt) with
      | true =>
        go_enter Try.func158, Try.ntmps158
        go_wp2_with (go_at_call 179; refine (IH.out _).mono ?_; rintro e w' ⟨rfl, rfl⟩)
        go_ret
        exact ⟨ret_int rfl, rfl⟩
      | false =>
        go_enter Try.func158, Try.ntmps158
        go_wp2_with (go_at_call 179; refine (IH.out _).mono ?_; rintro e w' ⟨rfl, rfl⟩)
        go_ret
        exact ⟨ret_int rfl, rfl⟩

set_option maxHeartbeats 400000 in
theorem ease_any (t p q r v : Nat) (E : EaseAt t p q r v) (w : World) :
    Calls Try.prog 229 #[.float .f32 t] w fun e w' => e = .returned (.float .f32 (easeW t)) ∧ w = w' := by
  have a1 := fun (W : World) => run_float_arith (P := Try.prog) W .mul 22 .f32 t t p E.p1
  have a2 := fun (W : World) => run_float_arith (P := Try.prog) W .mul 22 .f32 1073741824 t q E.q1
  have a3 := fun (W : World) => run_float_arith (P := Try.prog) W .sub 22 .f32 1077936128 q r E.r1
  have a4 := fun (W : World) => run_float_arith (P := Try.prog) W .mul 22 .f32 p r v E.v1
  rw [E.w]
  clear E
  go_enter Try.func229, Try.ntmps229
  go_wp2
  go_ret
  exact ⟨rfl, rfl⟩

set_option maxHeartbeats 400000 in
theorem refEase_any (t p q r v : Nat) (E : EaseAt t p q r v) (w : World) :
    Calls Try.prog 189 #[.float .f32 t] w fun e w' => e = .returned (.float .f32 (easeW t)) ∧ w = w' := by
  have A := Lib.hid (fun w => refMul_any 0 t t p E.p2 E.p1 w)
  have B := Lib.hid (fun w => refMul_any 2 1073741824 t q E.q2 E.q1 w)
  have C := Lib.hid (fun w => refSub_any 3 1077936128 q r E.r2 E.r1 w)
  have D := Lib.hid (fun w => refMul_any 3 p r v E.v2 E.v1 w)
  rw [E.w]
  clear E
  go_enter Try.func189, Try.ntmps189
  go_wp2_with (first | (go_at_call 97; with_reducible refine (A.out _).mono ?_; rintro e w' ⟨rfl, rfl⟩) | (go_at_call 97; with_reducible refine (B.out _).mono ?_; rintro e w' ⟨rfl, rfl⟩) | (go_at_call 97; with_reducible refine (D.out _).mono ?_; rintro e w' ⟨rfl, rfl⟩) | (go_at_call 101; refine (C.out _).mono ?_; rintro e w' ⟨rfl, rfl⟩))
  go_ret
  exact ⟨rfl, rfl⟩

theorem choose_loose (q : Question) (k : FloatKind) (w : World) : ∃ r n, ((do pure (Value.float k (← choose q))) : Sem Value).run Try.prog w = .ok (.float k r) (w.drewN n) := by
  by_cases h : q.forced = true
  · exact ⟨0, 0, by simp [h, World.drewN]⟩
  · exact ⟨q.cut (w.tape w.drawn q), 1, by simp [h]; rfl⟩

theorem conv_loose (src dst : TypeId) (s k : FloatKind) (b : Nat) (hs : (Try.prog.underlying src).isSome = true) (hd : Try.prog.underlying dst = some (.float k)) (w : World) :
    ∃ r n, (convert src dst (.float s b)).run Try.prog w = .ok (.float k r) (w.drewN n) := by
  obtain ⟨u, hs'⟩ := Option.isSome_iff_exists.1 hs
  have key : ∃ r n, (Conv.floatToFloat s b k).run Try.prog w = .ok (.float k r) (w.drewN n) := by
    unfold Conv.floatToFloat
    by_cases e : s = k
    · exact ⟨b, 0, by simp [e, World.drewN]⟩
    · rw [if_neg e]
      cases hd : s.decode b with
      | nan g f => exact choose_loose _ k w
      | infinity g => exact ⟨_, 0, rfl⟩
      | number g m i =>
        simp only
        split
        · exact choose_loose _ k w
        · exact ⟨_, 0, rfl⟩
  obtain ⟨r, n, h⟩ := key
  refine ⟨r, n, ?_⟩
  rw [← h]
  cases u <;> simp [convert, run_underlying hs', run_underlying hd]

theorem arith_loose (op : BinOp) (t : TypeId) (k : FloatKind) (x y : Nat) (ho : op = .add ∨ op = .sub ∨ op = .mul) (w : World) :
    ∃ r n, (binOp op t (.float k x) (.float k y)).run Try.prog w = .ok (.float k r) (w.drewN n) := by
  cases h : floatBits op k x y with
  | some r => exact ⟨r, 0, run_float_arith w op t k x y r h⟩
  | none =>
    obtain ⟨r, n, c⟩ := choose_loose (.nanBits k x y) k w
    refine ⟨r, n, ?_⟩
    rw [← c]
    unfold floatBits at h
    rcases ho with rfl | rfl | rfl
    all_goals simp only at h
    all_goals simp [binOp, Op.floatArith, h]

/-- Some single; the world has drawn at most. -/
def LooseF (w : World) (e : Ending) (w' : World) : Prop := ∃ r n, e = .returned (.float .f32 r) ∧ w' = w.drewN n

theorem drewN_two (w : World) (a b : Nat) : (w.drewN a).drewN b = w.drewN (a + b) := by simp [World.drewN, Nat.add_assoc]

set_option maxHeartbeats 400000 in
theorem refMul_loose (x y : Nat) (w : World) : Calls Try.prog 97 #[.float .f32 x, .float .f32 y] w (LooseF w) := by
  obtain ⟨X, n1, c1⟩ := conv_loose 22 182 .f32 .f64 x (by kernel_rfl) Try.underlying182 w
  obtain ⟨Y, n2, c2⟩ := conv_loose 22 182 .f32 .f64 y (by kernel_rfl) Try.underlying182 (w.drewN n1)
  obtain ⟨Z, n3, c3⟩ := arith_loose .mul 182 .f64 X Y (by simp) (w.drewN (n1 + n2))
  obtain ⟨r, n4, c4⟩ := conv_loose 182 22 .f64 .f32 Z (by kernel_rfl) Try.underlying22 (w.drewN (n1 + n2 + n3))
  go_enter Try.func97, Try.ntmps97
  go_wp2
  go_ret
  exact ⟨r, n1 + n2 + n3 + n4, rfl, rfl⟩

set_option maxHeartbeats 400000 in
theorem refSub_loose (x y : Nat) (w : World) : Calls Try.prog 101 #[.float .f32 x, .float .f32 y] w (LooseF w) := by
  obtain ⟨X, n1, c1⟩ := conv_loose 22 182 .f32 .f64 x (by kernel_rfl) Try.underlying182 w
  obtain ⟨Y, n2, c2⟩ := conv_loose 22 182 .f32 .f64 y (by kernel_rfl) Try.underlying182 (w.drewN n1)
  obtain ⟨Z, n3, c3⟩ := arith_loose .sub 182 .f64 X Y (by simp) (w.drewN (n1 + n2))
  obtain ⟨r, n4, c4⟩ := conv_loose 182 22 .f64 .f32 Z (by kernel_rfl) Try.underlying22 (w.drewN (n1 + n2 + n3))
  go_enter Try.func101, Try.ntmps101
  go_wp2
  go_ret
  exact ⟨r, n1 + n2 + n3 + n4, rfl, rfl⟩

set_option maxHeartbeats 400000 in
theorem refEase_loose (t : Nat) (w : World) : Calls Try.prog 189 #[.float .f32 t] w (LooseF w) := by
  go_enter Try.func189, Try.ntmps189
  go_wp2_with (first | (go_at_call 97; refine (refMul_loose _ _ _).mono ?_; rintro e w' ⟨r, n, rfl, rfl⟩) | (go_at_call 101; refine (refSub_loose _ _ _).mono ?_; rintro e w' ⟨r, n, rfl, rfl⟩))
  go_ret
  exact ⟨_, _, rfl, rfl⟩

set_option maxHeartbeats 400000 in
theorem easeX_ok (t p q r v : Nat) (E : EaseAt t p q r v) (h : wiE t 0 1065353216 = 0) (w : World) :
    Calls Try.prog 218 #[.float .f32 t] w fun e w' => e = .returned (.tuple #[.float .f32 (easeW t), .int .i64 0]) ∧ w = w' := by
  have CW := Lib.hid (fun w => checkWithin_any t 0 1065353216 w)
  rw [h] at CW
  have EA := Lib.hid (fun w => ease_any t p q r v E w)
  clear E h
  go_enter Try.func218, Try.ntmps218
  go_wp2_with (first | (go_at_call 158; refine (CW.out _).mono ?_; rintro e w' ⟨rfl, rfl⟩) | (go_at_call 229; refine (EA.out _).mono ?_; rintro e w' ⟨rfl, rfl⟩))
  go_ret2
  exact ⟨rfl, rfl⟩

set_option maxHeartbeats 400000 in
theorem easeX_no (t : Nat) (k : Int) (h : wiE t 0 1065353216 = k) (hk : k = 2 ∨ k = 3) (w : World) :
    Calls Try.prog 218 #[.float .f32 t] w fun e w' => e = .returned (.tuple #[.float .f32 0, .int .i64 k]) ∧ w = w' := by
  have CW := Lib.hid (fun w => checkWithin_any t 0 1065353216 w)
  rw [h] at CW
  clear h
  rcases hk with rfl | rfl
  all_goals go_enter Try.func218, Try.ntmps218
  all_goals go_wp2_with (first | (go_at_call 158; refine (CW.out _).mono ?_; rintro e w' ⟨rfl, rfl⟩))
  all_goals go_ret2
  all_goals exact ⟨rfl, rfl⟩
end Go.Proofs.Ytmbiohopcfglcaa

/- Dither and Speckle of one cell, as words; what the steps come to. -/
namespace Go.Proofs.Ytmbiohopcfglcaa
open Go.RowKit Fl
set_option linter.unusedVariables false

theorem div_val {x y k : Nat} {a b : Int} (hx : vS x = some a) (hy : vS y = some b) (hb : b ≠ 0) (hk : k ≤ 120) (h : a.natAbs ≤ b.natAbs * 2 ^ k) : Same2 .quo k x y := by
  obtain ⟨s, m, i, e1, rfl⟩ := vS_some hx
  obtain ⟨t, n, j, e2, rfl⟩ := vS_some hy
  have n1 : (vOf s m i).natAbs = m * 2 ^ (i + 1074).toNat := by unfold vOf; rw [signed_eq, Int.natAbs_mul, Int.natAbs_natCast]; cases s <;> simp
  have n2 : (vOf t n j).natAbs = n * 2 ^ (j + 1074).toNat := by unfold vOf; rw [signed_eq, Int.natAbs_mul, Int.natAbs_natCast]; cases t <;> simp
  refine div_same hk e1 e2 ?_ (by rw [← n1, ← n2]; exact h)
  rcases Nat.eq_zero_or_pos n with z | z
  · exfalso; apply hb; subst z
    have : (vOf t 0 j).natAbs = 0 := by rw [n2]; simp
    omega
  · exact z

theorem vS_lo {j : Nat} (hj : j = 1064) : vS 981467136 = some ((2 ^ j : Nat) : Int) := by
  have h : Ieee.single.read 981467136 = .number false 8388608 (-33) := by decide
  rw [vS_lit (t := 1) (k := 23) (j := j) h (by decide) (by rw [hj]; decide)]; simp
theorem vS_hi {j : Nat} (hj : j = 1084) : vS 1149239296 = some ((2 ^ j : Nat) : Int) := by
  have h : Ieee.single.read 1149239296 = .number false 8388608 (-13) := by decide
  rw [vS_lit (t := 1) (k := 23) (j := j) h (by decide) (by rw [hj]; decide)]; simp

/-- A right step: its value is from 2 ^ -10 to 2 ^ 10. -/
def StepOk (st : Nat) : Prop := ∃ b, vS st = some b ∧ (one : Int) ≤ 1024 * b ∧ b ≤ 1024 * (one : Int)
theorem step_ok {st : Nat} (h : wiE st 981467136 1149239296 = 0) : StepOk st := by
  unfold wiE at h
  by_cases hf : finB st = false
  · rw [if_pos hf] at h; cases h
  · rw [if_neg hf] at h
    split at h
    · cases h
    · rename_i c
      obtain ⟨a, ha⟩ := Option.isSome_iff_exists.1 (show (vS st).isSome = true by simpa [finB, Option.isSome_iff_ne_none] using hf)
      obtain ⟨j, hj⟩ : ∃ j : Nat, j = 1064 := ⟨_, rfl⟩
      have hj' : j + 20 = 1084 := by omega
      rw [show FloatKind.f32.format = Ieee.single from rfl, lss_val ha (vS_lo hj), gtr_val ha (vS_hi hj')] at c
      refine ⟨a, ha, ?_⟩
      have e1 : one = 1024 * 2 ^ j := by rw [one_split (a := 10) (j := j) (by omega)]
      have e2 : 2 ^ (j + 20) = 1048576 * 2 ^ j := by rw [Nat.pow_add, Nat.mul_comm]
      rw [e2] at c
      rw [e1]
      generalize 2 ^ j = U at *
      simp at c
      omega
theorem step_bd {st : Nat} (h : StepOk st) : Bd 11 st := by
  obtain ⟨b, hb, h1, h2⟩ := h
  obtain ⟨J, hJ⟩ : ∃ J : Nat, J = 1074 := ⟨_, rfl⟩
  refine bd_val' (j := 11 + J) hb (by omega) ?_
  have e : 2 ^ (11 + J) = 2048 * one := by rw [one_pow hJ, Nat.pow_add]
  have := one_pos
  rw [e]
  generalize one = O at *
  omega

theorem hgt_val {x : Nat} (h : hgtB x = true) : ∃ a, vS x = some a ∧ a.natAbs ≤ 1048576 * one := by
  obtain ⟨a, ha, hb⟩ := val_bd (hgt_bd h)
  refine ⟨a, ha, ?_⟩
  obtain ⟨J, hJ⟩ : ∃ J : Nat, J = 1074 := ⟨_, rfl⟩
  have e : 2 ^ (1074 + 20) = 1048576 * one := by
    rw [one_pow hJ, show 1074 + 20 = 20 + J by omega, Nat.pow_add]
  rwa [e] at hb

theorem flV_near (a : Int) : flV a ≤ a ∧ a < flV a + (one : Int) := by
  have hp : (0 : Int) < (one : Int) := Int.natCast_pos.2 one_pos
  unfold flV
  have h1 := Int.ediv_mul_le a (Int.ne_of_gt hp)
  have h2 := Int.lt_ediv_add_one_mul_self a hp
  rw [Int.add_mul, Int.one_mul] at h2
  exact ⟨h1, h2⟩

/-- The quotient that Dither makes. -/
def dthQ (v st : Nat) : Nat := (floatBits .quo .f32 v st).getD 0
/-- What Dither makes of a cell, by the word of its hash. -/
def dthW (v st : Nat) (h : Int) : Nat :=
  (floatBits .mul .f32 (if (FloatKind.f32.format.order (unitW h) ((floatBits .sub .f32 (dthQ v st) (flW (dthQ v st))).getD 0) == some .lt) = true then (floatBits .add .f32 (flW (dthQ v st)) 1065353216).getD 0 else flW (dthQ v st)) st).getD 0

structure DthAt (v st : Nat) (h : Int) (q d : Nat) (c : Bool) (j r : Nat) : Prop where
  q1 : floatBits .quo .f32 v st = some q
  q2 : Same2 .quo 30 v st
  fq : ∃ a, vS q = some a
  bq : Bd 30 q
  d1 : floatBits .sub .f32 q (flW q) = some d
  d2 : Same2 .sub 32 q (flW q)
  c1 : (FloatKind.f32.format.order (unitW h) d == some .lt) = c
  j1 : c = true → floatBits .add .f32 (flW q) 1065353216 = some j
  j2 : c = true → Same2 .add 32 (flW q) 1065353216
  j3 : c = false → j = flW q
  r1 : floatBits .mul .f32 j st = some r
  r2 : Same2 .mul 43 j st
  w : dthW v st h = r
  lt : r < 4294967296

theorem fl_bd {q k : Nat} (h : Bd k q) (hk : k ≤ 50) : Bd (k + 1) (flW q) := by
  obtain ⟨a, ha, hb⟩ := val_bd h
  obtain ⟨_, _, _, _, _, _, _, _, _, hv⟩ := floor_parts ha h hk
  refine bd_val hv ?_
  obtain ⟨h1, h2⟩ := flV_near a
  obtain ⟨J, hJ⟩ : ∃ J : Nat, J = 1074 := ⟨_, rfl⟩
  have e : one ≤ 2 ^ (1074 + k) := by rw [one_pow hJ]; exact Nat.pow_le_pow_right (by omega) (by omega)
  rw [show 1074 + (k + 1) = 1074 + k + 1 by omega, Nat.pow_succ]
  generalize 2 ^ (1074 + k) = T at *
  generalize one = O at *
  omega

theorem bd_one (k : Nat) : Bd k 1065353216 := by
  obtain ⟨J, hJ⟩ : ∃ J : Nat, J = 1074 := ⟨_, rfl⟩
  refine bd_val vS_one ?_
  rw [Int.natAbs_natCast, one_pow hJ]; exact Nat.pow_le_pow_right (by omega) (by omega)

theorem dth_parts {v st : Nat} (h : Int) (hv : hgtB v = true) (hs : StepOk st) : ∃ q d c j r, DthAt v st h q d c j r := by
  obtain ⟨a, ha, hab⟩ := hgt_val hv
  have hs' := hs
  obtain ⟨b, hb, hb1, hb2⟩ := hs'
  have op := one_pos
  have q2 : Same2 .quo 30 v st := by
    refine div_val ha hb ?_ (by omega) ?_
    · generalize one = O at *; omega
    · rw [show (2 : Nat) ^ 30 = 1073741824 by decide]; generalize one = O at *; omega
  obtain ⟨_, _, _, q, _, _, _, _, q1, bq⟩ := q2.ex
  obtain ⟨aq, haq, _⟩ := val_bd bq
  have bf := fl_bd bq (by omega)
  have d2 : Same2 .sub 32 q (flW q) := sub_same (k := 31) (by omega) (bd_up bq (by omega)) bf
  obtain ⟨_, _, _, d, _, _, _, _, d1, _⟩ := d2.ex
  have j2 : Same2 .add 32 (flW q) 1065353216 := add_same (k := 31) (by omega) bf (bd_one 31)
  obtain ⟨_, _, _, j, _, _, _, _, j1, bj⟩ := j2.ex
  have eq : dthQ v st = q := by unfold dthQ; rw [q1]; rfl
  cases hc : (FloatKind.f32.format.order (unitW h) d == some .lt) with
  | true =>
    have r2 : Same2 .mul (32 + 11) j st := mul_same (by omega) bj (step_bd hs)
    obtain ⟨_, _, _, r, _, _, _, _, r1, _⟩ := r2.ex
    refine ⟨q, d, true, j, r, q1, q2, ⟨aq, haq⟩, bq, d1, d2, hc, fun _ => j1, fun _ => j2, (fun h => by cases h), r1, r2, ?_, opt_lt (d := (Ieee.single.read j).product (Ieee.single.read st)) r1⟩
    unfold dthW
    rw [eq, d1]
    show (floatBits .mul .f32 (if (FloatKind.f32.format.order (unitW h) d == some .lt) = true then (floatBits .add .f32 (flW q) 1065353216).getD 0 else flW q) st).getD 0 = r
    rw [if_pos hc, j1]
    show (floatBits .mul .f32 j st).getD 0 = r
    rw [r1]; rfl
  | false =>
    have r2 : Same2 .mul (32 + 11) (flW q) st := mul_same (by omega) (bd_up bf (by omega)) (step_bd hs)
    obtain ⟨_, _, _, r, _, _, _, _, r1, _⟩ := r2.ex
    refine ⟨q, d, false, flW q, r, q1, q2, ⟨aq, haq⟩, bq, d1, d2, hc, (fun h => by cases h), (fun h => by cases h), fun _ => rfl, r1, r2, ?_, opt_lt (d := (Ieee.single.read (flW q)).product (Ieee.single.read st)) r1⟩
    unfold dthW
    rw [eq, d1]
    show (floatBits .mul .f32 (if (FloatKind.f32.format.order (unitW h) d == some .lt) = true then (floatBits .add .f32 (flW q) 1065353216).getD 0 else flW q) st).getD 0 = r
    rw [if_neg (by rw [hc]; simp), r1]; rfl

/-- What Speckle makes of a cell. -/
def spkW (st : Nat) (h : Int) : Nat := if (FloatKind.f32.format.order (unitW h) st == some .lt) = true then 1065353216 else 0

/-- The place of a cell by its number. -/
theorem place_of {X Y x y : Int} {W i : Nat} (hW : 1 ≤ W) (h1 : X ≤ x) (h2 : x < X + W) (h3 : Y ≤ y) (hi : (i : Int) = (y - Y) * W + (x - X)) : X + ((i % W : Nat) : Int) = x ∧ Y + ((i / W : Nat) : Int) = y := by
  obtain ⟨a, ha⟩ := Int.eq_ofNat_of_zero_le (show 0 ≤ x - X by omega)
  obtain ⟨b, hb⟩ := Int.eq_ofNat_of_zero_le (show 0 ≤ y - Y by omega)
  rw [ha, hb, ← Int.natCast_mul, ← Int.natCast_add] at hi
  have hi' : i = b * W + a := Int.ofNat.inj hi
  have ha' : a < W := by omega
  have e1 : i % W = a := by rw [hi', Nat.mul_comm, Nat.mul_add_mod, Nat.mod_eq_of_lt ha']
  have e2 : i / W = b := by rw [hi', Nat.mul_comm, Nat.mul_add_div (by omega), Nat.div_eq_of_lt ha']; rfl
  rw [e1, e2]; omega

set_option maxHeartbeats 400000 in
theorem refDiv_any (k x y r : Nat) (h : Same2 .quo k x y) (hr : floatBits .quo .f32 x y = some r) (w : World) :
    Calls Try.prog 102 #[.float .f32 x, .float .f32 y] w fun e w' => e = .returned (.float .f32 r) ∧ w = w' := by
  obtain ⟨X, Y, Z, r', h1, h2, h3, h4, h5, _⟩ := h.ex
  rw [hr] at h5
  have h5 := Option.some.inj h5
  subst h5
  have c1 := fun (W : World) => run_convert_float_float (P := Try.prog) W 22 182 .f32 .f64 x X (by kernel_rfl) Try.underlying182 h1
  have c2 := fun (W : World) => run_convert_float_float (P := Try.prog) W 22 182 .f32 .f64 y Y (by kernel_rfl) Try.underlying182 h2
  have c3 := fun (W : World) => run_float_arith (P := Try.prog) W .quo 182 .f64 X Y Z h3
  have c4 := fun (W : World) => run_convert_float_float (P := Try.prog) W 182 22 .f64 .f32 Z r (by kernel_rfl) Try.underlying22 h4
  clear h1 h2 h3 h4 hr h
  go_enter Try.func102, Try.ntmps102
  go_wp2
  go_ret
  exact ⟨rfl, rfl⟩

end Go.Proofs.Ytmbiohopcfglcaa

/- What many laws want: two singles as a list, what a function that makes a field answers, the number of a cell. -/
namespace Go.Proofs.Ytmbiohopcfglcaa
open Go.RowKit Fl
set_option linter.unusedVariables false

theorem heap_alloc_new (w : World) (o : Obj) : (w.alloc o).heap[w.heap.size]? = some o := by rw [heap_alloc_get, if_pos rfl]

/-- A single in a block of its own. -/
abbrev flObj (x : Nat) : Obj := .cells #[.float .f32 x] 22

theorem below_drewN (w : World) (k : Nat) : Below w.heap.size w (w.drewN k) := by
  induction k with
  | zero => exact Below.refl _ _
  | succ k ih => exact ih.drew

/-- Two singles, as a list. -/
def two (m c : Nat) (i : Nat) : Nat := if i = 0 then m else c
theorem flAt_two {w : World} {b m c : Nat} (h : w.heap[b]? = some (.cells #[.float .f32 m, .float .f32 c] 22)) : FlAt w b 0 2 (two m c) := by
  intro i hi
  rw [Nat.zero_add, (blkC h).1 i]
  have : i = 0 ∨ i = 1 := by omega
  rcases this with rfl | rfl <;> rfl
theorem two_hgt {m c : Nat} (h : fldE 2 (two m c) = 0) : hgtB m = true ∧ hgtB c = true := by
  have := allB_iff.1 (fldE_zero.1 h)
  exact ⟨this 0 (by omega), this 1 (by omega)⟩

/-- What Scale and Clamp answer: the error of their singles, another error, or a field that is made. -/
def ScPost (w : World) (X Y W H : Int) (n : Nat) (f : Nat → Nat) (er : Int) (e : Ending) (w' : World) : Prop :=
  (er ≠ 0 ∧ e = .returned (.tuple #[fldV 0 0 0 0 (.slice none 0 0), .int .i64 er]) ∧ Below w.heap.size w w') ∨ (er = 0 ∧ MadePost w X Y W H n f e w')

theorem num_lt {X Y x y : Int} {W H n i : Nat} (hW1 : 1 ≤ W) (h1 : X ≤ x) (h2 : x < X + W) (h4 : y < Y + H) (h5 : (i : Int) = (y - Y) * W + (x - X)) (hnn : n = H * W) : i < n := by
  have a : (y - Y) * W ≤ ((H : Int) - 1) * W := Int.mul_le_mul_of_nonneg_right (by omega) (by omega)
  have b : ((H : Int) - 1) * W = (n : Int) - W := by rw [hnn, Int.sub_mul]; simp
  omega

theorem f32f : FloatKind.f32.format = Ieee.single := rfl
theorem one_vTop : (one : Int) ≤ vTop := by
  obtain ⟨J, hJ⟩ : ∃ J : Nat, J = 1074 := ⟨_, rfl⟩
  rw [one_pow hJ]; unfold vTop
  rw [Nat.one_mul]
  exact Int.ofNat_le.2 (Nat.pow_le_pow_right (by omega) (by omega))

end Go.Proofs.Ytmbiohopcfglcaa

/- The error of a single that should lie between two others, by the tests of the reference. -/
namespace Go.Proofs.Ytmbiohopcfglcaa
open Go.RowKit Fl
set_option linter.unusedVariables false

/-- The error of a single that should be from lo to hi, told by the reference's tests. -/
def WithinCases (st lo hi : Nat) : Prop :=
    ((fldE 1 (fun _ => st) = 2 ∨ fldE 1 (fun _ => st) = 3) ∧ wiE st lo hi = fldE 1 (fun _ => st)) ∨
    (fldE 1 (fun _ => st) = 0 ∧ wiE st lo hi = 3 ∧ (FloatKind.f32.format.order st lo == some .lt) = true) ∨
    (fldE 1 (fun _ => st) = 0 ∧ wiE st lo hi = 3 ∧ (FloatKind.f32.format.order st lo == some .lt) = false ∧ (FloatKind.f32.format.order st hi == some .gt) = true) ∨
    (fldE 1 (fun _ => st) = 0 ∧ wiE st lo hi = 0 ∧ (FloatKind.f32.format.order st lo == some .lt) = false ∧ (FloatKind.f32.format.order st hi == some .gt) = false)
theorem within_cases {st lo hi : Nat} {l h : Int} (hl : vS lo = some l) (hh : vS hi = some h) (l1 : -vTop ≤ l) (h1 : h ≤ vTop) : WithinCases st lo hi := by
  unfold WithinCases
  cases hf : finB st with
  | false =>
    have e : fldE 1 (fun _ => st) = 2 := by simp [fldE, allB, List.range_succ, hf]
    exact .inl ⟨.inl e, by rw [e]; unfold wiE; rw [if_pos hf]⟩
  | true =>
    obtain ⟨a, ha⟩ := Option.isSome_iff_exists.1 (show (vS st).isSome = true from hf)
    have l0 := lss_val ha hl
    have g1 := gtr_val ha hh
    rw [← f32f] at l0 g1
    have hw : ((FloatKind.f32.format.order st lo == some .lt) = true ∨ (FloatKind.f32.format.order st hi == some .gt) = true) → wiE st lo hi = 3 := fun c => by
      unfold wiE; rw [if_neg (by rw [hf]; simp), if_pos c]
    cases hgt : hgtB st with
    | false =>
      have e : fldE 1 (fun _ => st) = 3 := by simp [fldE, hgtE, allB, List.range_succ, hf, hgt]
      refine .inl ⟨.inr e, ?_⟩
      rw [e]
      refine hw ?_
      unfold hgtB at hgt
      rw [ha] at hgt
      rw [l0, g1]
      simp at hgt ⊢
      omega
    | true =>
      have e : fldE 1 (fun _ => st) = 0 := fldE_one_ok hgt
      cases c1 : (FloatKind.f32.format.order st lo == some .lt) with
      | true => exact .inr (.inl ⟨e, hw (.inl c1), rfl⟩)
      | false =>
        cases c2 : (FloatKind.f32.format.order st hi == some .gt) with
        | true => exact .inr (.inr (.inl ⟨e, hw (.inr c2), rfl, rfl⟩))
        | false => exact .inr (.inr (.inr ⟨e, by unfold wiE; rw [if_neg (by rw [hf]; simp), if_neg (by rw [c1, c2]; simp)], rfl, rfl⟩))

theorem vTop_one : vTop = 1048576 * (one : Int) := by
  obtain ⟨J, hJ⟩ : ∃ J : Nat, J = 1074 := ⟨_, rfl⟩
  unfold vTop
  rw [one_pow hJ, Nat.one_mul, show ((20 : Int) + 1074).toNat = 20 + J by omega, Nat.pow_add, Int.natCast_mul]; rfl
theorem step_cases (st : Nat) : WithinCases st 981467136 1149239296 := by
  obtain ⟨j, hj⟩ : ∃ j : Nat, j = 1064 := ⟨_, rfl⟩
  have hj' : j + 20 = 1084 := by omega
  have e1 : one = 1024 * 2 ^ j := by rw [one_split (a := 10) (j := j) (by omega)]
  have e2 : 2 ^ (j + 20) = 1048576 * 2 ^ j := by rw [Nat.pow_add, Nat.mul_comm]
  have hp := Nat.two_pow_pos j
  exact within_cases (st := st) (vS_lo hj) (vS_hi hj') (by rw [vTop_one, e1]; generalize 2 ^ j = U at *; omega) (by rw [vTop_one, e1, e2]; generalize 2 ^ j = U at *; omega)

theorem flAt_one_of {w : World} {b x : Nat} (h : w.heap[b]? = some (flObj x)) : FlAt w b 0 1 (fun _ => x) := by
  intro i hi
  have : i = 0 := by omega
  subst this
  exact (blkC h).1 0
theorem refHeight_of (x : Nat) (hx : x < 4294967296) (bb : Nat) (w : World) (h : w.heap[bb]? = some (flObj x)) :
    Calls Try.prog 84 #[.slice (some ⟨bb, 0, none⟩) 1 1] w fun e w' => e = .returned (.int .i64 (fldE 1 (fun _ => x))) ∧ w = w' :=
  refHeight_row bb 0 1 1 (fun _ => x) (by omega) w (flAt_one_of h) (fun _ _ => hx)

end Go.Proofs.Ytmbiohopcfglcaa

/- The sign of a quotient of singles; the root of a single, by the model's own root of a double: what it lies between. -/
namespace Go.Proofs.Ytmbiohopcfglcaa.Fl
open Ieee

theorem word_sign {sg : Bool} {V : Nat} {c : Int} (h : vS (wordAt single 925 sg V) = some c) : ∃ n : Nat, c = (if sg then -1 else 1) * (n : Int) := by
  by_cases hr : rungOf single 925 V < single.infRung
  · obtain ⟨M, I, q1, _, q3⟩ := read_val single sg (-1074) 925 leastS V hr
    rw [vS_num q1] at h
    have h' := Option.some.inj h
    rw [← h']; unfold vOf; rw [signed_eq]; exact ⟨_, rfl⟩
  · have e : wordAt single 925 sg V = single.word sg single.infRung := by unfold wordAt; rw [Nat.min_eq_right (by omega)]
    rw [e] at h
    have r : single.read (single.word sg single.infRung) = .infinity sg := by cases sg <;> decide
    unfold vS at h; rw [r] at h; cases h

theorem vOf_mag (s : Bool) (m : Nat) (p : Int) : vOf s m p = (if s then -1 else 1) * ((m * 2 ^ (p + 1074).toNat : Nat) : Int) := by unfold vOf; rw [signed_eq]

/-- A quotient of what is not below 0 by what is above 0 is not below 0. -/
theorem quo_sign {x y q : Nat} {a b c : Int} (h : Go.floatBits .quo .f32 x y = some q) (hx : vS x = some a) (hy : vS y = some b) (hc : vS q = some c) (a0 : 0 ≤ a) (b0 : 0 < b) : 0 ≤ c := by
  obtain ⟨s, m, i, e1, rfl⟩ := vS_some hx
  obtain ⟨t, n, j, e2, rfl⟩ := vS_some hy
  have g1 := read_single e1
  have g2 := read_single e2
  have l1 := g1.low
  have l2 := g2.low
  have q1 := g1.high
  have q2 := g2.high
  have s1 := g1.small
  have s2 := g2.small
  rw [vOf_mag] at a0 b0
  have p2 := Nat.two_pow_pos (j + 1074).toNat
  have ht : t = false := by
    cases t with
    | false => rfl
    | true =>
      rw [if_pos rfl] at b0
      have : (0 : Int) ≤ ((n * 2 ^ (j + 1074).toNat : Nat) : Int) := Int.natCast_nonneg _
      omega
  subst ht
  have hn : 0 < n := by
    rcases Nat.eq_zero_or_pos n with z | z
    · subst z; simp at b0
    · exact z
  have h' : ((single.read x).quotient (single.fractionBits + 2) (single.read y)).map single.write = some q := h
  rw [e1, e2] at h'
  rcases Nat.eq_zero_or_pos m with z | hm
  · subst z
    unfold Datum.quotient at h'
    simp only at h'
    rw [if_neg (by omega)] at h'
    simp only [Nat.zero_shiftLeft, Nat.zero_div, Nat.zero_mod, bne_self_eq_false, Bool.toNat_false, Nat.mul_zero, Nat.add_zero, Option.map_some] at h'
    have h2 : single.nearest (s ^^ false) 0 _ = q := Option.some.inj h'
    rw [nearest_zero, ← wordAt_zero single 925] at h2
    rw [← h2] at hc
    have := vS_word (sg := s ^^ false) (V := 0) (B := 1) (by omega) (by omega)
    rw [this, rd_zero] at hc
    have := Option.some.inj hc
    rw [← this]; simp
  · have hs : s = false := by
      cases s
      · rfl
      · have := Nat.mul_pos hm (Nat.two_pow_pos (i + 1074).toNat)
        simp only [if_true] at a0
        omega
    subst hs
    obtain ⟨T, hT⟩ : ∃ T : Nat, T = 1074 := ⟨_, rfl⟩
    have ln24 : n.log2 < 24 := log_lt (by rw [show (2 : Nat) ^ 24 = 16777216 by decide]; exact s2) (by omega)
    obtain ⟨ls, ks, hS, wS⟩ := quot_word single 925 leastS (s := false) (t := false) (m := m) (n := n) (i := i) (j := j) hm hn (by omega) (by omega) (by rw [fbS]; omega) hT
    rw [wS] at h'
    have h2 := Option.some.inj h'
    rw [← h2] at hc
    obtain ⟨u, hu⟩ := word_sign hc
    rw [hu]; simp

/-- The root's digits. -/
theorem rootFrom_spec (n : Nat) : ∀ (todo root : Nat), root * root ≤ n → n < (root + 2 ^ todo) * (root + 2 ^ todo) →
    (Datum.rootFrom n todo root) * (Datum.rootFrom n todo root) ≤ n ∧ n < (Datum.rootFrom n todo root + 1) * (Datum.rootFrom n todo root + 1)
  | 0, root, h1, h2 => by
    unfold Datum.rootFrom
    rw [Nat.pow_zero] at h2
    exact ⟨h1, h2⟩
  | todo + 1, root, h1, h2 => by
    unfold Datum.rootFrom
    simp only
    rw [Nat.one_shiftLeft]
    split
    · rename_i c
      refine rootFrom_spec n todo _ c ?_
      rw [Nat.pow_succ] at h2
      rw [show root + 2 ^ todo + 2 ^ todo = root + 2 ^ todo * 2 by omega]; exact h2
    · rename_i c
      exact rootFrom_spec n todo _ h1 (by omega)

theorem root_digits (n : Nat) : (Datum.rootFrom n (n.log2 / 2 + 1) 0) * (Datum.rootFrom n (n.log2 / 2 + 1) 0) ≤ n ∧ n < (Datum.rootFrom n (n.log2 / 2 + 1) 0 + 1) * (Datum.rootFrom n (n.log2 / 2 + 1) 0 + 1) := by
  refine rootFrom_spec n _ 0 (by simp) ?_
  rw [Nat.zero_add, ← Nat.pow_add]
  have : n < 2 ^ (n.log2 + 1) := Nat.lt_log2_self
  exact Nat.lt_of_lt_of_le this (two_le (by omega))

/-- The root of a single, as a word: the root of the double, turned into a single. -/
def rootW (x : Nat) : Nat := (((Go.floatToFloatBits .f32 x .f64).bind fun X => double.sqrt X).bind fun Z => Go.floatToFloatBits .f64 Z .f32).getD 0

/-- What the root of the single x with the value a comes to. -/
structure RootAt (x : Nat) (a : Int) (X Z : Nat) (c : Int) : Prop where
  up : Go.floatToFloatBits .f32 x .f64 = some X
  sq : double.sqrt X = some Z
  dn : Go.floatToFloatBits .f64 Z .f32 = some (rootW x)
  val : vS (rootW x) = some c
  nn : 0 ≤ c
  hi : ∀ g : Nat, g < 16777216 → a ≤ ((g * g : Nat) : Int) * (one : Int) → c ≤ (g : Int) * (one : Int)
  lo : ∀ g : Nat, g < 16777216 → ((g * g : Nat) : Int) * (one : Int) ≤ a → (g : Int) * (one : Int) ≤ c

theorem rdD_mono {V W : Nat} (h : V ≤ W) : rd double 0 V ≤ rd double 0 W := by
  rcases Nat.eq_zero_or_pos V with z | z
  · subst z; rw [rd_zero]; exact Nat.zero_le _
  have z' : 0 < W := by omega
  obtain ⟨l1, l2, l3⟩ := last_le double 0 V z
  obtain ⟨k1, k2, k3⟩ := last_le double 0 W z'
  unfold rd
  generalize lastOf double 0 V = l at *
  generalize lastOf double 0 W = k at *
  rw [fbD] at l2 l3 k2 k3
  have pl : 0 < 2 ^ l := Nat.two_pow_pos l
  have pk : 0 < 2 ^ k := Nat.two_pow_pos k
  rcases Nat.lt_trichotomy l k with c | c | c
  · -- W reaches a higher binade
    have a : rnq V (2 ^ l) ≤ 2 ^ 53 := by
      have := rnq_mono (M := 2 ^ l) pl (N := V) (N' := 2 ^ 53 * 2 ^ l) (by rw [← Nat.pow_add]; exact Nat.le_of_lt (by rwa [show 53 + l = l + 52 + 1 by omega]))
      rwa [rnq_mul _ _ pl] at this
    have b : 2 ^ 52 ≤ rnq W (2 ^ k) := by
      have e : 2 ^ (k + 52) ≤ W := by rcases k3 with x | x; omega; exact x
      have := rnq_mono (M := 2 ^ k) pk (N := 2 ^ 52 * 2 ^ k) (N' := W) (by rw [← Nat.pow_add, show 52 + k = k + 52 by omega]; exact e)
      rwa [rnq_mul _ _ pk] at this
    calc rnq V (2 ^ l) * 2 ^ l ≤ 2 ^ 53 * 2 ^ l := Nat.mul_le_mul_right _ a
      _ = 2 ^ (53 + l) := by rw [Nat.pow_add]
      _ ≤ 2 ^ (52 + k) := Nat.pow_le_pow_right (by omega) (by omega)
      _ = 2 ^ 52 * 2 ^ k := by rw [Nat.pow_add]
      _ ≤ rnq W (2 ^ k) * 2 ^ k := Nat.mul_le_mul_right _ b
  · subst c
    exact Nat.mul_le_mul_right _ (rnq_mono pl h)
  · exfalso
    rcases l3 with x | x
    · omega
    · have : 2 ^ (l + 52) < 2 ^ (k + 52 + 1) := Nat.lt_of_le_of_lt (Nat.le_trans x h) k2
      have := (Nat.pow_lt_pow_iff_right (by omega : 1 < 2)).1 this
      omega

theorem down_word {V B : Nat} (hB : V < 2 ^ B) (hB' : B < 1200) :
    Go.floatToFloatBits .f64 (wordAt double 0 false V) .f32 = some (wordAt single 925 false (rd double 0 V)) ∧ vS (wordAt single 925 false (rd double 0 V)) = some ((rd single 925 (rd double 0 V) : Nat) : Int) := by
  obtain ⟨M, I, r1, r2, r3⟩ := read_val double false (-1074) 0 leastD V (rungD_lt hB (by omega))
  have hl : double.leastPlace = -1074 := by decide
  rw [hl] at r2
  have hn := nearest_val single false (-1074) 925 leastS M (p := I) (by omega)
  rw [r3] at hn
  have hd : rd double 0 V ≤ 2 ^ B := by
    have e : rd double 0 (1 * 2 ^ B) = 1 * 2 ^ B := rd_exact double 0 1 B (by rw [fbD]; decide) (by omega)
    have m : rd double 0 V ≤ rd double 0 (1 * 2 ^ B) := rdD_mono (by omega)
    rw [e] at m; omega
  have hd' : rd double 0 V < 2 ^ (B + 1) := Nat.lt_of_le_of_lt hd (Nat.pow_lt_pow_right (by omega) (by omega))
  have hv := vS_word (sg := false) hd' (by omega)
  simp only [Bool.false_eq_true, if_false, Int.one_mul] at hv
  refine ⟨?_, hv⟩
  obtain ⟨M', I', q1, _, _⟩ := read_val single false (-1074) 925 leastS (rd double 0 V) (rungS_lt hd' (by omega))
  unfold Go.floatToFloatBits
  rw [if_neg (by decide)]
  have d : Go.FloatKind.f64.decode (wordAt double 0 false V) = .number false M I := r1
  simp only [d]
  have w : Go.FloatKind.f32.encode (.number false M I) = wordAt single 925 false (rd double 0 V) := hn
  rw [w]
  have d2 : Go.FloatKind.f32.decode (wordAt single 925 false (rd double 0 V)) = .number false M' I' := q1
  rw [d2]; rfl
end Go.Proofs.Ytmbiohopcfglcaa.Fl

/- Select and Terrace of one cell, as words; what their steps come to. -/
namespace Go.Proofs.Ytmbiohopcfglcaa
open Go.RowKit Fl
set_option linter.unusedVariables false

theorem wi_unit {t : Nat} {c : Int} (h : vS t = some c) (c0 : 0 ≤ c) (c1 : c ≤ (one : Int)) : wiE t 0 1065353216 = 0 := by
  unfold wiE
  rw [if_neg (by unfold finB; rw [h]; simp), if_neg]
  rw [f32f, lss_val h vS_zero, gtr_val h vS_one]
  simp; omega

/-- What is left at the distance d of what fades over so. -/
def fadeW (d so : Nat) : Nat := if ltB d so = true then subW 1065353216 (easeW (quoW d so)) else 0
structure FadeAt (d so q p1 q1 r1 e r : Nat) : Prop where
  q1' : floatBits .quo .f32 d so = some q
  q2' : Same2 .quo 0 d so
  ea : EaseAt q p1 q1 r1 e
  wi : wiE q 0 1065353216 = 0
  r1' : floatBits .sub .f32 1065353216 e = some r
  r2' : Same2 .sub 4 1065353216 e
  lt : r < 4294967296
  w : subW 1065353216 (easeW (quoW d so)) = r

theorem fade_parts {d so : Nat} {a b : Int} (hd : vS d = some a) (hs : vS so = some b) (a0 : 0 ≤ a) (hab : a < b) : ∃ q p1 q1 r1 e r, FadeAt d so q p1 q1 r1 e r := by
  have q2 : Same2 .quo 0 d so := div_val hd hs (by omega) (by omega) (by omega)
  obtain ⟨q, q1, bq⟩ := same_ex q2
  obtain ⟨c, hc, hcb⟩ := val_bd bq
  have c0 := quo_sign q1 hd hs hc a0 (by omega)
  obtain ⟨J, hJ⟩ : ∃ J : Nat, J = 1074 := ⟨_, rfl⟩
  have c1 : c ≤ (one : Int) := by
    rw [one_pow hJ]; rw [Nat.add_zero, ← hJ] at hcb; omega
  obtain ⟨p, q', r', e, E⟩ := ease_parts (bd_unit hc (by omega) c1)
  obtain ⟨_, e1, be⟩ := same_ex E.v2
  rw [E.v1] at e1
  have e1' := Option.some.inj e1
  rw [← e1'] at be
  have r2 : Same2 .sub 4 1065353216 e := sub_same (k := 3) (by omega) (bd_one 3) be
  obtain ⟨r, r1, _⟩ := same_ex r2
  refine ⟨q, p, q', r', e, r, q1, q2, E, wi_unit hc c0 c1, r1, r2, sub_lt r1, ?_⟩
  unfold subW quoW
  rw [q1]
  show (floatBits .sub .f32 1065353216 (easeW q)).getD 0 = r
  rw [E.w, r1]; rfl

/-- Select of one value. -/
def selW (v lo hi so : Nat) : Nat := if ltB v lo = true then fadeW (subW lo v) so else if (FloatKind.f32.format.order v hi == some .gt) = true then fadeW (subW v hi) so else 1065353216

theorem diff_pos {x y : Nat} (hx : hgtB x = true) (hy : hgtB y = true) (h : ltB x y = true) : ∃ d a, floatBits .sub .f32 y x = some d ∧ Same2 .sub 21 y x ∧ vS d = some a ∧ 0 ≤ a ∧ d < 4294967296 := by
  obtain ⟨a, ha, xa⟩ := hgt_val hx
  obtain ⟨b, hb, xb⟩ := hgt_val hy
  unfold ltB at h
  rw [f32f, lss_val ha hb] at h
  have s : Same2 .sub 21 y x := sub_same (k := 20) (by omega) (hgt_bd hy) (hgt_bd hx)
  obtain ⟨d, e, bd⟩ := same_ex s
  obtain ⟨c, hc, _⟩ := val_bd bd
  obtain ⟨B, hB⟩ : ∃ B : Nat, B = 1100 := ⟨_, rfl⟩
  have hv : vS d = some (rdS (b - a)) := by
    have h' : a < b := by simpa using h
    refine vS_sub (B := B) e hb ha (small_of (n := 21) (by omega) ?_ (by omega)) (by omega)
    rw [show ((2 ^ 21 : Nat) : Int) = 2097152 by decide]
    generalize one = O at *
    omega
  exact ⟨d, rdS (b - a), e, s, hv, rdS_nonneg (by simp at h; omega), sub_lt e⟩

theorem sel_lt {v lo hi so : Nat} (hv : hgtB v = true) (hl : hgtB lo = true) (hh : hgtB hi = true) (hs : hgtB so = true) : selW v lo hi so < 4294967296 := by
  have F : ∀ {x y : Nat}, hgtB x = true → hgtB y = true → ltB x y = true → fadeW (subW y x) so < 4294967296 := by
    intro x y hx hy h
    obtain ⟨d, a, e, _, hd, a0, _⟩ := diff_pos hx hy h
    obtain ⟨b, hb, _⟩ := hgt_val hs
    have ed : subW y x = d := by unfold subW; rw [e]; rfl
    unfold fadeW
    rw [ed]
    split
    · rename_i c
      unfold ltB at c
      rw [f32f, lss_val hd hb] at c
      obtain ⟨q, p1, q1, r1, e, r, A⟩ := fade_parts hd hb a0 (by simpa using c)
      rw [A.w]; exact A.lt
    · decide
  unfold selW
  split
  · rename_i c; exact F hv hl c
  · split
    · rename_i c
      refine F hh hv ?_
      obtain ⟨a, ha, _⟩ := hgt_val hv
      obtain ⟨b, hb, _⟩ := hgt_val hh
      rw [f32f, gtr_val ha hb] at c
      unfold ltB; rw [f32f, lss_val hb ha]; simpa using c
    · decide

/-- A right sharpness: its value is from 0 to below 1. -/
def ShOk (sh : Nat) : Prop := ∃ b, vS sh = some b ∧ 0 ≤ b ∧ b < (one : Int)

/-- Terrace of one value. -/
def terW (v st sh : Nat) : Nat :=
  if ltB (subW (quoW v st) (flW (quoW v st))) sh = true then mulW (flW (quoW v st)) st
  else mulW (addW (flW (quoW v st)) (quoW (subW (subW (quoW v st) (flW (quoW v st))) sh) (subW 1065353216 sh))) st

structure TerAt (v st sh q d : Nat) (c : Bool) (u x y j r : Nat) : Prop where
  q1 : floatBits .quo .f32 v st = some q
  q2 : Same2 .quo 30 v st
  fq : ∃ a, vS q = some a
  bq : Bd 30 q
  d1 : floatBits .sub .f32 q (flW q) = some d
  d2 : Same2 .sub 32 q (flW q)
  c1 : ltB d sh = c
  u1 : floatBits .sub .f32 d sh = some u
  u2 : Same2 .sub 33 d sh
  x1 : floatBits .sub .f32 1065353216 sh = some x
  x2 : Same2 .sub 1 1065353216 sh
  y1 : floatBits .quo .f32 u x = some y
  y2 : Same2 .quo 60 u x
  j1 : c = false → floatBits .add .f32 (flW q) y = some j
  j2 : c = false → Same2 .add 61 (flW q) y
  j3 : c = true → j = flW q
  r1 : floatBits .mul .f32 j st = some r
  r2 : Same2 .mul 72 j st
  w : terW v st sh = r
  lt : r < 4294967296

theorem below_one {e : Int} {sh j : Nat} (h : vS sh = some e) (e0 : 0 ≤ e) (e1 : e < (one : Int)) (hj : j = 1050) : ((2 ^ j : Nat) : Int) ≤ (one : Int) - e := by
  obtain ⟨t, i, ht, hi, he⟩ := vS_form h
  have p := Nat.two_pow_pos i
  have t0 : 0 ≤ t := by
    rcases Int.lt_or_le t 0 with c | c
    · have : t * ((2 ^ i : Nat) : Int) < 0 := Int.mul_neg_of_neg_of_pos c (Int.natCast_pos.2 p)
      omega
    · exact c
  obtain ⟨u, rfl⟩ := Int.eq_ofNat_of_zero_le t0
  have he' : e = ((u * 2 ^ i : Nat) : Int) := by rw [he, Int.natCast_mul]
  have hu : u < 16777216 := by simpa using ht
  have e24 : one = 16777216 * 2 ^ j := by rw [one_split (a := 24) (j := j) (by omega)]
  have hlt : u * 2 ^ i < one := by omega
  have goal : 2 ^ j + u * 2 ^ i ≤ one := by
    rcases Nat.le_total j i with c | c
    · have e2 : 2 ^ i = 2 ^ (i - j) * 2 ^ j := by rw [← Nat.pow_add, Nat.sub_add_cancel c]
      rw [e2, ← Nat.mul_assoc] at hlt ⊢
      rw [e24] at hlt ⊢
      have := Nat.lt_of_mul_lt_mul_right hlt
      rw [show 2 ^ j + u * 2 ^ (i - j) * 2 ^ j = (1 + u * 2 ^ (i - j)) * 2 ^ j by rw [Nat.add_mul, Nat.one_mul]]
      exact Nat.mul_le_mul_right _ (by omega)
    · rcases Nat.eq_or_lt_of_le c with z | z
      · subst z
        rw [e24]
        rw [show 2 ^ i + u * 2 ^ i = (1 + u) * 2 ^ i by rw [Nat.add_mul, Nat.one_mul]]
        exact Nat.mul_le_mul_right _ (by omega)
      · obtain ⟨J, hJ⟩ : ∃ J, j = J + 1 := ⟨j - 1, by omega⟩
        have e3 : 2 ^ i ≤ 2 ^ J := Nat.pow_le_pow_right (by omega) (by omega)
        have e5 : u * 2 ^ i ≤ 16777215 * 2 ^ J := Nat.mul_le_mul (by omega) e3
        have e4 : 2 ^ j = 2 * 2 ^ J := by rw [hJ]; exact Nat.pow_succ'
        rw [e24, e4]
        generalize 2 ^ J = U at *
        generalize u * 2 ^ i = V at *
        omega
  rw [he']; omega

theorem ter_parts {v st sh : Nat} (hv : hgtB v = true) (hs : StepOk st) (hsh : ShOk sh) : ∃ q d c u x y j r, TerAt v st sh q d c u x y j r := by
  obtain ⟨a, ha, hab⟩ := hgt_val hv
  have hs' := hs
  obtain ⟨b, hb, hb1, hb2⟩ := hs'
  obtain ⟨e, he, e0, e1⟩ := hsh
  have op := one_pos
  have q2 : Same2 .quo 30 v st := by
    refine div_val ha hb ?_ (by omega) ?_
    · generalize one = O at *; omega
    · rw [show (2 : Nat) ^ 30 = 1073741824 by decide]; generalize one = O at *; omega
  obtain ⟨q, q1, bq⟩ := same_ex q2
  obtain ⟨aq, haq, _⟩ := val_bd bq
  have bf := fl_bd bq (by omega)
  have d2 : Same2 .sub 32 q (flW q) := sub_same (k := 31) (by omega) (bd_up bq (by omega)) bf
  obtain ⟨d, d1, bd⟩ := same_ex d2
  have bsh : Bd 0 sh := bd_unit he (by omega) (by omega)
  have u2 : Same2 .sub 33 d sh := sub_same (k := 32) (by omega) bd (bd_up bsh (by omega))
  obtain ⟨u, u1, bu⟩ := same_ex u2
  have x2 : Same2 .sub 1 1065353216 sh := sub_same (k := 0) (by omega) (bd_one 0) bsh
  obtain ⟨x, x1, bx⟩ := same_ex x2
  obtain ⟨J, hJ⟩ : ∃ J : Nat, J = 1050 := ⟨_, rfl⟩
  obtain ⟨B, hB⟩ : ∃ B : Nat, B = 1100 := ⟨_, rfl⟩
  have vx : vS x = some (rdS ((one : Int) - e)) := vS_sub (B := B) x1 vS_one he (by
    have : one < 2 ^ B := one_lt (by omega)
    omega) (by omega)
  have lx : ((2 ^ J : Nat) : Int) ≤ rdS ((one : Int) - e) := by
    have := rdS_mono (below_one he e0 e1 hJ)
    rwa [rdS_exact (c := ((2 ^ J : Nat) : Int)) 1 J (by decide) (by omega) (by simp)] at this
  obtain ⟨au, hau, hub⟩ := val_bd bu
  have y2 : Same2 .quo 60 u x := by
    have pj := Nat.two_pow_pos J
    refine div_val hau vx (by omega) (by omega) (Nat.le_trans hub ?_)
    rw [show 1074 + 33 = J + 57 by omega, Nat.pow_add]
    refine Nat.mul_le_mul (by omega) (Nat.pow_le_pow_right (by omega) (by omega))
  obtain ⟨y, y1, by'⟩ := same_ex y2
  have j2 : Same2 .add 61 (flW q) y := add_same (k := 60) (by omega) (bd_up bf (by omega)) by'
  obtain ⟨j, j1, bj⟩ := same_ex j2
  have eq : quoW v st = q := by unfold quoW; rw [q1]; rfl
  have ed : subW q (flW q) = d := by unfold subW; rw [d1]; rfl
  have eu : subW d sh = u := by unfold subW; rw [u1]; rfl
  have ex : subW 1065353216 sh = x := by unfold subW; rw [x1]; rfl
  have ey : quoW u x = y := by unfold quoW; rw [y1]; rfl
  have ej : addW (flW q) y = j := by unfold addW; rw [j1]; rfl
  cases hc : ltB d sh with
  | true =>
    have r2 : Same2 .mul (61 + 11) (flW q) st := mul_same (by omega) (bd_up bf (by omega)) (step_bd hs)
    obtain ⟨r, r1, _⟩ := same_ex r2
    refine ⟨q, d, true, u, x, y, flW q, r, q1, q2, ⟨aq, haq⟩, bq, d1, d2, hc, u1, u2, x1, x2, y1, y2, (fun h => by cases h), (fun h => by cases h), fun _ => rfl, r1, r2, ?_, mul_lt r1⟩
    unfold terW
    rw [eq, ed, if_pos hc]; unfold mulW; rw [r1]; rfl
  | false =>
    have r2 : Same2 .mul (61 + 11) j st := mul_same (by omega) bj (step_bd hs)
    obtain ⟨r, r1, _⟩ := same_ex r2
    refine ⟨q, d, false, u, x, y, j, r, q1, q2, ⟨aq, haq⟩, bq, d1, d2, hc, u1, u2, x1, x2, y1, y2, fun _ => j1, fun _ => j2, (fun h => by cases h), r1, r2, ?_, mul_lt r1⟩
    unfold terW
    rw [eq, ed, if_neg (by rw [hc]; simp), eu, ex, ey, ej]; unfold mulW; rw [r1]; rfl
end Go.Proofs.Ytmbiohopcfglcaa

/- The root of a single lies between whole numbers whose squares lie around it. -/
namespace Go.Proofs.Ytmbiohopcfglcaa.Fl
open Ieee

/-- Digits of a root, with what is left over told by one more digit, against a whole number. -/
theorem root_between {n w G : Nat} (h1 : w * w ≤ n) (h2 : n < (w + 1) * (w + 1)) :
    (n ≤ G * G → 2 * w + (w * w != n).toNat ≤ 2 * G) ∧ (G * G ≤ n → 2 * G ≤ 2 * w + (w * w != n).toNat) := by
  constructor
  · intro h
    have hw : w ≤ G := by
      rcases Nat.lt_or_ge G w with c | c
      · have : (G + 1) * (G + 1) ≤ w * w := Nat.mul_le_mul c c
        have e : (G + 1) * (G + 1) = G * G + 2 * G + 1 := by rw [Nat.add_mul, Nat.mul_add]; omega
        omega
      · exact c
    rcases Nat.lt_or_ge w G with c | c
    · have := Bool.toNat_le (w * w != n); omega
    · have : w = G := by omega
      subst this
      have : w * w = n := by omega
      rw [this]; simp
  · intro h
    have : G < w + 1 := by
      rcases Nat.lt_or_ge G (w + 1) with c | c
      · exact c
      · have := Nat.mul_le_mul c c; omega
    omega

theorem rootW_of {x X Z r : Nat} (c : Go.floatToFloatBits .f32 x .f64 = some X) (h : double.sqrt X = some Z) (d : Go.floatToFloatBits .f64 Z .f32 = some r) : rootW x = r := by
  unfold rootW
  rw [c, Option.bind_some, h, Option.bind_some, d, Option.getD_some]

theorem root_num {d M mo0 mo n w : Nat} {I : Int} (hM : M ≠ 0) (h0 : 2 * d - M.log2 = mo0) (h1 : mo0 + ((I - (mo0 : Int)) % 2).toNat = mo) (h2 : M <<< mo = n) (h3 : Datum.rootFrom n (n.log2 / 2 + 1) 0 = w) :
    Datum.root d (.number false M I) = some (.number false (2 * w + (w * w != n).toNat) ((I - (mo : Int)) / 2 - 1)) := by
  unfold Datum.root
  simp only [hM, if_false, Bool.false_eq_true, h0, h1, h2, h3]

theorem root_parts {x : Nat} {a : Int} {k : Nat} (h : vS x = some a) (a0 : 0 ≤ a) (hb : Bd k x) (hk : k ≤ 60) : ∃ X Z c, RootAt x a X Z c := by
  obtain ⟨s, m, p, e, rfl⟩ := vS_some h
  obtain ⟨X, M, I, c1, c2, c3, c4, c5⟩ := toD e
  have g := read_single e
  obtain ⟨A, hA⟩ : ∃ A, A = m * 2 ^ (p + 1074).toNat := ⟨_, rfl⟩
  have hv : vOf s m p = (if s then -1 else 1) * (A : Int) := by rw [vOf_mag, hA]
  have hbA : A ≤ 2 ^ (1074 + k) := by
    obtain ⟨s', m', p', e', b'⟩ := hb
    rw [e] at e'; cases e'
    rw [hA]; exact b'
  rw [← hA] at c4
  rcases Nat.eq_zero_or_pos M with zM | hM
  · -- nought
    subst zM
    have zA : A = 0 := by rw [← c4]; simp
    have hz : vOf s m p = 0 := by rw [hv, zA]; simp
    have hq : double.sqrt X = some (wordAt double 0 s 0) := by
      show ((double.read X).root _).map double.write = _
      rw [c2]
      unfold Datum.root
      simp only [if_true, Option.map_some]
      show some (double.nearest s 0 _) = _
      rw [nearest_zero, wordAt_zero]
    have hd : Go.floatToFloatBits .f64 (wordAt double 0 s 0) .f32 = some (wordAt single 925 s 0) := back (B := 1) (by omega) (by omega) (by show rungOf single 925 (rd double 0 0) = _; rw [rd_zero])
    have hw : rootW x = wordAt single 925 s 0 := rootW_of c1 hq hd
    have hvz := vS_word (sg := s) (V := 0) (B := 1) (by omega) (by omega)
    rw [rd_zero] at hvz
    simp only [Int.natCast_zero, Int.mul_zero] at hvz
    refine ⟨X, _, 0, c1, hq, by rw [hw]; exact hd, by rw [hw]; exact hvz, by omega, fun G _ _ => Int.mul_nonneg (by omega) (by omega), fun G _ hg => ?_⟩
    rw [hz] at hg
    have hp := one_pos
    have : G * G * one ≤ 0 := by
      have : ((G * G * one : Nat) : Int) ≤ ((0 : Nat) : Int) := by rw [Int.natCast_mul]; exact hg
      exact Int.ofNat_le.1 this
    have : G = 0 := by
      rcases Nat.eq_zero_or_pos G with z | z
      · exact z
      · have := Nat.mul_pos (Nat.mul_pos z z) hp; omega
    subst this; simp
  · have hm : 0 < A := by rw [← c4]; exact Nat.mul_pos hM (Nat.two_pow_pos _)
    have hs : s = false := by
      cases s
      · rfl
      · rw [hv] at a0; simp only [if_true] at a0; omega
    subst hs
    have hva : vOf false m p = (A : Int) := by rw [hv]; simp
    rw [hva]
    have hI := c5 (by omega)
    -- the dividend
    obtain ⟨mo0, hmo0⟩ : ∃ mo0, mo0 = 2 * (double.fractionBits + 2) - M.log2 := ⟨_, rfl⟩
    obtain ⟨mo, hmo⟩ : ∃ mo, mo = mo0 + ((I - (mo0 : Int)) % 2).toNat := ⟨_, rfl⟩
    obtain ⟨n, hn⟩ : ∃ n, n = M <<< mo := ⟨_, rfl⟩
    obtain ⟨w, hw⟩ : ∃ w, w = Datum.rootFrom n (n.log2 / 2 + 1) 0 := ⟨_, rfl⟩
    obtain ⟨d1, d2⟩ := root_digits n
    rw [← hw] at d1 d2
    have hr : (double.read X).root (double.fractionBits + 2) = some (.number false (2 * w + (w * w != n).toNat) ((I - (mo : Int)) / 2 - 1)) := by
      rw [c2]; exact root_num (by omega) hmo0.symm hmo.symm hn.symm hw.symm
    -- the place is even
    have heven : (I - (mo : Int)) % 2 = 0 := by
      rw [hmo]; have := Int.emod_two_eq (I - (mo0 : Int)); omega
    obtain ⟨hh, hhh⟩ : ∃ hh : Int, hh = (I - (mo : Int)) / 2 := ⟨_, rfl⟩
    have hI2 : I - (mo : Int) = 2 * hh := by omega
    rw [← hhh] at hr
    have l53 : M.log2 + (I + 1074).toNat < 1074 + k + 1 := by
      have := log_units (m := M) (B := 1074 + k + 1) (e := (I + 1074).toNat) hM (by rw [c4]; exact Nat.lt_of_le_of_lt hbA (Nat.pow_lt_pow_right (by omega) (by omega)))
      exact this
    rw [fbD] at hmo0
    have e1 : hh ≤ 0 := by omega
    have e2 : -400 ≤ hh := by omega
    -- units
    obtain ⟨E, hE⟩ : ∃ E : Nat, (E : Int) = hh + 1073 := ⟨(hh + 1073).toNat, by omega⟩
    obtain ⟨T, hT⟩ : ∃ T : Nat, T = 1074 := ⟨_, rfl⟩
    have hET : E + 1 ≤ T := by omega
    have hZ : double.sqrt X = some (wordAt double 0 false ((2 * w + (w * w != n).toNat) * 2 ^ E)) := by
      show ((double.read X).root _).map double.write = _
      rw [hr]
      show some (double.nearest false _ (hh - 1)) = _
      rw [nearest_val double false (-1074) 0 leastD _ (p := hh - 1) (by omega), show (hh - 1 - -1074).toNat = E by omega]
    -- the square in units
    have hsq : n * (2 ^ (E + 1) * 2 ^ (E + 1)) = A * 2 ^ T := by
      rw [hn, Nat.shiftLeft_eq, ← c4, Nat.mul_assoc, Nat.mul_assoc, ← Nat.pow_add, ← Nat.pow_add, ← Nat.pow_add]
      congr 2; omega
    have key : ∀ g : Nat, ∃ G : Nat, g * one = G * 2 ^ (E + 1) ∧ (A ≤ g * g * one ↔ n ≤ G * G) ∧ (g * g * one ≤ A ↔ G * G ≤ n) := by
      intro g
      refine ⟨g * 2 ^ (T - (E + 1)), ?_, ?_, ?_⟩
      · rw [one_pow hT, Nat.mul_assoc, ← Nat.pow_add, Nat.sub_add_cancel hET]
      all_goals
        have hp : 0 < 2 ^ (E + 1) * 2 ^ (E + 1) := Nat.mul_pos (Nat.two_pow_pos _) (Nat.two_pow_pos _)
        have e : g * 2 ^ (T - (E + 1)) * (g * 2 ^ (T - (E + 1))) * (2 ^ (E + 1) * 2 ^ (E + 1)) = g * g * one * 2 ^ T := by
          have e' : 2 ^ (T - (E + 1)) * 2 ^ (E + 1) = 2 ^ T := by rw [← Nat.pow_add, Nat.sub_add_cancel hET]
          rw [one_pow hT]
          calc g * 2 ^ (T - (E + 1)) * (g * 2 ^ (T - (E + 1))) * (2 ^ (E + 1) * 2 ^ (E + 1)) = g * g * ((2 ^ (T - (E + 1)) * 2 ^ (E + 1)) * (2 ^ (T - (E + 1)) * 2 ^ (E + 1))) := by
                simp only [Nat.mul_assoc, Nat.mul_left_comm, Nat.mul_comm]
            _ = g * g * 2 ^ T * 2 ^ T := by rw [e']; simp only [Nat.mul_assoc]
        constructor
        · intro q
          refine Nat.le_of_mul_le_mul_right ?_ hp
          rw [hsq, e]; exact Nat.mul_le_mul_right _ q
        · intro q
          have := Nat.mul_le_mul_right (2 ^ (E + 1) * 2 ^ (E + 1)) q
          rw [hsq, e] at this
          exact Nat.le_of_mul_le_mul_right this (Nat.two_pow_pos T)
    obtain ⟨V, hV⟩ : ∃ V, V = (2 * w + (w * w != n).toNat) * 2 ^ E := ⟨_, rfl⟩
    rw [← hV] at hZ
    have cmp : ∀ g : Nat, (A ≤ g * g * one → V ≤ g * one) ∧ (g * g * one ≤ A → g * one ≤ V) := by
      intro g
      obtain ⟨G, k1, k2, k3⟩ := key g
      obtain ⟨b1, b2⟩ := root_between (G := G) d1 d2
      have k4 : g * one = 2 * G * 2 ^ E := by rw [k1, Nat.pow_succ, Nat.mul_comm 2 G, Nat.mul_assoc, Nat.mul_comm 2 (2 ^ E)]
      rw [k4, hV]
      exact ⟨fun q => Nat.mul_le_mul_right _ (b1 (k2.1 q)), fun q => Nat.mul_le_mul_right _ (b2 (k3.1 q))⟩
    -- V is small
    have hVB : V < 2 ^ (T + 61) := by
      obtain ⟨L, hL⟩ : ∃ L : Nat, L = 60 := ⟨_, rfl⟩
      have e6 : A ≤ 2 ^ L * 2 ^ L * one := by
        refine Nat.le_trans hbA ?_
        rw [one_pow hT, ← Nat.pow_add, ← Nat.pow_add]
        exact two_le (by omega)
      have := (cmp (2 ^ L)).1 e6
      rw [one_pow hT, ← Nat.pow_add] at this
      exact Nat.lt_of_le_of_lt this (Nat.pow_lt_pow_right (by omega) (by omega))
    obtain ⟨q1, q2⟩ := down_word hVB (by omega)
    have hw2 : rootW x = wordAt single 925 false (rd double 0 V) := rootW_of c1 hZ q1
    -- whole numbers are not rounded
    have fix : ∀ g : Nat, g < 16777216 → rd double 0 (g * one) = g * one ∧ rd single 925 (g * one) = g * one := by
      intro g hg
      rw [one_pow hT]
      exact ⟨rd_exact double 0 g T (by rw [fbD]; exact Nat.lt_of_lt_of_le hg (by decide)) (by omega), rd_exact single 925 g T (by rw [fbS]; exact hg) (by omega)⟩
    refine ⟨X, _, _, c1, hZ, by rw [hw2]; exact q1, by rw [hw2]; exact q2, by omega, fun g hg ha => ?_, fun g hg ha => ?_⟩
    · have ha' : A ≤ g * g * one := by
        have : (A : Int) ≤ ((g * g * one : Nat) : Int) := by rw [Int.natCast_mul]; exact ha
        exact Int.ofNat_le.1 this
      have h1 := rdD_mono ((cmp g).1 ha')
      rw [(fix g hg).1] at h1
      have h2 := rd_mono h1
      rw [(fix g hg).2] at h2
      rw [← Int.natCast_mul]; exact Int.ofNat_le.2 h2
    · have ha' : g * g * one ≤ A := by
        have : ((g * g * one : Nat) : Int) ≤ (A : Int) := by rw [Int.natCast_mul]; exact ha
        exact Int.ofNat_le.1 this
      have h1 := rdD_mono ((cmp g).2 ha')
      rw [(fix g hg).1] at h1
      have h2 := rd_mono h1
      rw [(fix g hg).2] at h2
      rw [← Int.natCast_mul]; exact Int.ofNat_le.2 h2
end Go.Proofs.Ytmbiohopcfglcaa.Fl

/- Contracts: math.Sqrt, and the roots of both sides. -/
namespace Go.Proofs.Ytmbiohopcfglcaa
open Go.RowKit Fl
set_option linter.unusedVariables false

theorem extSqrt (X Z : Nat) (h : FloatKind.f64.format.sqrt X = some Z) : Extern.MathSqrt.sqrt #[.float .f64 X] = pure (.float .f64 Z) := by
  conv => lhs; whnf
  rw [h]

theorem sqrt_num (X Z : Nat) (h : Ieee.double.sqrt X = some Z) (w : World) :
    (callFunc 217 #[.float .f64 X]).run Try.prog w = .ok (.value (.float .f64 Z)) w := by
  rw [run_callFunc_extern Try.func217 (by kernel_rfl) (by kernel_rfl) (by kernel_rfl) (e := Extern.MathSqrt.sqrt) (by kernel_rfl), extSqrt X Z h]
  rfl

set_option maxHeartbeats 400000 in
theorem mathSqrt_num (X Z : Nat) (h : Ieee.double.sqrt X = some Z) (w : World) :
    Calls Try.prog 187 #[.float .f64 X] w fun e w' => e = .returned (.float .f64 Z) ∧ w = w' := by
  have a1 := sqrt_num X Z h
  clear h
  go_enter Try.func187, Try.ntmps187
  go_wp2
  go_ret
  exact ⟨rfl, rfl⟩

set_option maxHeartbeats 400000 in
theorem root_any {x : Nat} {a c : Int} {X Z : Nat} (R : RootAt x a X Z c) (w : World) :
    Calls Try.prog 181 #[.float .f32 x] w fun e w' => e = .returned (.float .f32 (rootW x)) ∧ w = w' := by
  have d1 := fun (W : World) => run_convert_float_float (P := Try.prog) W 22 182 .f32 .f64 x X (by kernel_rfl) Try.underlying182 R.up
  have d2 := fun (W : World) => run_convert_float_float (P := Try.prog) W 182 22 .f64 .f32 Z (rootW x) (by kernel_rfl) Try.underlying22 R.dn
  have MS := Lib.hid (fun w => mathSqrt_num X Z R.sq w)
  generalize rootW x = r at *
  clear R
  go_enter Try.func181, Try.ntmps181
  go_wp2_with (go_at_call 187; refine (MS.out _).mono ?_; rintro e w' ⟨rfl, rfl⟩)
  go_ret
  exact ⟨rfl, rfl⟩

set_option maxHeartbeats 400000 in
theorem refRoot_any {x : Nat} {a c : Int} {X Z : Nat} (R : RootAt x a X Z c) (w : World) :
    Calls Try.prog 103 #[.float .f32 x] w fun e w' => e = .returned (.float .f32 (rootW x)) ∧ w = w' := by
  have d1 := fun (W : World) => run_convert_float_float (P := Try.prog) W 22 182 .f32 .f64 x X (by kernel_rfl) Try.underlying182 R.up
  have d2 := fun (W : World) => run_convert_float_float (P := Try.prog) W 182 22 .f64 .f32 Z (rootW x) (by kernel_rfl) Try.underlying22 R.dn
  have MS := Lib.hid (fun w => mathSqrt_num X Z R.sq w)
  generalize rootW x = r at *
  clear R
  go_enter Try.func103, Try.ntmps103
  go_wp2_with (go_at_call 187; refine (MS.out _).mono ?_; rintro e w' ⟨rfl, rfl⟩)
  go_ret
  exact ⟨rfl, rfl⟩
end Go.Proofs.Ytmbiohopcfglcaa

/- A single with its sign turned; magnitudes of quotients by what is at least 1. -/
namespace Go.Proofs.Ytmbiohopcfglcaa.Fl
open Ieee

theorem xor_add {r : Nat} (h : r < 2147483648) : r ^^^ 2147483648 = r + 2147483648 := by
  have e : 2 ^ 31 * 1 + r = 2 ^ 31 * 1 ||| r := Nat.two_pow_add_eq_or_of_lt h 1
  have e' : r + 2147483648 = 2147483648 ||| r := by
    rw [Nat.add_comm]; simpa using e
  rw [e']
  apply Nat.eq_of_testBit_eq
  intro i
  rw [Nat.testBit_xor, Nat.testBit_or]
  have t : (2147483648 : Nat) = 2 ^ 31 := by decide
  rw [t, Nat.testBit_two_pow]
  by_cases c : 31 = i
  · subst c
    have : r.testBit 31 = false := Nat.testBit_lt_two_pow (by rw [← t]; exact h)
    rw [this]; simp
  · simp [c]

theorem xor31 {b : Nat} (h : b < 4294967296) : b ^^^ 2147483648 = if b < 2147483648 then b + 2147483648 else b - 2147483648 := by
  split
  · rename_i c; exact xor_add c
  · rename_i c
    have e := xor_add (r := b - 2147483648) (by omega)
    have e2 : b = (b - 2147483648) ^^^ 2147483648 := by rw [e]; omega
    have e3 : b ^^^ 2147483648 = ((b - 2147483648) ^^^ 2147483648) ^^^ 2147483648 := congrArg (· ^^^ 2147483648) e2
    rw [e3, Nat.xor_assoc, Nat.xor_self, Nat.xor_zero]

theorem read_opp {b : Nat} (h : b < 4294967296) : single.read (b ^^^ 2147483648) = (single.read b).opposite := by
  rw [xor31 h]
  by_cases c : b < 2147483648
  · rw [if_pos c]
    have d1 : (b + 2147483648) / 2147483648 = 1 := by omega
    have d2 : (b + 2147483648) % 2147483648 = b := by omega
    have d3 : b / 2147483648 = 0 := by omega
    have d4 : b % 2147483648 = b := by omega
    unfold Format.read
    simp only [swS, d1, d2, d3, d4]
    repeat' split
    all_goals simp_all [Datum.opposite]
  · rw [if_neg c]
    have d1 : (b - 2147483648) / 2147483648 = 0 := by omega
    have d2 : (b - 2147483648) % 2147483648 = b - 2147483648 := by omega
    have d3 : b / 2147483648 = 1 := by omega
    have d4 : b % 2147483648 = b - 2147483648 := by omega
    unfold Format.read
    simp only [swS, d1, d2, d3, d4]
    repeat' split
    all_goals simp_all [Datum.opposite]

/-- A single, its sign turned. -/
def negW (b : Nat) : Nat := b ^^^ 2147483648
theorem neg_val {b : Nat} {a : Int} (h : b < 4294967296) (hv : vS b = some a) : vS (negW b) = some (-a) := by
  obtain ⟨s, m, p, e, rfl⟩ := vS_some hv
  have r : single.read (negW b) = .number (!s) m p := by unfold negW; rw [read_opp h, e]; rfl
  rw [vS_num r, vOf_opp]
theorem neg_bd {b k : Nat} (h : b < 4294967296) (hb : Bd k b) : Bd k (negW b) := by
  obtain ⟨s, m, p, e, l⟩ := hb
  exact ⟨!s, m, p, by unfold negW; rw [read_opp h, e]; rfl, l⟩
theorem negFloat_eq (b : Nat) : Go.Op.negFloat .f32 b = negW b := rfl
end Go.Proofs.Ytmbiohopcfglcaa.Fl
