/- Lemmas and contracts for the proof that the last text of this claim holds. -/
import Derived.Test.YtkcehbnmcdppkaaScgJA
import Derived.Deep.AppendLies
import Derived.Deep.RegionLaw
import Derived.WalkKit
import Derived.Deep.RegionHeld3
import Derived.Maps.OwnOps

/- Contract: the reference's made, whatever function it is given. -/
namespace Go.Proofs.Ytkcehbnmcdppkaa
open Go.RowKit Fl
set_option linter.unusedVariables false

def rowL (f : Nat → Nat) (k : Nat) : List Value := (List.range k).map fun i => Value.float .f32 (f i)
theorem rowL_succ (f : Nat → Nat) (k : Nat) : rowL f (k + 1) = rowL f k ++ [.float .f32 (f k)] := by simp [rowL, List.range_succ]
theorem ownsRow_below {w w' : World} {base : Nat} {e : TypeId} {size : Nat} {v : Value} {n : Nat} {xs : List Value} (h : w.ownsRow base e size v n xs) (hb : Below w.heap.size w w') : w'.ownsRow base e size v n xs := by
  obtain ⟨h1, h2⟩ := h
  refine ⟨h1, ?_⟩
  rcases h2 with h2 | ⟨g, cap, cur, hv, hg, hh, r⟩
  · exact .inl h2
  · exact .inr ⟨g, cap, cur, hv, hg, blkStay hh hb, r⟩
theorem ownsRow_far {w : World} {base : Nat} {e : TypeId} {size : Nat} {v : Value} {n : Nat} {xs : List Value} (h : w.ownsRow base e size v n xs) {b : Nat} (hb : b < base) : some b ≠ v.ownBlock := by
  rcases h.2 with ⟨rfl, _⟩ | ⟨g, cap, cur, rfl, hg, _⟩
  · simp [Value.ownBlock]
  · intro c
    have : b = g := by simpa [Value.ownBlock] using c
    omega
theorem ownsRow_flAt {w : World} {base b cap k : Nat} {f : Nat → Nat} (h : w.ownsRow base 22 1 (.slice (some ⟨b, 0, none⟩) k cap) k (rowL f k)) (hk : 0 < k) : FlAt w b 0 k f ∧ b < w.heap.size ∧ base ≤ b := by
  rcases h.2 with ⟨h0, _⟩ | ⟨g, cap', cur, hv, hg, hh, h1, h2, h3, h4⟩
  · cases h0
  · cases hv
    refine ⟨fun i hi => ?_, (blkC hh).2.2, hg⟩
    rw [Nat.zero_add, (blkC hh).1 i]
    have : (cur.toList.take (k * 1))[i]? = some (.float .f32 (f i)) := by rw [h4]; simp [rowL, hi]
    rw [List.getElem?_take, if_pos (by omega)] at this
    simpa using this

/-- A function of a cell's place, as a closure. -/
def Clos2 (g : Nat) (caps : Array Value) (X Y W H : Int) (f : Nat → Nat) (w : World) : Prop :=
  ∀ (x y : Int) (i : Nat) (W' : World), X ≤ x → x < X + W → Y ≤ y → y < Y + H → (i : Int) = (y - Y) * W + (x - X) → Below w.heap.size w W' →
    Calls Try.prog g (#[.int .i64 x, .int .i64 y] ++ caps) W' fun e W'' => e = .returned (.float .f32 (f i)) ∧ Below W'.heap.size W' W''

/-- What holds of the world at each head of made's loops, when k values have been made. -/
def MadeAt (w : World) (X Y W H : Int) (f : Nat → Nat) (k : Nat) (wr : World) : Prop :=
  ∃ ov, wr.ownsRow (w.heap.size + 1 + 1 + 1) 22 1 ov k (rowL f k) ∧ wr.heap[w.heap.size]? = some (regObj X Y W H) ∧ wr.heap[w.heap.size + 1]? = some (fldO 0 0 0 0 (.slice none 0 0)) ∧
    wr.heap[w.heap.size + 1 + 1]? = some (fldO X Y W H ov) ∧ Below w.heap.size w wr

theorem flAt_congr {w w' : World} {b off n : Nat} {f : Nat → Nat} (h : FlAt w b off n f) (e : w'.heap[b]? = w.heap[b]?) : FlAt w' b off n f := fun i hi => by
  rw [← h i hi]; exact World.cell?_of_block (w := w) (a := ⟨b, off + i, none⟩) e

theorem made_step {w wr w2 w3 : World} {X Y W H : Int} {f : Nat → Nat} {k gg cap : Nat} {ov : Value} {o : Obj}
    (HO : wr.ownsRow (w.heap.size + 1 + 1 + 1) 22 1 ov k (rowL f k)) (HB : wr.heap[w.heap.size]? = some (regObj X Y W H)) (HS : wr.heap[w.heap.size + 1]? = some (fldO 0 0 0 0 (.slice none 0 0)))
    (HV : wr.heap[w.heap.size + 1 + 1]? = some (fldO X Y W H ov)) (hbel : Below w.heap.size w wr) (hb2 : Below wr.heap.size wr w2) (hgrow : (w2.alloc o).grownBy w3 ov.ownBlock)
    (hown3 : w3.ownsRow (w.heap.size + 1 + 1 + 1) 22 1 (.slice (some ⟨gg, 0, none⟩) (k + 1) cap) (k + 1) (rowL f k ++ [.float .f32 (f k)])) :
    MadeAt w X Y W H f (k + 1) (w3.setCell ⟨w.heap.size + 1 + 1, 4, none⟩ (.slice (some ⟨gg, 0, none⟩) (k + 1) cap)) := by
  have go : ∀ b o', wr.heap[b]? = some o' → b < w.heap.size + 1 + 1 + 1 → w3.heap[b]? = some o' := by
    intro b o' h hb
    have h2 := blkStay h hb2
    have hlt : b < w2.heap.size := by
      rcases Nat.lt_or_ge b w2.heap.size with x | x
      · exact x
      · rw [Array.getElem?_eq_none x] at h2; cases h2
    rw [hgrow.block b (by rw [heap_size_alloc]; omega) (ownsRow_far HO hb), heap_alloc_old _ _ hlt, h2]
  refine ⟨.slice (some ⟨gg, 0, none⟩) (k + 1) cap, ?_, ?_, ?_, ?_, ?_⟩
  · rw [rowL_succ]; exact ownsRow_setCell_below hown3 (show w.heap.size + 1 + 1 < w.heap.size + 1 + 1 + 1 by omega) _
  · exact (Below.heap_setCell _ _ _ _ (show w.heap.size ≠ w.heap.size + 1 + 1 by omega)).trans (go _ _ HB (by omega))
  · exact (Below.heap_setCell _ _ _ _ (show w.heap.size + 1 ≠ w.heap.size + 1 + 1 by omega)).trans (go _ _ HS (by omega))
  · rw [heap_setCell_same w3 (w.heap.size + 1 + 1) 4 _ _ _ (go _ _ HV (by omega))]; rfl
  · have h2 : Below w.heap.size w w2 := hbel.trans (hb2.mono hbel.size)
    have h3 := (h2.alloc h2.size o).grown hgrow (by rw [heap_size_alloc]; have := h2.size; omega) (fun b hb => by
      rcases HO.2 with ⟨rfl, _⟩ | ⟨g, _, _, rfl, hg, _⟩
      · cases hb
      · have : b = g := by simpa [Value.ownBlock] using hb.symm
        omega)
    exact h3.setCell (p := ⟨w.heap.size + 1 + 1, 4, none⟩) (show w.heap.size ≤ w.heap.size + 1 + 1 by omega) _

set_option maxRecDepth 100000 in
set_option maxHeartbeats 4000000 in
theorem made_any (X Y : Int) (W H n : Nat) (g : Nat) (caps : Array Value) (f : Nat → Nat) (w : World) (hcall : Enters g) (hcl : Clos2 g caps X Y W H f w) (hwf : wf32 n f) (hX1 : -16777216 ≤ X) (hX2 : X ≤ 16777216) (hY1 : -16777216 ≤ Y) (hY2 : Y ≤ 16777216) (hW1 : 1 ≤ W) (hW2 : W ≤ 512) (hH1 : 1 ≤ H) (hH2 : H ≤ 512) (hn : n = H * W) :
    Calls Try.prog 92 #[reg X Y W H, .func (.func g) #[] caps] w (MadePost w X Y W H n f) := by
  have HCL := Lib.hid hcl
  have HWF := Lib.hid hwf
  unfold Enters at hcall
  have HN := Lib.hid hn
  have hinfo : (Try.prog.info? 22).map (fun i => (i.zero, i.size, i.bytes)) = some (some (.float .f32 0), 1, 4) := by kernel_rfl
  obtain ⟨i0, hi, hz0, hz1, hz2⟩ := info_parts hinfo
  clear hcl hn hinfo hwf
  go_enter Try.func92, Try.ntmps92
  go_wp2
  go_loopw [7, 8] (fun y x wr => ∃ j : Nat, j ≤ H ∧ y = .int .i64 (Y + j) ∧ MadeAt w X Y W H f (j * W) wr) (fun y _ _ => (Y + H - intOf y).toNat)
  case atStart =>
    refine ⟨0, by omega, by simp, .slice none 0 0, ⟨by simp [rowL], .inl ⟨rfl, by simp⟩⟩, ?_, ?_, ?_, (by repeat (first | exact Below.refl _ _ | refine Below.alloc ?_ (by first | omega | (simp; done) | (simp; omega)) _ | refine Below.setCell ?_ (by first | omega | (simp; done) | (simp; omega)) _ | refine Below.drew ?_))⟩
    · simp only [heap_alloc_get, heap_size_alloc]; simp <;> omega
    · simp only [heap_alloc_get, heap_size_alloc]; simp <;> omega
    · simp only [heap_alloc_get, heap_size_alloc]; simp <;> omega
  case round =>
    obtain ⟨j, hj, rfl, hmade⟩ := hrel
    have HM := Lib.hid hmade
    obtain ⟨_, _, hbox, _⟩ := hmade
    obtain ⟨cB, fB, zB⟩ := blkC hbox
    clear hbox
    by_cases hlt : j < H
    · go_wp2
      clear cB fB zB
      obtain ⟨w1, rfl⟩ : ∃ w1, w1 = wr := ⟨_, rfl⟩
      go_loopw [8] (fun x wr => ∃ i : Nat, i ≤ W ∧ x = .int .i64 (X + i) ∧ MadeAt w X Y W H f (j * W + i) wr) (fun x _ => (X + W - intOf x).toNat)
      case atStart => exact ⟨0, by omega, by simp, HM.out⟩
      case round =>
        obtain ⟨i, hi1, rfl, hmi⟩ := hrel
        have HMi := Lib.hid hmi
        obtain ⟨ov, hown, hbox, hres, hout, hbel⟩ := hmi
        have HO := Lib.hid hown
        have HB := Lib.hid hbox
        have HS := Lib.hid hres
        have HV := Lib.hid hout
        obtain ⟨cB, fB, zB⟩ := blkC hbox
        obtain ⟨cV, fV, zV⟩ := blkC hout
        clear hbox hown hres hout
        by_cases hlt2 : i < W
        · have CC := Lib.hid (fun W' hb => HCL.out (X + i) (Y + j) (j * W + i) W' (by omega) (by omega) (by omega) (by omega) (by rw [show (Y + (j : Int) - Y) = j by omega, show (X + (i : Int) - X) = i by omega]; simp) hb)
          have hk : j * W + i < 262144 := by
            have : j * W ≤ 511 * 512 := Nat.mul_le_mul (by omega) hW2
            omega
          have hx : f (j * W + i) < 4294967296 := HWF.out _ (by
            rw [HN.out]
            have : (j + 1) * W ≤ H * W := Nat.mul_le_mul_right _ hlt
            rw [Nat.succ_mul] at this; omega)
          obtain ⟨k, hke⟩ : ∃ k, j * W + i = k := ⟨_, rfl⟩
          rw [hke] at CC hk hx HO
          have KE := Lib.hid (show j * W + (i + 1) = k + 1 by omega)
          clear hke
          have hrd : Below w.heap.size w wr.drew := hbel.drew
          have hb1 : k + 1 ≤ maxLen := by unfold maxLen; omega
          have hb2 : (k + 1) * 4 ≤ 140737488355328 := by omega
          have HB1 := Lib.hid hb1
          have HB2 := Lib.hid hb2
          clear hb1 hb2
          go_wp2_with fail
          go_region_law (first
            | (go_simp; (with_reducible refine (CC.out _ hrd).mono ?_); rintro e w2 ⟨rfl, hb2'⟩; have hb2 : Below wr.heap.size wr w2 := ⟨hb2'.os, hb2'.tape, hb2'.output, hb2'.size, hb2'.block⟩; have own2 := Lib.hid (ownsRow_below HO.out hb2); have out2 := Lib.hid (blkStay HV.out hb2); obtain ⟨cV2, fV2, zV2⟩ := blkC out2.out)
            | (refine step_append_lies _ (by rfl) _ _ _ (by rfl) (w.heap.size + 1 + 1 + 1) 22 i0 _ 1 4 Try.underlying39 hi hz0 hz1 hz2 rfl (by omega) ov k (rowL f k) (by rfl) (own2.out.alloc _) ⟨w2.heap.size, 0, none⟩ 1 1 [.float .f32 (f k)] (by rfl) (by rfl) (World.news_of_block (cs := #[.float .f32 (f k)]) (t := 22) (fr := (0, 0)) (heap_alloc_new w2 _)) (by simp [Value.oneCell']) (by omega) HB1.out HB2.out (by simp; omega) (w2.heap.size + 1) (by simp) ?_; intro gg cap w3 hown3 hgrow hat hlt3; have hF := ownsRow_far HO.out (show w.heap.size + 1 + 1 < w.heap.size + 1 + 1 + 1 by omega); have out3 := Lib.hid ((hgrow.block (w.heap.size + 1 + 1) (by rw [heap_size_alloc]; omega) hF).trans ((heap_alloc_old _ _ zV2).trans out2.out)); obtain ⟨cV3, fV3, zV3⟩ := blkC out3.out))
          all_goals
            have HM2 := Lib.hid (made_step HO.out HB.out HS.out HV.out hbel hb2 hgrow hown3)
            clear hown3 hgrow hat hlt3 hF cV3 fV3 zV3 cV2 fV2 zV2 cV fV zV
            go_wp2
            go_roundw
            case rel => exact ⟨i + 1, by omega, by go_num, by rw [KE.out]; exact HM2.out⟩
            case measure => simp [intOf]; omega
        · have hiW : i = W := by omega
          have HM3 : Hid (MadeAt w X Y W H f ((j + 1) * W) wr) := by
            have h := HMi.out
            rw [hiW, ← Nat.succ_mul] at h
            exact h
          have hge : ¬ X + (i : Int) < X + W := by omega
          clear hiW
          go_wp2
          go_roundw
          case rel => exact ⟨j + 1, by omega, by go_num, HM3.out⟩
          case measure => simp [intOf]; omega
    · have hjH : j = H := by omega
      have hn1 : 0 < n := by rw [HN.out]; exact Nat.mul_pos hH1 hW1
      have hn2 : n ≤ 262144 := by rw [HN.out]; exact Nat.le_trans (Nat.mul_le_mul hH2 hW2) (by omega)
      have hm := HM.out
      rw [hjH, ← HN.out] at hm
      obtain ⟨ov, hown, hbox, hres, hout, hbel⟩ := hm
      obtain ⟨gb, cap, rfl, hgb, _⟩ := hown.form hn1
      obtain ⟨hfl, hgl, _⟩ := ownsRow_flAt hown hn1
      obtain ⟨cV, fV, zV⟩ := blkC hout
      obtain ⟨cS, fS, zS⟩ := blkC hres
      have HF := Lib.hid hfl
      have OUT := Lib.hid (refOut_row gb 0 cap n f (by omega) wr hfl HWF.out)
      have HBL := Lib.hid hbel
      clear hjH hown hbox hres hout hfl hbel
      cases hall : allB n (fun i => hgtB (f i)) with
      | true =>
        have HA := Lib.hid hall
        rw [hall] at OUT
        clear hall
        go_wp2_with (go_at_call 146; refine OUT.out.mono ?_; rintro e w' ⟨rfl, rfl⟩)
        refine bodyPost_ret (v := .tuple #[fldV X Y W H (.slice (some ⟨gb, 0, none⟩) n cap), .int .i64 0]) (by simp [results, Try.results92, go_sem, cS]) rfl ?_
        exact .inl ⟨HA.out, gb, cap, rfl, by omega, by rw [set5_size]; exact hgl, flAt_congr HF.out (set5_heap wr (w.heap.size + 1) gb _ _ _ _ _ (by omega)), set5_below HBL.out (w.heap.size + 1) _ _ _ _ _ (by omega)⟩
      | false =>
        have HA := Lib.hid hall
        rw [hall] at OUT
        clear hall
        go_wp2_with (go_at_call 146; refine OUT.out.mono ?_; rintro e w' ⟨rfl, rfl⟩)
        refine bodyPost_ret (v := .tuple #[fldV 0 0 0 0 (.slice none 0 0), .int .i64 3]) (by simp [results, Try.results92, go_sem, cS]) rfl ?_
        exact .inr ⟨HA.out, rfl, set5_below HBL.out (w.heap.size + 1) _ _ _ _ _ (by omega)⟩

end Go.Proofs.Ytkcehbnmcdppkaa

/- Values of rounded results, in units of 2 ^ -1074: sums, differences, products, whole numbers; rounding is monotone, exact on few digits, and errs by half a unit of the last place. -/
namespace Go.Proofs.Ytkcehbnmcdppkaa.Fl
open Ieee

theorem vS_some {x : Nat} {a : Int} (h : vS x = some a) : ∃ s m p, single.read x = .number s m p ∧ vOf s m p = a := by
  unfold vS at h
  split at h
  · rename_i s m p e
    exact ⟨s, m, p, e, Option.some.inj h⟩
  · cases h

/-- The value of the single nearest to a value. -/
def rdS (c : Int) : Int := if c < 0 then -((rd single 925 c.natAbs : Nat) : Int) else ((rd single 925 c.natAbs : Nat) : Int)

theorem rdS_zero : rdS 0 = 0 := by
  unfold rdS
  rw [if_neg (by omega), show (0 : Int).natAbs = 0 from rfl, rd_zero]; rfl

theorem rdS_sign {c : Int} {sg : Bool} (h : c = 0 ∨ sg = decide (c < 0)) : (if sg then -1 else 1) * ((rd single 925 c.natAbs : Nat) : Int) = rdS c := by
  rcases h with rfl | rfl
  · rw [rdS_zero, show (0 : Int).natAbs = 0 from rfl, rd_zero]; simp
  · unfold rdS
    by_cases h : c < 0
    · rw [if_pos h]; simp [h]
    · rw [if_neg h]; simp [h]

theorem vS_word {sg : Bool} {V B : Nat} (hB : V < 2 ^ B) (hB' : B < 1202) : vS (wordAt single 925 sg V) = some ((if sg then -1 else 1) * ((rd single 925 V : Nat) : Int)) := by
  obtain ⟨M, I, q1, _, q3⟩ := read_val single sg (-1074) 925 leastS V (rungS_lt hB hB')
  rw [vS_num q1]; unfold vOf; rw [signed_eq]
  have e : (I - (-1074)).toNat = (I + 1074).toNat := by omega
  rw [e] at q3; rw [q3]

theorem vS_sum {s t : Bool} {m n : Nat} {i j : Int} {r B : Nat} (hi : -1074 ≤ i) (hj : -1074 ≤ j) (h : ((Datum.number s m i).sum (.number t n j)).map single.write = some r)
    (hB : (vOf s m i + vOf t n j).natAbs < 2 ^ B) (hB' : B < 1202) : vS r = some (rdS (vOf s m i + vOf t n j)) := by
  obtain ⟨p, q, q1, q2, q3⟩ := sum_val (s := s) (t := t) (m := m) (n := n) hi hj
  rw [q1] at h
  have h' := Option.some.inj h
  rw [← h']
  show vS (single.nearest _ p q) = _
  rw [nearest_val single _ (-1074) 925 leastS p (p := q) q2, show (q - (-1074)).toNat = (q + 1074).toNat by omega, q3, vS_word hB hB', rdS_sign]
  by_cases z : vOf s m i + vOf t n j = 0
  · exact .inl z
  · right; rw [if_neg z]

theorem vS_add {x y r B : Nat} {a b : Int} (h : Go.floatBits .add .f32 x y = some r) (ha : vS x = some a) (hb : vS y = some b) (hB : (a + b).natAbs < 2 ^ B) (hB' : B < 1202) : vS r = some (rdS (a + b)) := by
  obtain ⟨s, m, i, h1, rfl⟩ := vS_some ha
  obtain ⟨t, n, j, h2, rfl⟩ := vS_some hb
  have g1 := (read_single h1).low
  have g2 := (read_single h2).low
  have h' : ((single.read x).sum (single.read y)).map single.write = some r := h
  rw [h1, h2] at h'
  exact vS_sum (by omega) (by omega) h' hB hB'

theorem vOf_opp (t : Bool) (n : Nat) (j : Int) : vOf (!t) n j = - vOf t n j := by
  unfold vOf; rw [signed_eq, signed_eq]; cases t <;> simp

theorem vS_sub {x y r B : Nat} {a b : Int} (h : Go.floatBits .sub .f32 x y = some r) (ha : vS x = some a) (hb : vS y = some b) (hB : (a - b).natAbs < 2 ^ B) (hB' : B < 1202) : vS r = some (rdS (a - b)) := by
  obtain ⟨s, m, i, h1, rfl⟩ := vS_some ha
  obtain ⟨t, n, j, h2, rfl⟩ := vS_some hb
  have g1 := (read_single h1).low
  have g2 := (read_single h2).low
  have h' : ((single.read x).sum (single.read y).opposite).map single.write = some r := h
  rw [h1, h2] at h'
  have e : vOf s m i - vOf t n j = vOf s m i + vOf (!t) n j := by rw [vOf_opp]; omega
  rw [e] at hB ⊢
  exact vS_sum (t := !t) (by omega) (by omega) h' hB hB'

/-- One, in units. -/
def one : Nat := 2 ^ (1074 : Int).toNat
theorem one_eq : one = 2 ^ (1074 : Int).toNat := rfl
theorem one_pos : 0 < one := Nat.two_pow_pos _

theorem vS_mul {x y r B : Nat} {a b c : Int} (h : Go.floatBits .mul .f32 x y = some r) (ha : vS x = some a) (hb : vS y = some b) (hc : a * b = c * (one : Int)) (hB : c.natAbs < 2 ^ B) (hB' : B < 1202) : vS r = some (rdS c) := by
  obtain ⟨s, m, i, h1, rfl⟩ := vS_some ha
  obtain ⟨t, n, j, h2, rfl⟩ := vS_some hb
  have g1 := (read_single h1).low
  have g2 := (read_single h2).low
  have h' : ((single.read x).product (single.read y)).map single.write = some r := h
  rw [h1, h2] at h'
  have h'' := Option.some.inj h'
  rw [← h'']
  show vS (single.nearest (s ^^ t) (m * n) (i + j)) = _
  rw [nearest_val single _ (-1074) 925 leastS (m * n) (p := i + j) (by omega), show (i + j - (-1074)).toNat = (i + j + 1074).toNat by omega]
  have hv : c = (if (s ^^ t) then -1 else 1) * ((m * n * 2 ^ (i + j + 1074).toNat : Nat) : Int) := by
    have hp : (0 : Int) < (one : Int) := Int.natCast_pos.2 one_pos
    refine Int.eq_of_mul_eq_mul_right (Int.ne_of_gt hp) ?_
    rw [← hc]
    unfold vOf
    rw [signed_eq, signed_eq, one_eq]
    have p2 := pow_add_toNat (I := i + j + 1074) (J := 1074) (K := i + 1074) (L := j + 1074) (by omega) (by omega) (by omega) (by omega) (by omega)
    have e : m * n * 2 ^ (i + j + 1074).toNat * 2 ^ (1074 : Int).toNat = (m * 2 ^ (i + 1074).toNat) * (n * 2 ^ (j + 1074).toNat) := by
      rw [Nat.mul_assoc (m * n), p2]; simp only [Nat.mul_assoc, Nat.mul_left_comm]
    have e' : ((m * n * 2 ^ (i + j + 1074).toNat : Nat) : Int) * ((2 ^ (1074 : Int).toNat : Nat) : Int) = ((m * 2 ^ (i + 1074).toNat : Nat) : Int) * ((n * 2 ^ (j + 1074).toNat : Nat) : Int) := by
      rw [← Int.natCast_mul, e, Int.natCast_mul]
    refine Eq.trans ?_ (Int.mul_assoc _ _ _).symm
    rw [e']
    generalize ((m * 2 ^ (i + 1074).toNat : Nat) : Int) = u
    generalize ((n * 2 ^ (j + 1074).toNat : Nat) : Int) = v
    cases s <;> cases t <;> simp [Int.neg_mul, Int.mul_neg]
  have hn : c.natAbs = m * n * 2 ^ (i + j + 1074).toNat := by
    rw [hv, Int.natAbs_mul, Int.natAbs_natCast]; cases (s ^^ t) <;> simp
  rw [← hn, vS_word hB hB', rdS_sign]
  by_cases z : c = 0
  · exact .inl z
  · right
    have : 0 < m * n * 2 ^ (i + j + 1074).toNat := by omega
    generalize m * n * 2 ^ (i + j + 1074).toNat = V at *
    rw [hv]
    cases (s ^^ t)
    · simp
    · simp; omega

/-- A whole number as a single. -/
theorem vS_int {n : Int} {B : Nat} (hB : (n * (one : Int)).natAbs < 2 ^ B) (hB' : B < 1202) : vS (Go.floatOfInt .f32 n) = some (rdS (n * (one : Int))) := by
  show vS (single.nearest (n < 0) n.natAbs 0) = _
  rw [nearest_val single _ (-1074) 925 leastS n.natAbs (p := 0) (by omega), show ((0 : Int) - (-1074)).toNat = (1074 : Int).toNat by rfl]
  have e : (n * (one : Int)).natAbs = n.natAbs * 2 ^ (1074 : Int).toNat := by rw [Int.natAbs_mul, Int.natAbs_natCast, one_eq]
  rw [← e, vS_word hB hB', rdS_sign]
  by_cases z : n = 0
  · left; rw [z, Int.zero_mul]
  · right
    have hp : (0 : Int) < (one : Int) := Int.natCast_pos.2 one_pos
    by_cases h : n < 0
    · have := Int.mul_neg_of_neg_of_pos h hp
      simp [h, this]
    · have := Int.mul_nonneg (Int.not_lt.1 h) (Int.le_of_lt hp)
      simp [h]; omega

theorem rdS_neg (c : Int) : rdS (-c) = - rdS c := by
  rcases Int.lt_trichotomy c 0 with h | h | h
  · unfold rdS; rw [if_neg (by omega), if_pos h, Int.natAbs_neg]; omega
  · subst h; rw [show -(0 : Int) = 0 from rfl, rdS_zero]; rfl
  · unfold rdS; rw [if_pos (by omega), if_neg (by omega), Int.natAbs_neg]

theorem rdS_nat (V : Nat) : rdS (V : Int) = (rd single 925 V : Nat) := by
  unfold rdS; rw [if_neg (by omega), Int.natAbs_natCast]

theorem rd_mono {V W : Nat} (h : V ≤ W) : rd single 925 V ≤ rd single 925 W := by
  rcases Nat.eq_zero_or_pos V with z | z
  · subst z; rw [rd_zero]; exact Nat.zero_le _
  have z' : 0 < W := by omega
  obtain ⟨l1, l2, l3⟩ := last_le single 925 V z
  obtain ⟨k1, k2, k3⟩ := last_le single 925 W z'
  unfold rd
  generalize lastOf single 925 V = l at *
  generalize lastOf single 925 W = k at *
  rw [fbS] at l2 l3 k2 k3
  have pl : 0 < 2 ^ l := Nat.two_pow_pos l
  have pk : 0 < 2 ^ k := Nat.two_pow_pos k
  rcases Nat.lt_trichotomy l k with c | c | c
  · -- W reaches a higher binade
    have a : rnq V (2 ^ l) ≤ 2 ^ 24 := by
      have := rnq_mono (M := 2 ^ l) pl (N := V) (N' := 2 ^ 24 * 2 ^ l) (by rw [← Nat.pow_add]; exact Nat.le_of_lt (by rwa [show 24 + l = l + 23 + 1 by omega]))
      rwa [rnq_mul _ _ pl] at this
    have b : 2 ^ 23 ≤ rnq W (2 ^ k) := by
      have e : 2 ^ (k + 23) ≤ W := by rcases k3 with x | x; omega; exact x
      have := rnq_mono (M := 2 ^ k) pk (N := 2 ^ 23 * 2 ^ k) (N' := W) (by rw [← Nat.pow_add, show 23 + k = k + 23 by omega]; exact e)
      rwa [rnq_mul _ _ pk] at this
    calc rnq V (2 ^ l) * 2 ^ l ≤ 2 ^ 24 * 2 ^ l := Nat.mul_le_mul_right _ a
      _ = 2 ^ (24 + l) := by rw [Nat.pow_add]
      _ ≤ 2 ^ (23 + k) := Nat.pow_le_pow_right (by omega) (by omega)
      _ = 2 ^ 23 * 2 ^ k := by rw [Nat.pow_add]
      _ ≤ rnq W (2 ^ k) * 2 ^ k := Nat.mul_le_mul_right _ b
  · subst c
    exact Nat.mul_le_mul_right _ (rnq_mono pl h)
  · exfalso
    rcases l3 with x | x
    · omega
    · have : 2 ^ (l + 23) < 2 ^ (k + 23 + 1) := Nat.lt_of_le_of_lt (Nat.le_trans x h) k2
      have := (Nat.pow_lt_pow_iff_right (by omega : 1 < 2)).1 this
      omega

theorem rdS_mono {a b : Int} (h : a ≤ b) : rdS a ≤ rdS b := by
  have p : ∀ {a b : Int}, 0 ≤ a → a ≤ b → rdS a ≤ rdS b := by
    intro a b h0 h
    obtain ⟨m, rfl⟩ := Int.eq_ofNat_of_zero_le h0
    obtain ⟨n, rfl⟩ := Int.eq_ofNat_of_zero_le (Int.le_trans h0 h)
    rw [rdS_nat, rdS_nat]
    exact Int.ofNat_le.2 (rd_mono (Int.ofNat_le.1 h))
  rcases Int.lt_or_le a 0 with c | c
  · rcases Int.lt_or_le b 0 with d | d
    · have := p (a := -b) (b := -a) (by omega) (by omega)
      rw [rdS_neg, rdS_neg] at this; omega
    · have u := p (a := 0) (b := b) (by omega) d
      have v := p (a := 0) (b := -a) (by omega) (by omega)
      rw [rdS_neg] at v
      rw [rdS_zero] at u v
      omega
  · exact p c h

theorem rdS_exact {c : Int} (t : Int) (j : Nat) (ht : t.natAbs < 16777216) (hj : 925 ≤ j) (h : c = t * ((2 ^ j : Nat) : Int)) : rdS c = c := by
  have key : ∀ t : Nat, t < 16777216 → rdS ((t : Int) * ((2 ^ j : Nat) : Int)) = (t : Int) * ((2 ^ j : Nat) : Int) := by
    intro t ht
    rw [← Int.natCast_mul, rdS_nat, rd_exact single 925 t j (by rw [fbS]; exact ht) hj]
  subst h
  rcases Int.lt_or_le t 0 with c | c
  · obtain ⟨n, hn⟩ := Int.eq_ofNat_of_zero_le (show 0 ≤ -t by omega)
    have e : t * ((2 ^ j : Nat) : Int) = -((n : Int) * ((2 ^ j : Nat) : Int)) := by rw [← hn, Int.neg_mul, Int.neg_neg]
    rw [e, rdS_neg, key n (by omega)]
  · obtain ⟨n, rfl⟩ := Int.eq_ofNat_of_zero_le c
    exact key n (by omega)

/-- The error: at most half of 2 ^ e, below 2 ^ (e + 24). -/
theorem rdS_err {c : Int} {e : Nat} (he : 925 ≤ e) (hc : c.natAbs < 2 ^ (e + 24)) : 2 * (rdS c - c).natAbs ≤ 2 ^ e := by
  have key : ∀ V : Nat, V < 2 ^ (e + 24) → 2 * (rdS (V : Int) - (V : Int)).natAbs ≤ 2 ^ e := by
    intro V hV
    rcases Nat.eq_zero_or_pos V with z | z
    · subst z; rw [show ((0 : Nat) : Int) = 0 from rfl, rdS_zero]; simp
    obtain ⟨l1, l2, l3⟩ := last_le single 925 V z
    rw [rdS_nat]
    unfold rd
    generalize lastOf single 925 V = l at *
    rw [fbS] at l2 l3
    have hl : l ≤ e := by
      rcases l3 with x | x
      · omega
      · have : 2 ^ (l + 23) < 2 ^ (e + 24) := Nat.lt_of_le_of_lt x hV
        have := (Nat.pow_lt_pow_iff_right (by omega : 1 < 2)).1 this
        omega
    have hn := rnq_near (N := V) (M := 2 ^ l) (Nat.two_pow_pos l)
    have a := hn.low
    have b := hn.high
    have m : 2 ^ l ≤ 2 ^ e := Nat.pow_le_pow_right (by omega) hl
    generalize rnq V (2 ^ l) * 2 ^ l = R at *
    omega
  rcases Int.lt_or_le c 0 with d | d
  · obtain ⟨n, hn⟩ := Int.eq_ofNat_of_zero_le (show 0 ≤ -c by omega)
    have := key n (by omega)
    rw [← hn, rdS_neg] at this
    omega
  · obtain ⟨n, rfl⟩ := Int.eq_ofNat_of_zero_le d
    exact key n (by omega)

end Go.Proofs.Ytkcehbnmcdppkaa.Fl

/- Values of literals; the words of Unit and Signed: what Hash's upper bits come to. -/
namespace Go.Proofs.Ytkcehbnmcdppkaa.Fl
open Ieee

theorem vS_lit {x m t k j : Nat} {s : Bool} {p : Int} (h : single.read x = .number s m p) (hm : m = t * 2 ^ k) (hj : k + (p + 1074).toNat = j) : vS x = some ((if s then -1 else 1) * ((t * 2 ^ j : Nat) : Int)) := by
  rw [vS_num h]; unfold vOf; rw [signed_eq, hm, Nat.mul_assoc, ← Nat.pow_add, hj]

theorem one_split {a j : Nat} (h : a + j = 1074) : one = 2 ^ a * 2 ^ j := by
  rw [one_eq, ← Nat.pow_add]; exact congrArg (2 ^ ·) (by omega)
theorem one_pow {j : Nat} (h : j = 1074) : one = 2 ^ j := by rw [one_eq]; exact congrArg (2 ^ ·) (by omega)

theorem vS_one : vS 1065353216 = some (one : Int) := by
  have h : single.read 1065353216 = .number false 8388608 (-23) := by decide
  obtain ⟨j, hj⟩ : ∃ j : Nat, j = 1074 := ⟨_, rfl⟩
  rw [vS_lit (t := 1) (k := 23) (j := j) h (by decide) (by rw [hj]; decide), one_pow hj]; simp
theorem vS_mone : vS 3212836864 = some (-(one : Int)) := by
  have h : single.read 3212836864 = .number true 8388608 (-23) := by decide
  obtain ⟨j, hj⟩ : ∃ j : Nat, j = 1074 := ⟨_, rfl⟩
  rw [vS_lit (t := 1) (k := 23) (j := j) h (by decide) (by rw [hj]; decide), one_pow hj]; simp
theorem vS_two : vS 1073741824 = some (2 * (one : Int)) := by
  have h : single.read 1073741824 = .number false 8388608 (-22) := by decide
  obtain ⟨j, hj⟩ : ∃ j : Nat, j = 1074 := ⟨_, rfl⟩
  rw [vS_lit (t := 1) (k := 23) (j := j + 1) h (by decide) (by rw [hj]; decide), Nat.pow_succ, one_pow hj]; simp; omega
theorem vS_three : vS 1077936128 = some (3 * (one : Int)) := by
  have h : single.read 1077936128 = .number false 12582912 (-22) := by decide
  obtain ⟨j, hj⟩ : ∃ j : Nat, j = 1074 := ⟨_, rfl⟩
  rw [vS_lit (t := 3) (k := 22) (j := j) h (by decide) (by rw [hj]; decide), one_pow hj]; simp
theorem vS_zero : vS 0 = some 0 := by
  have h : single.read 0 = .number false 0 (-149) := by decide
  obtain ⟨j, hj⟩ : ∃ j : Nat, j = 925 := ⟨_, rfl⟩
  rw [vS_lit (t := 0) (k := 0) (j := j) h (by decide) (by rw [hj]; decide)]; simp
theorem vS_eps {j : Nat} (hj : j = 1050) : vS 864026624 = some ((2 ^ j : Nat) : Int) := by
  have h : single.read 864026624 = .number false 8388608 (-47) := by decide
  rw [vS_lit (t := 1) (k := 23) (j := j) h (by decide) (by rw [hj]; decide)]; simp

theorem bd_val {x k : Nat} {a : Int} (h : vS x = some a) (hb : a.natAbs ≤ 2 ^ (1074 + k)) : Bd k x := by
  obtain ⟨s, m, p, e, rfl⟩ := vS_some h
  refine ⟨s, m, p, e, ?_⟩
  unfold vOf at hb
  rw [signed_eq, Int.natAbs_mul, Int.natAbs_natCast] at hb
  cases s <;> simpa using hb
theorem val_bd {x k : Nat} (h : Bd k x) : ∃ a, vS x = some a ∧ a.natAbs ≤ 2 ^ (1074 + k) := by
  obtain ⟨s, m, p, e, hb⟩ := h
  refine ⟨_, vS_num e, ?_⟩
  unfold vOf
  rw [signed_eq, Int.natAbs_mul, Int.natAbs_natCast]
  cases s <;> simpa using hb

theorem bd_val' {x k j : Nat} {a : Int} (h : vS x = some a) (hj : j = 1074 + k) (hb : a.natAbs ≤ 2 ^ j) : Bd k x := by subst hj; exact bd_val h hb
theorem natAbs_lt_pow {a : Int} {B : Nat} {M : Int} (h1 : -M ≤ a) (h2 : a ≤ M) (h : M < ((2 ^ B : Nat) : Int)) : a.natAbs < 2 ^ B := by omega

/-- Unit of h as a word. -/
def unitW (h : Int) : Nat := (Go.floatBits .mul .f32 (Go.floatOfInt .f32 (h / 256)) 864026624).getD 0
/-- Signed of h as a word. -/
def sgnW (h : Int) : Nat := (Go.floatBits .sub .f32 ((Go.floatBits .mul .f32 (unitW h) 1073741824).getD 0) 1065353216).getD 0

theorem int_val {n : Int} (h : n.natAbs < 16777216) : vS (Go.floatOfInt .f32 n) = some (n * (one : Int)) ∧ Bd 24 (Go.floatOfInt .f32 n) := by
  obtain ⟨j, hj⟩ : ∃ j : Nat, j = 1074 := ⟨_, rfl⟩
  have e : 2 ^ (24 + j) = 16777216 * one := by rw [one_pow hj, Nat.pow_add]
  have hn : (n * (one : Int)).natAbs < 2 ^ (24 + j) := by
    rw [Int.natAbs_mul, Int.natAbs_natCast, e]
    exact Nat.mul_lt_mul_of_pos_right h one_pos
  have v := vS_int hn (by omega)
  rw [rdS_exact n j h (by omega) (by rw [one_pow hj])] at v
  exact ⟨v, bd_val' v (by omega) (Nat.le_of_lt hn)⟩

theorem unit_parts {h : Int} (h0 : 0 ≤ h) (h1 : h < 4294967296) :
    ∃ r, Go.floatBits .mul .f32 (Go.floatOfInt .f32 (h / 256)) 864026624 = some r ∧ Same2 .mul 24 (Go.floatOfInt .f32 (h / 256)) 864026624 ∧ r = unitW h := by
  obtain ⟨_, b⟩ := int_val (n := h / 256) (by omega)
  obtain ⟨j, hj⟩ : ∃ j : Nat, j = 1050 := ⟨_, rfl⟩
  have b2 : Bd 0 864026624 := bd_val' (j := 24 + j) (vS_eps hj) (by omega) (by rw [Int.natAbs_natCast]; exact Nat.pow_le_pow_right (by omega) (by omega))
  have S := mul_same (a := 24) (b := 0) (by omega) b b2
  obtain ⟨X, Y, Z, r, _, _, _, _, e, _⟩ := S.ex
  exact ⟨r, e, S, by unfold unitW; rw [e]; rfl⟩

theorem unit_val {h : Int} {j : Nat} (hj : j = 1050) (h0 : 0 ≤ h) (h1 : h < 4294967296) : vS (unitW h) = some (h / 256 * ((2 ^ j : Nat) : Int)) := by
  obtain ⟨r, e, S, rfl⟩ := unit_parts h0 h1
  obtain ⟨v, _⟩ := int_val (n := h / 256) (by omega)
  have hp : (0 : Int) < ((2 ^ j : Nat) : Int) := Int.natCast_pos.2 (Nat.two_pow_pos _)
  have eo : (2 : Nat) ^ (24 + j) = 16777216 * 2 ^ j := by rw [Nat.pow_add]
  have bd : (h / 256 * ((2 ^ j : Nat) : Int)).natAbs < 2 ^ (24 + j) := by
    rw [Int.natAbs_mul, Int.natAbs_natCast, eo]
    exact Nat.mul_lt_mul_of_pos_right (by omega) (Nat.two_pow_pos _)
  have m := vS_mul (c := h / 256 * ((2 ^ j : Nat) : Int)) e v (vS_eps hj) (by rw [Int.mul_assoc, Int.mul_assoc, Int.mul_comm (one : Int)]) bd (by omega)
  rwa [rdS_exact (h / 256) j (by omega) (by omega) rfl] at m

theorem sgn_parts {h : Int} (h0 : 0 ≤ h) (h1 : h < 4294967296) :
    ∃ p r, Go.floatBits .mul .f32 (unitW h) 1073741824 = some p ∧ Same2 .mul 2 (unitW h) 1073741824 ∧ Go.floatBits .sub .f32 p 1065353216 = some r ∧ Same2 .sub 3 p 1065353216 ∧ r = sgnW h := by
  obtain ⟨j, hj⟩ : ∃ j : Nat, j = 1050 := ⟨_, rfl⟩
  have u := unit_val hj h0 h1
  have b1 : Bd 0 (unitW h) := bd_val' (j := 24 + j) u (by omega) (by
    rw [Int.natAbs_mul, Int.natAbs_natCast, Nat.pow_add]
    exact Nat.mul_le_mul_right _ (by omega))
  obtain ⟨J, hJ⟩ : ∃ J : Nat, J = 1074 := ⟨_, rfl⟩
  have b2 : Bd 2 1073741824 := bd_val' (j := 2 + J) vS_two (by omega) (by
    rw [one_pow hJ, Nat.pow_add, Int.natAbs_mul, Int.natAbs_natCast]
    exact Nat.mul_le_mul_right _ (by decide))
  have b3 : Bd 2 1065353216 := bd_val' (j := 2 + J) vS_one (by omega) (by
    rw [one_pow hJ, Int.natAbs_natCast]; exact Nat.pow_le_pow_right (by omega) (by omega))
  have S := mul_same (a := 0) (b := 2) (by omega) b1 b2
  obtain ⟨X, Y, Z, p, _, _, _, _, e, bp⟩ := S.ex
  have T := sub_same (k := 2) (by omega) bp b3
  obtain ⟨X', Y', Z', r, _, _, _, _, e', _⟩ := T.ex
  exact ⟨p, r, e, S, e', T, by unfold sgnW; rw [e]; show r = (Go.floatBits .sub .f32 p 1065353216).getD 0; rw [e']; rfl⟩

theorem sgn_val {h : Int} {j : Nat} (hj : j = 1050) (h0 : 0 ≤ h) (h1 : h < 4294967296) : vS (sgnW h) = some ((2 * (h / 256) - 16777216) * ((2 ^ j : Nat) : Int)) := by
  obtain ⟨p, r, e, _, e', _, rfl⟩ := sgn_parts h0 h1
  have u := unit_val hj h0 h1
  have eo : one = 16777216 * 2 ^ j := by rw [one_split (a := 24) (j := j) (by omega)]
  obtain ⟨k, hk⟩ : ∃ k : Int, k = h / 256 := ⟨_, rfl⟩
  have k0 : 0 ≤ k := by omega
  have k1 : k < 16777216 := by omega
  rw [← hk] at u ⊢
  have ep : (2 : Nat) ^ (26 + j) = 67108864 * 2 ^ j := by rw [Nat.pow_add]
  have pj : 0 < 2 ^ j := Nat.two_pow_pos j
  have eJ : ((2 ^ (j + 1) : Nat) : Int) = 2 * ((2 ^ j : Nat) : Int) := by rw [Nat.pow_succ]; omega
  generalize hU : (2 ^ j : Nat) = U at *
  have hc : k * (U : Int) * (2 * (one : Int)) = 2 * k * (U : Int) * (one : Int) := by
    have G : ∀ a b c : Int, a * b * (2 * c) = 2 * a * b * c := fun a b c => by
      rw [Int.mul_left_comm, Int.mul_assoc 2 a b, Int.mul_assoc 2]
    exact G _ _ _
  have m := vS_mul (c := 2 * k * (U : Int)) e u vS_two hc (B := 26 + j) (by
      rw [ep, Int.natAbs_mul, Int.natAbs_natCast]
      exact Nat.mul_lt_mul_of_pos_right (by omega) pj) (by omega)
  rw [rdS_exact k (j + 1) (by omega) (by omega) (by rw [eJ, ← Int.mul_assoc, Int.mul_comm k 2])] at m
  have s := vS_sub e' m vS_one (B := 26 + j) (by
      rw [ep, eo]
      have a : (0 : Int) ≤ k * U := Int.mul_nonneg k0 (by omega)
      have b : k * U ≤ 16777216 * (U : Int) := Int.mul_le_mul_of_nonneg_right (by omega) (by omega)
      rw [Int.mul_assoc]
      omega) (by omega)
  have E : 2 * k * (U : Int) - ((one : Nat) : Int) = (2 * k - 16777216) * (U : Int) := by
    rw [eo, Int.sub_mul]; simp
  rw [E] at s
  have R : rdS ((2 * k - 16777216) * (U : Int)) = (2 * k - 16777216) * (U : Int) := by
    rcases Int.lt_or_le k 1 with c | c
    · have : k = 0 := by omega
      subst this
      refine rdS_exact (-1) (24 + j) (by decide) (by omega) ?_
      rw [Nat.pow_add, hU]; omega
    · exact rdS_exact (2 * k - 16777216) j (by omega) (by omega) (by rw [hU])
  rwa [R] at s

theorem unit_in {h : Int} (h0 : 0 ≤ h) (h1 : h < 4294967296) : ∃ a, vS (unitW h) = some a ∧ 0 ≤ a ∧ a < (one : Int) := by
  obtain ⟨j, hj⟩ : ∃ j : Nat, j = 1050 := ⟨_, rfl⟩
  have eo : one = 16777216 * 2 ^ j := by rw [one_split (a := 24) (j := j) (by omega)]
  have pj : 0 < 2 ^ j := Nat.two_pow_pos j
  refine ⟨_, unit_val hj h0 h1, Int.mul_nonneg (by omega) (by omega), ?_⟩
  rw [eo, Int.natCast_mul]
  exact Int.mul_lt_mul_of_pos_right (by omega) (Int.natCast_pos.2 pj)
theorem sgn_in {h : Int} (h0 : 0 ≤ h) (h1 : h < 4294967296) : ∃ a, vS (sgnW h) = some a ∧ -(one : Int) ≤ a ∧ a < (one : Int) := by
  obtain ⟨j, hj⟩ : ∃ j : Nat, j = 1050 := ⟨_, rfl⟩
  have eo : one = 16777216 * 2 ^ j := by rw [one_split (a := 24) (j := j) (by omega)]
  have pj : 0 < 2 ^ j := Nat.two_pow_pos j
  refine ⟨_, sgn_val hj h0 h1, ?_, ?_⟩
  · rw [eo, Int.natCast_mul, ← Int.neg_mul]
    exact Int.mul_le_mul_of_nonneg_right (by omega) (by omega)
  · rw [eo, Int.natCast_mul]
    exact Int.mul_lt_mul_of_pos_right (by omega) (Int.natCast_pos.2 pj)

end Go.Proofs.Ytkcehbnmcdppkaa.Fl

/- Ease: t * t * (3 - 2 * t), each step rounded, lies from 0 to 1 where t does. -/
namespace Go.Proofs.Ytkcehbnmcdppkaa.Fl
open Ieee

theorem vS_form {x : Nat} {a : Int} (h : vS x = some a) : ∃ (t : Int) (j : Nat), t.natAbs < 16777216 ∧ 925 ≤ j ∧ a = t * ((2 ^ j : Nat) : Int) := by
  obtain ⟨s, m, p, e, rfl⟩ := vS_some h
  have g := read_single e
  have l := g.low
  have sm := g.small
  refine ⟨(if s then -1 else 1) * (m : Int), (p + 1074).toNat, ?_, by omega, ?_⟩
  · rw [Int.natAbs_mul, Int.natAbs_natCast]; cases s <;> simp <;> omega
  · unfold vOf; rw [signed_eq, Int.natCast_mul, Int.mul_assoc]

theorem rdS_self {x : Nat} {a : Int} (h : vS x = some a) : rdS a = a := by
  obtain ⟨t, j, ht, hj, e⟩ := vS_form h
  exact rdS_exact t j ht hj e
theorem rdS_dbl {x : Nat} {a : Int} (h : vS x = some a) : rdS (2 * a) = 2 * a := by
  obtain ⟨t, j, ht, hj, e⟩ := vS_form h
  refine rdS_exact t (j + 1) ht (by omega) ?_
  rw [e, Nat.pow_succ]; generalize (2 : Nat) ^ j = U; grind

theorem mul_unit {x y : Nat} {a b : Int} (ha : vS x = some a) (hb : vS y = some b) : ∃ c, a * b = c * (one : Int) := by
  obtain ⟨t, i, _, hi, rfl⟩ := vS_form ha
  obtain ⟨u, j, _, hj, rfl⟩ := vS_form hb
  obtain ⟨k, hk⟩ : ∃ k : Nat, i + j = k + 1074 := ⟨i + j - 1074, by omega⟩
  obtain ⟨O, hO⟩ : ∃ O : Nat, O = 1074 := ⟨_, rfl⟩
  refine ⟨t * u * ((2 ^ k : Nat) : Int), ?_⟩
  have e : ((2 ^ i : Nat) : Int) * ((2 ^ j : Nat) : Int) = ((2 ^ k : Nat) : Int) * (one : Int) := by
    rw [one_pow hO, ← Int.natCast_mul, ← Int.natCast_mul, ← Nat.pow_add, ← Nat.pow_add]
    exact congrArg (fun n : Nat => ((2 ^ n : Nat) : Int)) (by omega)
  generalize ((2 ^ i : Nat) : Int) = I at *
  generalize ((2 ^ j : Nat) : Int) = J at *
  generalize ((2 ^ k : Nat) : Int) = K at *
  generalize (one : Int) = N at *
  rw [Int.mul_assoc (t * u), ← e]
  grind

theorem rdS_nonneg {c : Int} (h : 0 ≤ c) : 0 ≤ rdS c := by have := rdS_mono h; rwa [rdS_zero] at this

theorem rdS_tie {j : Nat} (hj : 925 ≤ j) : rdS (((16777217 * 2 ^ j : Nat) : Int)) = ((16777216 * 2 ^ j : Nat) : Int) := by
  rw [rdS_nat]
  congr 1
  have e : (16777217 * 2 ^ j).log2 = 24 + j := by
    rw [log2_mul_pow (by omega)]; rw [show Nat.log2 16777217 = 24 by decide]
  have l : lastOf single 925 (16777217 * 2 ^ j) = j + 1 := by
    unfold lastOf; rw [e, fbS]; omega
  unfold rd
  rw [l]
  have pj : 0 < 2 ^ j := Nat.two_pow_pos j
  have q : rnq (16777217 * 2 ^ j) (2 ^ (j + 1)) = 8388608 := by
    refine rnq_eq (Nat.two_pow_pos _) ?_
    rw [Nat.pow_succ]
    generalize 2 ^ j = U at *
    exact ⟨by omega, by omega, by omega, by omega⟩
  rw [q, Nat.pow_succ]; omega

/-- Ease as words. -/
def easeW (t : Nat) : Nat := (Go.floatBits .mul .f32 ((Go.floatBits .mul .f32 t t).getD 0) ((Go.floatBits .sub .f32 1077936128 ((Go.floatBits .mul .f32 1073741824 t).getD 0)).getD 0)).getD 0

theorem bd_two : Bd 2 1073741824 := by
  obtain ⟨J, hJ⟩ : ∃ J : Nat, J = 1074 := ⟨_, rfl⟩
  exact bd_val' (j := 2 + J) vS_two (by omega) (by
    rw [one_pow hJ, Nat.pow_add, Int.natAbs_mul, Int.natAbs_natCast]
    exact Nat.mul_le_mul_right _ (by decide))
theorem bd_three : Bd 2 1077936128 := by
  obtain ⟨J, hJ⟩ : ∃ J : Nat, J = 1074 := ⟨_, rfl⟩
  exact bd_val' (j := 2 + J) vS_three (by omega) (by
    rw [one_pow hJ, Nat.pow_add, Int.natAbs_mul, Int.natAbs_natCast]
    exact Nat.mul_le_mul_right _ (by decide))
theorem bd_unit {t : Nat} {a : Int} (h : vS t = some a) (a0 : -(one : Int) ≤ a) (a1 : a ≤ (one : Int)) : Bd 0 t := by
  obtain ⟨J, hJ⟩ : ∃ J : Nat, J = 1074 := ⟨_, rfl⟩
  exact bd_val' (j := J) h (by omega) (by rw [one_pow hJ] at a1 a0; omega)

structure EaseAt (t p q r v : Nat) : Prop where
  p1 : Go.floatBits .mul .f32 t t = some p
  p2 : Same2 .mul 0 t t
  q1 : Go.floatBits .mul .f32 1073741824 t = some q
  q2 : Same2 .mul 2 1073741824 t
  r1 : Go.floatBits .sub .f32 1077936128 q = some r
  r2 : Same2 .sub 3 1077936128 q
  v1 : Go.floatBits .mul .f32 p r = some v
  v2 : Same2 .mul 3 p r
  w : easeW t = v

theorem ease_parts {t : Nat} (b : Bd 0 t) : ∃ p q r v, EaseAt t p q r v := by
  have p2 := mul_same (a := 0) (b := 0) (by omega) b b
  obtain ⟨_, _, _, p, _, _, _, _, p1, bp⟩ := p2.ex
  have q2 := mul_same (a := 2) (b := 0) (by omega) bd_two b
  obtain ⟨_, _, _, q, _, _, _, _, q1, bq⟩ := q2.ex
  have r2 := sub_same (k := 2) (by omega) bd_three bq
  obtain ⟨_, _, _, r, _, _, _, _, r1, br⟩ := r2.ex
  have v2 := mul_same (a := 0) (b := 3) (by omega) bp br
  obtain ⟨_, _, _, v, _, _, _, _, v1, bv⟩ := v2.ex
  refine ⟨p, q, r, v, p1, p2, q1, q2, r1, r2, v1, v2, ?_⟩
  unfold easeW
  rw [p1, q1]
  show (Go.floatBits .mul .f32 p ((Go.floatBits .sub .f32 1077936128 q).getD 0)).getD 0 = v
  rw [r1]
  show (Go.floatBits .mul .f32 p r).getD 0 = v
  rw [v1]; rfl

theorem one_lt {B : Nat} (h : 1074 < B) : one < 2 ^ B := by
  obtain ⟨J, hJ⟩ : ∃ J : Nat, J = 1074 := ⟨_, rfl⟩
  rw [one_pow hJ]; exact Nat.pow_lt_pow_right (by omega) (by omega)
theorem small_of {c : Int} {n B : Nat} (h0 : 0 ≤ c) (h1 : c ≤ (2 ^ n : Nat) * (one : Int)) (hB : 1074 + n < B) : c.natAbs < 2 ^ B := by
  have : one < 2 ^ (B - n) := one_lt (by omega)
  have e : 2 ^ B = 2 ^ n * 2 ^ (B - n) := by rw [← Nat.pow_add]; exact congrArg (2 ^ ·) (by omega)
  have := Nat.mul_lt_mul_of_pos_left this (Nat.two_pow_pos n)
  rw [e]
  have h2 : c ≤ ((2 ^ n * one : Nat) : Int) := by rw [Int.natCast_mul]; exact h1
  omega

theorem ease_in {t : Nat} {a : Int} (h : vS t = some a) (a0 : 0 ≤ a) (a1 : a ≤ (one : Int)) : ∃ c, vS (easeW t) = some c ∧ 0 ≤ c ∧ c ≤ (one : Int) := by
  obtain ⟨p, q, r, v, E⟩ := ease_parts (bd_unit h (by omega) a1)
  rw [E.w]
  obtain ⟨P, hP⟩ := mul_unit h h
  have hone : (0 : Int) < (one : Int) := Int.natCast_pos.2 one_pos
  have P0 : 0 ≤ P := by
    have := Int.mul_nonneg a0 a0
    rw [hP] at this
    exact Int.le_of_mul_le_mul_right (by rw [Int.zero_mul]; exact this) hone
  have P1 : P ≤ (one : Int) := by
    have := Int.mul_le_mul a1 a1 a0 (Int.le_of_lt hone)
    rw [hP] at this
    exact Int.le_of_mul_le_mul_right this hone
  obtain ⟨B, hB⟩ : ∃ B : Nat, B = 1100 := ⟨_, rfl⟩
  have vp := vS_mul (B := B) E.p1 h h hP (small_of (n := 0) P0 (by rw [Nat.pow_zero]; omega) (by omega)) (by omega)
  have vq := vS_mul (B := B) (c := 2 * a) E.q1 vS_two h (by grind) (small_of (n := 2) (by omega) (by show _ ≤ (4 : Int) * _; omega) (by omega)) (by omega)
  rw [rdS_dbl h] at vq
  have vr := vS_sub (B := B) E.r1 vS_three vq (small_of (n := 2) (by omega) (by show _ ≤ (4 : Int) * _; omega) (by omega)) (by omega)
  have pp0 := rdS_nonneg P0
  have r0 : 0 ≤ rdS (3 * (one : Int) - 2 * a) := rdS_nonneg (by omega)
  obtain ⟨c, hc⟩ := mul_unit vp vr
  have c0 : 0 ≤ c := by
    have := Int.mul_nonneg pp0 r0
    rw [hc] at this
    exact Int.le_of_mul_le_mul_right (by rw [Int.zero_mul]; exact this) hone
  obtain ⟨O, hO⟩ : ∃ O : Nat, O = 1072 := ⟨_, rfl⟩
  -- the bound of the last product
  have key : c ≤ 4 * (one : Int) ∧ rdS c ≤ (one : Int) := by
    rcases Int.le_total (2 * a) (one : Int) with d | d
    · have eV : (one : Int) = 4 * ((2 ^ O : Nat) : Int) := by rw [one_split (a := 2) (j := O) (by omega), Int.natCast_mul]; rfl
      generalize hV : ((2 ^ O : Nat) : Int) = V at *
      have PV : P ≤ V := by
        have h4 : (2 * a) * (2 * a) ≤ (one : Int) * (one : Int) := Int.mul_le_mul d d (by omega) (Int.le_of_lt hone)
        refine Int.le_of_mul_le_mul_right (a := (one : Int)) ?_ hone
        have e1 : (2 * a) * (2 * a) = 4 * (P * (one : Int)) := by rw [← hP]; grind
        have e2 : (one : Int) * (one : Int) = 4 * (V * (one : Int)) := by rw [← Int.mul_assoc, ← eV]
        omega
      have p1 : rdS P ≤ V := by
        have := rdS_mono PV
        rwa [rdS_exact (c := V) 1 O (by decide) (by omega) (by rw [hV, Int.one_mul])] at this
      have r1 : rdS (3 * (one : Int) - 2 * a) ≤ 3 * (one : Int) := by
        have := rdS_mono (show 3 * (one : Int) - 2 * a ≤ 3 * (one : Int) by omega)
        rwa [rdS_self vS_three] at this
      have hm := Int.mul_le_mul p1 r1 r0 (by omega)
      rw [hc] at hm
      have c1 : c ≤ 3 * V := Int.le_of_mul_le_mul_right (by rw [show 3 * V * (one : Int) = V * (3 * (one : Int)) by grind]; exact hm) hone
      refine ⟨by omega, ?_⟩
      have := rdS_mono (show c ≤ (one : Int) by omega)
      rwa [rdS_self vS_one] at this
    · obtain ⟨m, i, hm, hi, ha⟩ := vS_form h
      obtain ⟨j, hj⟩ : ∃ j : Nat, j = 1050 := ⟨_, rfl⟩
      have eU : (one : Int) = 16777216 * ((2 ^ j : Nat) : Int) := by rw [one_split (a := 24) (j := j) (by omega), Int.natCast_mul]; rfl
      have pj : (0 : Int) < ((2 ^ j : Nat) : Int) := Int.natCast_pos.2 (Nat.two_pow_pos _)
      have hij : j ≤ i := by
        rcases Nat.lt_or_ge i j with c' | c'
        · exfalso
          have e : ((2 ^ j : Nat) : Int) = ((2 ^ i : Nat) : Int) * ((2 ^ (j - i) : Nat) : Int) := by rw [← Int.natCast_mul, ← Nat.pow_add]; exact congrArg (fun n : Nat => ((2 ^ n : Nat) : Int)) (by omega)
          have two : (2 : Int) ≤ ((2 ^ (j - i) : Nat) : Int) := by
            have : 2 ^ 1 ≤ 2 ^ (j - i) := Nat.pow_le_pow_right (by omega) (by omega)
            omega
          have pi : (0 : Int) < ((2 ^ i : Nat) : Int) := Int.natCast_pos.2 (Nat.two_pow_pos _)
          have : 2 * ((2 ^ i : Nat) : Int) ≤ ((2 ^ j : Nat) : Int) := by rw [e, Int.mul_comm]; exact Int.mul_le_mul_of_nonneg_left two (Int.le_of_lt pi)
          have ml : m ≤ 16777215 := by omega
          have : m * ((2 ^ i : Nat) : Int) ≤ 16777215 * ((2 ^ i : Nat) : Int) := Int.mul_le_mul_of_nonneg_right ml (Int.le_of_lt pi)
          omega
        · exact c'
      obtain ⟨k, hk⟩ : ∃ k : Int, a = k * ((2 ^ j : Nat) : Int) := ⟨m * ((2 ^ (i - j) : Nat) : Int), by
        rw [ha, Int.mul_assoc, ← Int.natCast_mul, ← Nat.pow_add]; exact congrArg (fun n : Nat => m * ((2 ^ n : Nat) : Int)) (by omega)⟩
      have vtie := rdS_tie (j := j) (by omega)
      rw [Int.natCast_mul, Int.natCast_mul] at vtie
      have verr := fun (hlt : P.natAbs < 2 ^ (j + 24)) => rdS_err (c := P) (e := j) (by omega) hlt
      have hlt : P ≠ (one : Int) → P.natAbs < 2 ^ (j + 24) := by
        intro ne
        have : 2 ^ (j + 24) = one := by rw [one_split (a := 24) (j := j) (by omega), Nat.pow_add, Nat.mul_comm]
        rw [this]; omega
      have hr : rdS (3 * (one : Int) - 2 * a) = (50331648 - 2 * k) * ((2 ^ j : Nat) : Int) := by
        have k1 : 8388608 ≤ k := by
          refine Int.le_of_mul_le_mul_right (a := ((2 ^ j : Nat) : Int)) ?_ pj
          rw [← hk]; omega
        have k2 : k ≤ 16777216 := by
          refine Int.le_of_mul_le_mul_right (a := ((2 ^ j : Nat) : Int)) ?_ pj
          rw [← hk]; omega
        have e : 3 * (one : Int) - 2 * a = (50331648 - 2 * k) * ((2 ^ j : Nat) : Int) := by rw [eU, hk]; grind
        rw [e]
        rcases Int.lt_or_le 8388608 k with c' | c'
        · refine rdS_exact (25165824 - k) (j + 1) (by omega) (by omega) ?_
          rw [Nat.pow_succ, Int.natCast_mul]; grind
        · have : k = 8388608 := by omega
          subst this
          refine rdS_exact 1 (j + 25) (by decide) (by omega) ?_
          rw [Nat.pow_add, Int.natCast_mul, Int.one_mul, Int.mul_comm]; rfl
      rw [hr] at hc
      have k1 : 8388608 ≤ k := by
        refine Int.le_of_mul_le_mul_right (a := ((2 ^ j : Nat) : Int)) ?_ pj
        rw [← hk]; omega
      have k2 : k ≤ 16777216 := by
        refine Int.le_of_mul_le_mul_right (a := ((2 ^ j : Nat) : Int)) ?_ pj
        rw [← hk]; omega
      generalize hU : ((2 ^ j : Nat) : Int) = U at *
      have pb : 2 * rdS P ≤ 2 * P + U := by
        by_cases ne : P = (one : Int)
        · rw [ne, rdS_self vS_one]; omega
        · have := verr (hlt ne); omega
      generalize rdS P = R at *
      have b1 : c ≤ 16777217 * U := by
        have cc : (2 * R) * ((50331648 - 2 * k) * U) ≤ (2 * P + U) * ((50331648 - 2 * k) * U) := Int.mul_le_mul_of_nonneg_right pb (Int.mul_nonneg (by omega) (by omega))
        have e1 : (2 * R) * ((50331648 - 2 * k) * U) = 2 * (c * (16777216 * U)) := by rw [← eU, ← hc]; grind
        -- P in units of U
        have e2 : P * 16777216 = k * k * U := by
          refine Int.eq_of_mul_eq_mul_right (Int.ne_of_gt pj) ?_
          rw [Int.mul_assoc P, ← eU, ← hP, hk]; grind
        have id : k * k * (50331648 - 2 * k) = 16777216 * 16777216 * 16777216 - (16777216 - k) * (16777216 - k) * (16777216 + 2 * k) := by grind
        have nn : 0 ≤ (16777216 - k) * (16777216 - k) * (16777216 + 2 * k) := Int.mul_nonneg (Int.mul_nonneg (by omega) (by omega)) (by omega)
        have f1 : k * k * (50331648 - 2 * k) * U ≤ 16777216 * 16777216 * 16777216 * U := Int.mul_le_mul_of_nonneg_right (by omega) (by omega)
        have f2 : (50331648 - 2 * k) * U ≤ 33554432 * U := Int.mul_le_mul_of_nonneg_right (by omega) (by omega)
        have e3 : (2 * P + U) * ((50331648 - 2 * k) * U) * 16777216 = (2 * (k * k * (50331648 - 2 * k) * U) + 16777216 * ((50331648 - 2 * k) * U)) * U := by
          have : (2 * P + U) * ((50331648 - 2 * k) * U) * 16777216 = (2 * (P * 16777216) + 16777216 * U) * ((50331648 - 2 * k) * U) := by grind
          rw [this, e2]; grind
        have e4 : 2 * (c * (16777216 * U)) * 16777216 = (2 * 16777216 * 16777216 * c) * U := by grind
        have g : (2 * 16777216 * 16777216 * c) * U ≤ (2 * (k * k * (50331648 - 2 * k) * U) + 16777216 * ((50331648 - 2 * k) * U)) * U := by
          rw [← e3, ← e4]
          exact Int.mul_le_mul_of_nonneg_right (by rw [← e1]; exact cc) (by omega)
        have g' := Int.le_of_mul_le_mul_right g pj
        omega
      refine ⟨by omega, ?_⟩
      have := rdS_mono b1
      have e5 : ((16777217 : Nat) : Int) * U = 16777217 * U := rfl
      have e6 : ((16777216 : Nat) : Int) * U = 16777216 * U := rfl
      rw [e5, e6] at vtie
      omega
  have vv := vS_mul (B := B) E.v1 vp vr hc (small_of (n := 2) c0 (by show _ ≤ (4 : Int) * _; exact key.1) (by omega)) (by omega)
  exact ⟨_, vv, rdS_nonneg c0, key.2⟩

end Go.Proofs.Ytkcehbnmcdppkaa.Fl

/- Sums, products and quotients of singles as words. -/
namespace Go.Proofs.Ytkcehbnmcdppkaa
open Go.RowKit Fl
set_option linter.unusedVariables false

/-- What an operation on singles answers stays below 2 ^ 32. -/
theorem opt_lt {d : Option Ieee.Datum} {r : Nat} (h : d.map Ieee.single.write = some r) : r < 4294967296 := by
  cases d with
  | none => cases h
  | some d => cases h; exact Ieee.Format.write_lt Ieee.single d

/-- The lesser, the greater, as words: the first one where they are equal. -/
def lesW (x y : Nat) : Nat := if (FloatKind.f32.format.order y x == some .lt) = true then y else x
def grtW (x y : Nat) : Nat := if (FloatKind.f32.format.order y x == some .gt) = true then y else x

def quoW (a b : Nat) : Nat := (floatBits .quo .f32 a b).getD 0
def subW (a b : Nat) : Nat := (floatBits .sub .f32 a b).getD 0
def addW (a b : Nat) : Nat := (floatBits .add .f32 a b).getD 0
def mulW (a b : Nat) : Nat := (floatBits .mul .f32 a b).getD 0
def ltB (a b : Nat) : Bool := FloatKind.f32.format.order a b == some .lt

theorem same_ex {op : BinOp} {k x y : Nat} (h : Same2 op k x y) : ∃ r, floatBits op .f32 x y = some r ∧ Bd k r := by
  obtain ⟨_, _, _, r, _, _, _, _, e, b⟩ := h.ex
  exact ⟨r, e, b⟩
theorem sub_lt {x y r : Nat} (h : floatBits .sub .f32 x y = some r) : r < 4294967296 := opt_lt (d := (Ieee.single.read x).sum (Ieee.single.read y).opposite) h
theorem mul_lt {x y r : Nat} (h : floatBits .mul .f32 x y = some r) : r < 4294967296 := opt_lt (d := (Ieee.single.read x).product (Ieee.single.read y)) h
theorem add_lt {x y r : Nat} (h : floatBits .add .f32 x y = some r) : r < 4294967296 := opt_lt (d := (Ieee.single.read x).sum (Ieee.single.read y)) h

end Go.Proofs.Ytkcehbnmcdppkaa

/- Contracts: the reference's add, sub, mul; scaled, clamped; lesser, greater; At; Check of a right field. -/
namespace Go.Proofs.Ytkcehbnmcdppkaa
open Go.RowKit Fl
set_option linter.unusedVariables false

theorem ret_fl {k : FloatKind} {a b : Nat} (h : a = b) : Ending.returned (.float k a) = .returned (.float k b) := by rw [h]

set_option maxHeartbeats 400000 in
theorem refAdd_any (k x y r : Nat) (h : Same2 .add k x y) (hr : floatBits .add .f32 x y = some r) (w : World) :
    Calls Try.prog 96 #[.float .f32 x, .float .f32 y] w fun e w' => e = .returned (.float .f32 r) ∧ w = w' := by
  obtain ⟨X, Y, Z, r', h1, h2, h3, h4, h5, _⟩ := h.ex
  rw [hr] at h5
  have h5 := Option.some.inj h5
  subst h5
  have c1 := fun (W : World) => run_convert_float_float (P := Try.prog) W 22 32 .f32 .f64 x X (by kernel_rfl) Try.underlying32 h1
  have c2 := fun (W : World) => run_convert_float_float (P := Try.prog) W 22 32 .f32 .f64 y Y (by kernel_rfl) Try.underlying32 h2
  have c3 := fun (W : World) => run_float_arith (P := Try.prog) W .add 32 .f64 X Y Z h3
  have c4 := fun (W : World) => run_convert_float_float (P := Try.prog) W 32 22 .f64 .f32 Z r (by kernel_rfl) Try.underlying22 h4
  clear h1 h2 h3 h4 hr h
  go_enter Try.func96, Try.ntmps96
  go_wp2
  go_ret
  exact ⟨rfl, rfl⟩

set_option maxHeartbeats 400000 in
theorem refMul_any (k x y r : Nat) (h : Same2 .mul k x y) (hr : floatBits .mul .f32 x y = some r) (w : World) :
    Calls Try.prog 94 #[.float .f32 x, .float .f32 y] w fun e w' => e = .returned (.float .f32 r) ∧ w = w' := by
  obtain ⟨X, Y, Z, r', h1, h2, h3, h4, h5, _⟩ := h.ex
  rw [hr] at h5
  have h5 := Option.some.inj h5
  subst h5
  have c1 := fun (W : World) => run_convert_float_float (P := Try.prog) W 22 32 .f32 .f64 x X (by kernel_rfl) Try.underlying32 h1
  have c2 := fun (W : World) => run_convert_float_float (P := Try.prog) W 22 32 .f32 .f64 y Y (by kernel_rfl) Try.underlying32 h2
  have c3 := fun (W : World) => run_float_arith (P := Try.prog) W .mul 32 .f64 X Y Z h3
  have c4 := fun (W : World) => run_convert_float_float (P := Try.prog) W 32 22 .f64 .f32 Z r (by kernel_rfl) Try.underlying22 h4
  clear h1 h2 h3 h4 hr h
  go_enter Try.func94, Try.ntmps94
  go_wp2
  go_ret
  exact ⟨rfl, rfl⟩

/-- Clamped, as the reference does it. -/
def clpW (v a b : Nat) : Nat := if (FloatKind.f32.format.order v a == some .lt) = true then a else if (FloatKind.f32.format.order v b == some .gt) = true then b else v

set_option maxHeartbeats 400000 in
theorem lesser_any (x y : Nat) (w : World) :
    Calls Try.prog 138 #[.float .f32 x, .float .f32 y] w fun e w' => e = .returned (.float .f32 (lesW x y)) ∧ w = w' := by
  unfold lesW
  go_enter Try.func138, Try.ntmps138
  go_wp2
  all_goals go_ret
  all_goals refine ⟨ret_fl ?_, rfl⟩
  all_goals simp_all

set_option maxHeartbeats 400000 in
theorem greater_any (x y : Nat) (w : World) :
    Calls Try.prog 82 #[.float .f32 x, .float .f32 y] w fun e w' => e = .returned (.float .f32 (grtW x y)) ∧ w = w' := by
  unfold grtW
  go_enter Try.func82, Try.ntmps82
  go_wp2
  all_goals go_ret
  all_goals refine ⟨ret_fl ?_, rfl⟩
  all_goals simp_all

theorem clp_eq {v a b : Nat} (hv : finB v = true) (ha : finB a = true) (hb : finB b = true) (hab : (FloatKind.f32.format.order a b == some .gt) = false) : lesW (grtW v a) b = clpW v a b := by
  rw [show FloatKind.f32.format = Ieee.single from rfl] at hab
  unfold finB at hv ha hb
  obtain ⟨i, hi⟩ := Option.isSome_iff_exists.1 hv
  obtain ⟨j, hj⟩ := Option.isSome_iff_exists.1 ha
  obtain ⟨k, hk⟩ := Option.isSome_iff_exists.1 hb
  rw [gtr_val hj hk] at hab
  unfold lesW grtW clpW
  rw [show FloatKind.f32.format = Ieee.single from rfl, gtr_val hj hi, lss_val hi hj, gtr_val hi hk]
  simp only [decide_eq_true_eq, decide_eq_false_iff_not] at *
  by_cases c : i < j
  · rw [if_pos c, if_pos c, lss_val hk hj]; simp only [decide_eq_true_eq]; rw [if_neg (by omega)]
  · rw [if_neg c, if_neg c, lss_val hk hi]; simp only [decide_eq_true_eq]

set_option maxHeartbeats 1000000 in
theorem refAt_any (X Y : Int) (W H n b cap i : Nat) (v : Nat → Nat) (x y : Int) (w : World) (hX1 : -16777216 ≤ X) (hX2 : X ≤ 16777216) (hY1 : -16777216 ≤ Y) (hY2 : Y ≤ 16777216) (hW1 : 1 ≤ W) (hW2 : W ≤ 512) (hH2 : H ≤ 512)
    (h1 : X ≤ x) (h2 : x < X + W) (h3 : Y ≤ y) (h4 : y < Y + H) (hi : (i : Int) = (y - Y) * W + (x - X)) (hn : i < n) (hn2 : n ≤ 65536) (hc : FlAt w b 0 n v) :
    Calls Try.prog 95 #[fldV X Y W H (.slice (some ⟨b, 0, none⟩) n cap), .int .i64 x, .int .i64 y] w fun e w' => e = .returned (.float .f32 (v i)) ∧ w.alloc (fldO X Y W H (.slice (some ⟨b, 0, none⟩) n cap)) = w' := by
  have hq : 0 ≤ (y - Y) * W := Int.mul_nonneg (by omega) (by omega)
  have e1 : wrap64 (y - Y) = y - Y := IntWalk.wrap64_in _ ⟨by omega, by omega⟩
  have e2 : wrap64 ((y - Y) * W) = (y - Y) * W := IntWalk.wrap64_in _ ⟨by omega, by omega⟩
  have e3 : wrap64 ((y - Y) * W + x) = (y - Y) * W + x := IntWalk.wrap64_in _ ⟨by omega, by omega⟩
  have e4 : wrap64 ((y - Y) * W + x - X) = (i : Int) := by rw [IntWalk.wrap64_in _ ⟨by omega, by omega⟩]; omega
  have hcell := hc i hn
  rw [Nat.zero_add] at hcell
  have hlt : b < w.heap.size := World.block_lt_of_cell? w _ hcell
  clear hi hq hc
  go_enter Try.func95, Try.ntmps95
  go_wp2
  go_ret
  exact ⟨rfl, rfl⟩

set_option maxHeartbeats 1000000 in
theorem check_ok (X Y : Int) (W H n b cap : Nat) (v : Nat → Nat) (w : World) (h0 : checkR X Y W H = 0) (hn : n = W * H) (hc : FlAt w b 0 n v) (hh : allB n (fun i => hgtB (v i)) = true) :
    Calls Try.prog 87 #[fldV X Y W H (.slice (some ⟨b, 0, none⟩) n cap)] w fun e w' => e = .returned (.int .i64 0) ∧ Below w.heap.size w w' := by
  have HH := Lib.hid (fldE_zero.2 hh)
  obtain ⟨b1, b2, b3, b4, b5, _⟩ := checkR_zero h0
  have en : wrap64 ((W : Int) * (H : Int)) = (n : Int) := by
    have : ((W : Int) * (H : Int)) = (n : Int) := by rw [hn]; simp
    rw [this]; rw [this] at b5; exact IntWalk.wrap64_in _ ⟨by omega, by omega⟩
  have hn2 : n ≤ 65536 := by
    have : ((W : Int) * (H : Int)) = (n : Int) := by rw [hn]; simp
    omega
  have h1 : 1 ≤ n := by
    have := Nat.mul_pos (by omega : 0 < W) (by omega : 0 < H)
    omega
  have hlt : b < w.heap.size := World.block_lt_of_cell? w _ (hc 0 h1)
  have CH := Lib.hid (fun W' (hb : Below w.heap.size w W') => CheckHeights_row b 0 cap n v (by omega) W' (flAt_congr hc (hb.block _ hlt)))
  rw [HH.out] at CH
  have RC := Lib.hid (fun w => checkRegion_any X Y W H w)
  rw [h0] at RC
  clear hn hc hh h0 b5
  go_enter Try.func87, Try.ntmps87
  go_wp2_with (first | (go_at_call 84; refine (RC.out _).mono ?_; rintro e w' ⟨rfl, rfl⟩) | (go_at_call 76; refine (CH.out _ (by repeat (first | exact Below.refl _ _ | refine Below.alloc ?_ (by first | omega | (simp; done) | (simp; omega)) _ | refine Below.setCell ?_ (by first | omega | (simp; done) | (simp; omega)) _ | refine Below.drew ?_))).mono ?_; rintro e w' ⟨rfl, rfl⟩))
  go_ret
  exact ⟨rfl, (by repeat (first | exact Below.refl _ _ | refine Below.alloc ?_ (by first | omega | (simp; done) | (simp; omega)) _ | refine Below.setCell ?_ (by first | omega | (simp; done) | (simp; omega)) _ | refine Below.drew ?_))⟩

end Go.Proofs.Ytkcehbnmcdppkaa

/- What many laws want: two singles as a list, what a function that makes a field answers, the number of a cell. -/
namespace Go.Proofs.Ytkcehbnmcdppkaa
open Go.RowKit Fl
set_option linter.unusedVariables false

theorem heap_alloc_new (w : World) (o : Obj) : (w.alloc o).heap[w.heap.size]? = some o := by rw [heap_alloc_get, if_pos rfl]

/-- A single in a block of its own. -/
abbrev flObj (x : Nat) : Obj := .cells #[.float .f32 x] 22

theorem below_drewN (w : World) (k : Nat) : Below w.heap.size w (w.drewN k) := by
  induction k with
  | zero => exact Below.refl _ _
  | succ k ih => exact ih.drew

/-- Two singles, as a list. -/
def two (m c : Nat) (i : Nat) : Nat := if i = 0 then m else c
theorem flAt_two {w : World} {b m c : Nat} (h : w.heap[b]? = some (.cells #[.float .f32 m, .float .f32 c] 22)) : FlAt w b 0 2 (two m c) := by
  intro i hi
  rw [Nat.zero_add, (blkC h).1 i]
  have : i = 0 ∨ i = 1 := by omega
  rcases this with rfl | rfl <;> rfl
theorem two_hgt {m c : Nat} (h : fldE 2 (two m c) = 0) : hgtB m = true ∧ hgtB c = true := by
  have := allB_iff.1 (fldE_zero.1 h)
  exact ⟨this 0 (by omega), this 1 (by omega)⟩

/-- What Scale and Clamp answer: the error of their singles, another error, or a field that is made. -/
def ScPost (w : World) (X Y W H : Int) (n : Nat) (f : Nat → Nat) (er : Int) (e : Ending) (w' : World) : Prop :=
  (er ≠ 0 ∧ e = .returned (.tuple #[fldV 0 0 0 0 (.slice none 0 0), .int .i64 er]) ∧ Below w.heap.size w w') ∨ (er = 0 ∧ MadePost w X Y W H n f e w')

theorem num_lt {X Y x y : Int} {W H n i : Nat} (hW1 : 1 ≤ W) (h1 : X ≤ x) (h2 : x < X + W) (h4 : y < Y + H) (h5 : (i : Int) = (y - Y) * W + (x - X)) (hnn : n = H * W) : i < n := by
  have a : (y - Y) * W ≤ ((H : Int) - 1) * W := Int.mul_le_mul_of_nonneg_right (by omega) (by omega)
  have b : ((H : Int) - 1) * W = (n : Int) - W := by rw [hnn, Int.sub_mul]; simp
  omega

theorem f32f : FloatKind.f32.format = Ieee.single := rfl
theorem one_vTop : (one : Int) ≤ vTop := by
  obtain ⟨J, hJ⟩ : ∃ J : Nat, J = 1074 := ⟨_, rfl⟩
  rw [one_pow hJ]; unfold vTop
  rw [Nat.one_mul]
  exact Int.ofNat_le.2 (Nat.pow_le_pow_right (by omega) (by omega))

end Go.Proofs.Ytkcehbnmcdppkaa

/- Bytes that are appended to a list of one's own; contract: appendBytes. -/
namespace Go.Proofs.Ytkcehbnmcdppkaa
open Go.RowKit Fl
set_option linter.unusedVariables false

/-- Bytes, as cells. -/
def btL (L : List Int) : List Value := L.map (Value.int .u8)
theorem btL_len (L : List Int) : (btL L).length = L.length := by simp [btL]
theorem btL_app (L M : List Int) : btL (L ++ M) = btL L ++ btL M := by simp [btL]

theorem grownBy_on {w w1 w2 : World} {o : Option Nat} {g : Nat} (h : w.grownBy w1 o) (ho : o = some g ∨ w.heap.size ≤ g) (h2 : w1.grownBy w2 (some g)) : w.grownBy w2 o := by
  refine ⟨h2.os.trans h.os, h2.tape.trans h.tape, h2.output.trans h.output, Nat.le_trans h.size h2.size, fun i hi hne => ?_⟩
  rw [h2.block i (Nat.lt_of_lt_of_le hi h.size) ?_]
  · exact h.block i hi hne
  · rcases ho with rfl | hg
    · exact hne
    · intro c; have := Option.some.inj c; omega
theorem grownBy_below {w w1 w2 : World} {o : Option Nat} (h : w.grownBy w1 o) (h2 : Below w1.heap.size w1 w2) : w.grownBy w2 o :=
  ⟨h2.os.trans h.os, h2.tape.trans h.tape, h2.output.trans h.output, Nat.le_trans h.size h2.size, fun i hi hne => (h2.block i (Nat.lt_of_lt_of_le hi h.size)).trans (h.block i hi hne)⟩

/-- A list of bytes of one's own (from the block base on), since the world w0, in which it began as o0. -/
structure BtAt (w0 : World) (base : Nat) (o0 : Option Nat) (L : List Int) (ov : Value) (wr : World) : Prop where
  own : wr.ownsRow base 5 1 ov L.length (btL L)
  gr : w0.grownBy wr o0
  seat : ov.ownBlock = o0 ∨ ∃ g, ov.ownBlock = some g ∧ w0.heap.size ≤ g
  size : base ≤ wr.heap.size

theorem BtAt.push {w0 wr w5 w6 : World} {base g' cap' x : Nat} {o0 : Option Nat} {L : List Int} {ov : Value} {o : Obj} {B : List Int} (h : BtAt w0 base o0 L ov wr) (h5 : Below wr.heap.size wr w5)
    (hgrow : (w5.alloc o).grownBy w6 ov.ownBlock) (hat : ov.ownBlock = some g' ∨ g' = x) (hx : w5.heap.size ≤ x) (hown : w6.ownsRow base 5 1 (.slice (some ⟨g', 0, none⟩) (L.length + B.length) cap') (L.length + B.length) (btL L ++ btL B)) :
    BtAt w0 base o0 (L ++ B) (.slice (some ⟨g', 0, none⟩) (L.length + B.length) cap') w6 := by
  have g5 : w0.grownBy (w5.alloc o) o0 := grownBy_below (grownBy_below h.gr h5) (((Below.refl _ _).alloc (Nat.le_refl _) _))
  have s5 : wr.heap.size ≤ w5.heap.size := h5.size
  refine ⟨?_, ?_, ?_, ?_⟩
  · rw [List.length_append, btL_app]; exact hown
  · cases hv : ov.ownBlock with
    | none =>
      rw [hv] at hgrow
      exact ⟨hgrow.os.trans g5.os, hgrow.tape.trans g5.tape, hgrow.output.trans g5.output, Nat.le_trans g5.size hgrow.size, fun i hi hne => (hgrow.block i (Nat.lt_of_lt_of_le hi g5.size) (by simp)).trans (g5.block i hi hne)⟩
    | some g =>
      rw [hv] at hgrow
      refine grownBy_on g5 ?_ hgrow
      rcases h.seat with e | ⟨q, e, hq⟩
      · exact .inl (e.symm.trans hv)
      · rw [hv] at e; have := Option.some.inj e; exact .inr (by omega)
  · rcases hat with e | e
    · rcases h.seat with s | ⟨q, s, hq⟩
      · exact .inl (by rw [← s, e]; rfl)
      · exact .inr ⟨g', rfl, by rw [e] at s; have := Option.some.inj s; omega⟩
    · exact .inr ⟨g', rfl, by have := h.gr.size; omega⟩
  · have := hgrow.size
    rw [heap_size_alloc] at this
    have := h.size
    omega

/-- The lowest bytes of a number, the highest of them first. -/
def byteL (n : Nat) : Nat → List Int
  | 0 => []
  | k + 1 => ((n / 256 ^ k % 256 : Nat) : Int) :: byteL n k
theorem byteL_len (n : Nat) : ∀ k, (byteL n k).length = k
  | 0 => rfl
  | k + 1 => by simp [byteL, byteL_len n k]

theorem byte_eq (n k : Nat) : ((n / 256 ^ k % 256 : Nat) : Int) = (n : Int) / 2 ^ (8 * k) % 256 := by
  rw [Int.natCast_emod, Int.natCast_ediv, Int.natCast_pow, Int.pow_mul]
  rfl

set_option maxHeartbeats 1000000 in
set_option maxRecDepth 100000 in
theorem appendBytes_any (w0 : World) (base : Nat) (o0 : Option Nat) (L : List Int) (ov : Value) (n m : Nat) (w : World) (h : BtAt w0 base o0 L ov w) (hn : n < 4294967296) (hm : m ≤ 4) (hL : L.length ≤ 1073741824) :
    Calls Try.prog 130 #[ov, .int .u32 n, .int .i64 m] w fun e w' => ∃ ov', e = .returned ov' ∧ BtAt w0 base o0 (L ++ byteL n m) ov' w' := by
  have HB := Lib.hid h
  have hinfo : (Try.prog.info? 5).map (fun i => (i.zero, i.size, i.bytes)) = some (some (.int .u8 0), 1, 1) := by kernel_rfl
  obtain ⟨ti, hi, hz0, hz1, hz2⟩ := info_parts hinfo
  have HTI := Lib.hid hi
  have HL := Lib.hid hL
  clear h hinfo hi hL
  go_enter Try.func130, Try.ntmps130
  go_wp2
  go_loopw [0, 2] (fun t c wr => ∃ (k : Nat) (P : List Int), k ≤ m ∧ c = .int .i64 k ∧ P.length + k = m ∧ P ++ byteL n k = byteL n m ∧ BtAt w0 base o0 (L ++ P) t wr) (fun _ c _ => (intOf c).toNat)
  case atStart => exact ⟨m, [], Nat.le_refl _, rfl, by simp, rfl, by rw [List.append_nil]; exact HB.out⟩
  case round =>
    obtain ⟨k, P, hk, rfl, hP, hPe, hA⟩ := hrel
    have HA := Lib.hid hA
    have HPE := Lib.hid hPe
    have HPL := Lib.hid hP
    clear hA hPe hP
    cases k with
    | zero =>
      go_wp2
      go_ret
      refine ⟨_, rfl, ?_⟩
      have e := HPE.out
      rw [show byteL n 0 = [] from rfl, List.append_nil] at e
      rw [← e]
      exact HA.out
    | succ k =>
      have hi := HTI.out
      have HKE := Lib.hid (byte_eq n k)
      have HLT := Lib.hid (show (L ++ P).length + 1 ≤ 1073741840 by have := HL.out; have := HPL.out; simp; omega)
      go_wp2_with (at_builtin; go_loud (refine wpList_append_lies _ rfl _ _ _ rfl base 5 ti _ 1 1 Try.underlying153 hi hz0 hz1 hz2 rfl (by omega) u0 (L ++ P).length (btL (L ++ P)) (by rfl) (HA.out.own.alloc _) ⟨wr.heap.size, 0, none⟩ 1 1 [.int .u8 ((n : Int) / 2 ^ (8 * k) % 256)] (by rfl) (by rfl) (World.news_of_block (cs := #[.int .u8 ((n : Int) / 2 ^ (8 * k) % 256)]) (t := 5) (fr := (0, 0)) (heap_alloc_new wr _)) (by simp [Value.oneCell']) (by omega) (by have := HLT.out; unfold maxLen; omega) (by have := HLT.out; omega) (by have := HA.out.size; simp; omega) (wr.heap.size + 1) (by simp) ?_; intro g' cap' w6 hown6 hgrow hat hlt6; have HN6 := Lib.hid (BtAt.push (B := [(n : Int) / 2 ^ (8 * k) % 256]) HA.out (Below.refl _ _) hgrow hat (Nat.le_succ _) hown6); clear hown6 hgrow hat hlt6))
      go_roundw
      case rel =>
        refine ⟨k, P ++ [(n : Int) / 2 ^ (8 * k) % 256], by omega, rfl, by have := HPL.out; simp; omega, ?_, by rw [← List.append_assoc, ← List.length_append]; exact HN6.out⟩
        rw [List.append_assoc, ← HPE.out]
        show _ = P ++ (((n / 256 ^ k % 256 : Nat) : Int) :: byteL n k)
        rw [HKE.out]; rfl
      case measure => simp [intOf]
end Go.Proofs.Ytkcehbnmcdppkaa

/- Contract: layouts: what stands in the map for whole singles. -/
namespace Go.Proofs.Ytkcehbnmcdppkaa
open Go.RowKit Fl Go.Maps Go.ChangeMaps
set_option linter.unusedVariables false

abbrev fnV (n : Nat) : Value := .func (.func n) #[] #[]
abbrev pt (b : Nat) : Value := .pointer (some ⟨b, 0, none⟩)

theorem run_store_func {P : Program} {w : World} {a : Addr} {m : Mode} (f : Fn) (x y : Array Value) : (store a (.func f x y) m).run P w = stored P w a (.func f x y) m := run_store P w a _ m rfl

theorem keyLaw : Keyed Try.prog 3 := int_keyed Try.underlying3

theorem ins_any (w : World) (mb : Nat) (es : Array MapEntry) (cl : Nat) (n : Int) (v : Value) (hb : w.heap[mb]? = some (.map es cl)) (hn : (Lit.int .i64 n).wf = true) (hk : ∀ x ∈ es.toList, ∃ m, x.key = .int .i64 m ∧ (Lit.int .i64 m).wf = true ∧ m ≠ n) :
    ∃ w', (Instr.mapUpdate 151 (.map (some mb)) (.int .i64 n) v).run Try.prog w = .ok () w' ∧ w'.heap[mb]? = some (.map (es.push ⟨.int .i64 n, v, cl⟩) (cl + 1)) ∧ w.grownBy w' (some mb) := by
  have hkey := keyOf_int_mk (P := Try.prog) Try.underlying3 hn
  rcases keyLaw.find w hkey es.toList (fun x hx => by obtain ⟨m, e, h, _⟩ := hk x hx; exact ⟨_, by rw [e]; exact keyOf_int_mk Try.underlying3 h⟩) with ⟨h1, h2⟩ | ⟨j, e0, h1, h2, h3⟩
  · refine ⟨_, ?_, heap_setBlock_same hb _, ⟨rfl, rfl, rfl, by simp [setBlock], fun i _ hi => heap_setBlock_other hb _ (fun e => hi (by rw [e]))⟩⟩
    simp [Instr.mapUpdate, run_underlying Try.underlying151, MapKept.run_getObj_map hb, keyLaw.check w false hkey, h1, MapKept.run_setObj_map _ hb, Result.andThen, setBlock]
  · obtain ⟨m, e, _, hne⟩ := hk e0 (List.mem_of_getElem? h2)
    rw [e] at h3
    injection h3 with _ q
    exact absurd q hne

theorem look_any (w : World) (mb : Nat) (es : Array MapEntry) (cl : Nat) (n : Int) (e0 : MapEntry) (hb : w.heap[mb]? = some (.map es cl)) (hn : (Lit.int .i64 n).wf = true) (hk : ∀ x ∈ es.toList, ∃ m, x.key = .int .i64 m ∧ (Lit.int .i64 m).wf = true)
    (h0 : e0 ∈ es.toList) (hk0 : e0.key = .int .i64 n) (hu : ∀ x ∈ es.toList, x.key = .int .i64 n → x = e0) :
    (Instr.lookup 151 (.map (some mb)) (.int .i64 n) true).run Try.prog w = .ok (.tuple #[e0.val, .bool true]) w := by
  have hkey := keyOf_int_mk (P := Try.prog) Try.underlying3 hn
  rcases keyLaw.find w hkey es.toList (fun x hx => by obtain ⟨m, e, h⟩ := hk x hx; exact ⟨_, by rw [e]; exact keyOf_int_mk Try.underlying3 h⟩) with ⟨h1, h2⟩ | ⟨j, e1, h1, h2, h3⟩
  · exact absurd hk0 (h2 e0 h0)
  · obtain rfl := hu e1 (List.mem_of_getElem? h2) h3
    simp [Instr.lookup, run_underlying Try.underlying151, MapKept.run_getObj_map hb, keyLaw.check w _ hkey, h1, Result.andThen]

/-- A layout of codes. -/
structure CodV (w : World) (c : Int) (f g : Nat) (V : Value) (p q r : Nat) : Prop where
  val : V = .agg #[.bool false, .func (.func 178) #[] #[pt p, pt q, pt r], .func (.func 179) #[] #[pt p, pt r]]
  h1 : w.heap[p]? = some (.cells #[.int .i64 c] 3)
  h2 : w.heap[q]? = some (.cells #[fnV f] 29)
  h3 : w.heap[r]? = some (.cells #[fnV g] 94)
theorem CodV.stay {w w' : World} {c : Int} {f g : Nat} {V : Value} {p q r : Nat} (h : CodV w c f g V p q r) (hb : Below w.heap.size w w') : CodV w' c f g V p q r :=
  ⟨h.val, blkStay h.h1 hb, blkStay h.h2 hb, blkStay h.h3 hb⟩
theorem CodV.grown {w w' : World} {c : Int} {f g : Nat} {V : Value} {p q r m : Nat} (h : CodV w c f g V p q r) (hg : w.grownBy w' (some m)) (hp : p ≠ m) (hq : q ≠ m) (hr : r ≠ m) : CodV w' c f g V p q r := by
  have st : ∀ {b : Nat} {o : Obj}, w.heap[b]? = some o → b ≠ m → w'.heap[b]? = some o := fun {b o} hb hne => by
    rw [hg.block b ?_ (by simpa using hne)]; · exact hb
    rcases Nat.lt_or_ge b w.heap.size with l | l
    · exact l
    · rw [Array.getElem?_eq_none l] at hb; cases hb
  exact ⟨h.val, st h.h1 hp, st h.h2 hq, st h.h3 hr⟩

set_option maxHeartbeats 1000000 in
theorem byCodes_any (c : Int) (f g : Nat) (w : World) : Calls Try.prog 162 #[.int .i64 c, fnV f, fnV g] w fun e w' => ∃ V p q r, e = .returned V ∧ CodV w' c f g V p q r ∧ w.heap.size ≤ p ∧ w.heap.size ≤ q ∧ w.heap.size ≤ r ∧ Below w.heap.size w w' := by
  have RS := fun (w : World) (a : Addr) (m : Mode) f x y => run_store_func (P := Try.prog) (w := w) (a := a) (m := m) f x y
  go_enter Try.func162, Try.ntmps162
  go_wp2
  refine bodyPost_ret (v := .agg #[.bool false, .func (.func 178) #[] #[pt w.heap.size, pt (w.heap.size + 1), pt (w.heap.size + 2)], .func (.func 179) #[] #[pt w.heap.size, pt (w.heap.size + 2)]]) (by simp [results, Try.results162, go_sem]) rfl ⟨_, w.heap.size, w.heap.size + 1, w.heap.size + 2, rfl, ⟨rfl, ?_, ?_, ?_⟩, Nat.le_refl _, by omega, by omega, (by repeat (first | exact Below.refl _ _ | refine Below.alloc ?_ (by first | omega | (simp; done) | (simp; omega)) _ | refine Below.setCell ?_ (by first | omega | (simp; done) | (simp; omega)) _ | refine Below.drew ?_))⟩
  all_goals (first | (rw [heap_alloc_get, if_pos rfl]; done) | ((simp only [heap_alloc_get, heap_size_alloc, if_true]) <;> ((repeat' split) <;> first | rfl | omega)))
set_option maxHeartbeats 1000000 in
theorem byLevels_any (f g : Nat) (w : World) : Calls Try.prog 165 #[fnV f, fnV g] w fun e w' => ∃ V, e = .returned V ∧ Below w.heap.size w w' := by
  have RS := fun (w : World) (a : Addr) (m : Mode) f x y => run_store_func (P := Try.prog) (w := w) (a := a) (m := m) f x y
  go_enter Try.func165, Try.ntmps165
  go_wp2
  refine bodyPost_ret (v := .agg #[.bool true, .func (.func 181) #[] #[pt w.heap.size], .func (.func 182) #[] #[pt (w.heap.size + 1)]]) (by simp [results, Try.results165, go_sem]) rfl ⟨_, rfl, (by repeat (first | exact Below.refl _ _ | refine Below.alloc ?_ (by first | omega | (simp; done) | (simp; omega)) _ | refine Below.setCell ?_ (by first | omega | (simp; done) | (simp; omega)) _ | refine Below.drew ?_))⟩

/-- What layouts answers: its map, with the layout of whole singles at 1. -/
def LayPost (w : World) (e : Ending) (w' : World) : Prop :=
  ∃ mb V p q r, e = .returned (.map (some mb)) ∧ CodV w' 4 163 164 V p q r ∧ w.heap.size ≤ p ∧ w.heap.size ≤ q ∧ w.heap.size ≤ r ∧ Below w.heap.size w w' ∧
    (Instr.lookup 151 (.map (some mb)) (.int .i64 1) true).run Try.prog w' = .ok (.tuple #[V, .bool true]) w'

theorem grownBy_far {w w' : World} {m B : Nat} (h : w.grownBy w' (some m)) (hm : B ≤ m) (hB : B ≤ w.heap.size) : Below B w w' :=
  ⟨h.os, h.tape, h.output, h.size, fun j hj => h.block j (by omega) (by intro c; have := Option.some.inj c; omega)⟩

/-- At the k-th entry. -/
structure LyAt (w0 : World) (es : Array MapEntry) (cl : Nat) (w : World) : Prop where
  map : w.heap[w0.heap.size]? = some (.map es cl)
  bel : Below w0.heap.size w0 w
theorem LyAt.call {w0 w w' : World} {es : Array MapEntry} {cl : Nat} (h : LyAt w0 es cl w) (hb : Below w.heap.size w w') : LyAt w0 es cl w' := ⟨blkStay h.map hb, h.bel.trans (hb.mono h.bel.size)⟩
theorem LyAt.ins {w0 w : World} {es : Array MapEntry} {cl : Nat} (h : LyAt w0 es cl w) (n : Int) (v : Value) (hn : (Lit.int .i64 n).wf = true) (hk : ∀ x ∈ es.toList, ∃ m, x.key = .int .i64 m ∧ (Lit.int .i64 m).wf = true ∧ m ≠ n) :
    ∃ w', (Instr.mapUpdate 151 (.map (some w0.heap.size)) (.int .i64 n) v).run Try.prog w = .ok () w' ∧ LyAt w0 (es.push ⟨.int .i64 n, v, cl⟩) (cl + 1) w' ∧ w.grownBy w' (some w0.heap.size) := by
  obtain ⟨w', h1, h2, h3⟩ := ins_any w _ es cl n v h.map hn hk
  exact ⟨w', h1, ⟨h2, h.bel.trans (grownBy_far h3 (Nat.le_refl _) h.bel.size)⟩, h3⟩

/-- .. and the layout of whole singles is there. -/
structure LcAt (w0 : World) (es : Array MapEntry) (cl : Nat) (V : Value) (p q r : Nat) (w : World) : Prop where
  ly : LyAt w0 es cl w
  cod : CodV w 4 163 164 V p q r
  hp : w0.heap.size < p
  hq : w0.heap.size < q
  hr : w0.heap.size < r
theorem LcAt.step {w0 w w' : World} {es : Array MapEntry} {cl : Nat} {V : Value} {p q r : Nat} (h : LcAt w0 es cl V p q r w) (hb : Below w.heap.size w w') (n : Int) (v : Value) (hn : (Lit.int .i64 n).wf = true) (hk : ∀ x ∈ es.toList, ∃ m, x.key = .int .i64 m ∧ (Lit.int .i64 m).wf = true ∧ m ≠ n) :
    ∃ w2, (Instr.mapUpdate 151 (.map (some w0.heap.size)) (.int .i64 n) v).run Try.prog w' = .ok () w2 ∧ LcAt w0 (es.push ⟨.int .i64 n, v, cl⟩) (cl + 1) V p q r w2 := by
  obtain ⟨w2, h1, h2, h3⟩ := (h.ly.call hb).ins n v hn hk
  have := h.hp
  have := h.hq
  have := h.hr
  exact ⟨w2, h1, h2, (h.cod.stay hb).grown h3 (by omega) (by omega) (by omega), h.hp, h.hq, h.hr⟩

theorem key_ne {n : Int} {l : List Int} (h : n ∉ l) {es : List MapEntry} (he : es.map (·.key) = l.map (Value.int .i64)) (hw : ∀ m ∈ l, (Lit.int .i64 m).wf = true) : ∀ x ∈ es, ∃ m, x.key = .int .i64 m ∧ (Lit.int .i64 m).wf = true ∧ m ≠ n := by
  intro x hx
  have : x.key ∈ es.map (·.key) := List.mem_map.2 ⟨x, hx, rfl⟩
  rw [he] at this
  obtain ⟨m, hm, e⟩ := List.mem_map.1 this
  exact ⟨m, e.symm, hw m hm, fun c => h (c ▸ hm)⟩

set_option maxHeartbeats 4000000 in
set_option maxRecDepth 100000 in
theorem layouts_any (w : World) : Calls Try.prog 128 #[] w (LayPost w) := by
  have BC := Lib.hid byCodes_any
  have BL := Lib.hid byLevels_any
  have hmm := @run_makeMap Try.prog
  have L0 := Lib.hid (show LyAt w #[] 0 (w.alloc (.map #[] 0)) from ⟨by (first | (rw [heap_alloc_get, if_pos rfl]; done) | ((simp only [heap_alloc_get, heap_size_alloc, if_true]) <;> ((repeat' split) <;> first | rfl | omega))), (by repeat (first | exact Below.refl _ _ | refine Below.alloc ?_ (by first | omega | (simp; done) | (simp; omega)) _ | refine Below.setCell ?_ (by first | omega | (simp; done) | (simp; omega)) _ | refine Below.drew ?_))⟩)
  have Z0 := Lib.hid (show w.heap.size < (w.alloc (.map #[] 0)).heap.size by rw [heap_size_alloc]; omega)
  go_enter Try.func128, Try.ntmps128
  go_wp2_with (first
    | (go_at_call 162; (with_reducible refine (BC.out 4 _ _ _).mono ?_); rintro e w1 ⟨V1, p, q, r, rfl, hc1, hp, hq, hr, hb1⟩; obtain ⟨w2, I1, L2, G2⟩ := (L0.out.call hb1).ins 1 V1 rfl (by simp); have L2 := Lib.hid (show LcAt w _ _ V1 p q r w2 from ⟨L2, hc1.grown G2 (by have := Z0.out; omega) (by have := Z0.out; omega) (by have := Z0.out; omega), (by have := Z0.out; omega), (by have := Z0.out; omega), (by have := Z0.out; omega)⟩); clear hc1 hp hq hr hb1 G2)
    | (go_at_call 162; (with_reducible refine (BC.out 2 60 _ _).mono ?_); rintro e w3 ⟨V2, _, _, _, rfl, _, _, _, _, hb1⟩; obtain ⟨w4, I2, L4⟩ := L2.out.step hb1 2 V2 rfl (key_ne (l := [1]) (by decide) rfl (by decide)); have L4 := Lib.hid L4; clear hb1)
    | (go_at_call 162; (with_reducible refine (BC.out 2 16 _ _).mono ?_); rintro e w5 ⟨V3, _, _, _, rfl, _, _, _, _, hb1⟩; obtain ⟨w6, I3, L6⟩ := L4.out.step hb1 3 V3 rfl (key_ne (l := [1, 2]) (by decide) rfl (by decide)); have L6 := Lib.hid L6; clear hb1)
    | (go_at_call 165; (with_reducible refine (BL.out 166 _ _).mono ?_); rintro e w7 ⟨V4, rfl, hb1⟩; obtain ⟨w8, I4, L8⟩ := L6.out.step hb1 4 V4 rfl (key_ne (l := [1, 2, 3]) (by decide) rfl (by decide)); have L8 := Lib.hid L8; clear hb1)
    | (go_at_call 165; (with_reducible refine (BL.out 168 _ _).mono ?_); rintro e w9 ⟨V5, rfl, hb1⟩; obtain ⟨w10, I5, L10⟩ := L8.out.step hb1 5 V5 rfl (key_ne (l := [1, 2, 3, 4]) (by decide) rfl (by decide)); have L10 := Lib.hid L10; clear hb1))
  go_ret
  refine ⟨_, V1, p, q, r, rfl, L10.out.cod, Nat.le_of_lt L10.out.hp, Nat.le_of_lt L10.out.hq, Nat.le_of_lt L10.out.hr, L10.out.ly.bel, ?_⟩
  refine look_any w10 _ _ _ 1 _ L10.out.ly.map rfl (fun x hx => ?_) (List.mem_cons_self) rfl (fun x hx he => ?_)
  · obtain ⟨m, e, h, _⟩ := key_ne (n := 0) (l := [1, 2, 3, 4, 5]) (by decide) rfl (by decide) x hx
    exact ⟨m, e, h⟩
  · have hx' : x ∈ [MapEntry.mk (.int .i64 1) V1 0, ⟨.int .i64 2, V2, 1⟩, ⟨.int .i64 3, V3, 2⟩, ⟨.int .i64 4, V4, 3⟩, ⟨.int .i64 5, V5, 4⟩] := hx
    simp only [List.mem_cons, List.not_mem_nil, or_false] at hx'
    rcases hx' with rfl | rfl | rfl | rfl | rfl
    · rfl
    all_goals simp at he
end Go.Proofs.Ytkcehbnmcdppkaa

/- What the format of whole singles writes: layouts' first entry. -/
namespace Go.Proofs.Ytkcehbnmcdppkaa
open Go.RowKit Fl
set_option linter.unusedVariables false

theorem make0_byte (n : Nat) (hn : n ≤ 1073741824) (w : World) :
    (Instr.makeSlice 153 (.int .i64 0) (.int .i64 (n : Int))).run Try.prog w = .ok (.slice (some ⟨w.heap.size, 0, none⟩) 0 n) (w.alloc (.cells (madeCells #[Value.int .u8 0] n) 5)) := by
  have h : (Try.prog.info? 5).map (fun i => (i.zero, i.size, i.bytes)) = some (some (.int .u8 0), 1, 1) := by kernel_rfl
  obtain ⟨i0, hi, hz0, hz1, hz2⟩ := info_parts h
  have hr := run_make (P := Try.prog) w 153 5 i0 (.int .u8 0) Try.underlying153 hi hz0 .i64 .i64 0 n (by omega) (by omega) (by rw [hz2]; omega) (by omega)
  rw [hz1, Nat.mul_one, Int.toNat_natCast] at hr
  exact hr

/-- The bytes of the first k singles. -/
def fullL (v : Nat → Nat) : Nat → List Int
  | 0 => []
  | k + 1 => fullL v k ++ byteL (v k) 4
theorem fullL_len (v : Nat → Nat) : ∀ k, (fullL v k).length = 4 * k
  | 0 => rfl
  | k + 1 => by simp [fullL, fullL_len v k, byteL_len]; omega

set_option maxHeartbeats 400000 in
theorem layouts1_any (x : Nat) (hx : x < 4294967296) (w : World) : Calls Try.prog 163 #[.float .f32 x] w fun e w' => e = .returned (.int .i64 x) ∧ w = w' := by
  have h1 := f32bits
  go_enter Try.func163, Try.ntmps163
  go_wp2
  go_ret
  exact ⟨rfl, rfl⟩

set_option maxHeartbeats 400000 in
theorem layouts2_any (x : Nat) (hx : x < 4294967296) (w : World) : Calls Try.prog 164 #[.int .i64 x] w fun e w' => e = .returned (.float .f32 x) ∧ w = w' := by
  have h1 := f32from
  go_enter Try.func164, Try.ntmps164
  go_wp2
  go_ret
  exact ⟨rfl, rfl⟩

/-- A scaling. -/
abbrev scV (lo st : Nat) (bi : Int) : Value := .agg #[.float .f32 lo, .float .f32 st, .int .i64 bi]

theorem flAt_stay {w w' : World} {b off n : Nat} {v : Nat → Nat} (h : FlAt w b off n v) (hb : Below w.heap.size w w') : FlAt w' b off n v := fun i hi => by
  have := h i hi
  exact (Below.cell (p := ⟨b, off + i, none⟩) hb (World.block_lt_of_cell? w _ this)).trans this

/-- A list of bytes that a call has made. -/
def BtsPost (w : World) (L : List Int) (e : Ending) (w' : World) : Prop :=
  ∃ ov, e = .returned (.tuple #[ov, .bool true]) ∧ w'.ownsRow w.heap.size 5 1 ov L.length (btL L) ∧ Below w.heap.size w w'

set_option maxHeartbeats 1000000 in
set_option maxRecDepth 100000 in
theorem codes_any (b off n cap : Nat) (v : Nat → Nat) (lo st : Nat) (bi : Int) (p q r : Nat) (V : Value) (w : World) (hV : CodV w 4 163 164 V p q r) (hr : FlAt w b off n v) (hw : wf32 n v) (hf : ∀ i, i < n → finB (v i) = true) (h1 : 1 ≤ n) (h2 : n ≤ 65536) :
    Calls Try.prog 178 #[.slice (some ⟨b, off, none⟩) n cap, scV lo st bi, pt p, pt q, pt r] w (BtsPost w (fullL v n)) := by
  have hm : ∀ W : World, (Instr.makeSlice 153 (.int .i64 0) (.int .i64 (4 * (n : Int)))).run Try.prog W = .ok (.slice (some ⟨W.heap.size, 0, none⟩) 0 (4 * n)) (W.alloc (.cells (madeCells #[Value.int .u8 0] (4 * n)) 5)) := fun W => by
    have := make0_byte (4 * n) (by omega) W
    rwa [Int.natCast_mul] at this
  have HV := Lib.hid hV
  have HR := Lib.hid hr
  have HW := Lib.hid hw
  have HF := Lib.hid hf
  obtain ⟨c2, f2, z2⟩ := blkC hV.h1
  have H1 := Lib.hid h1
  have B1 := Lib.hid (show Below w.heap.size w ((w.alloc (.cells #[.float .f32 lo, .float .f32 st, .int .i64 bi] 36)).alloc (.cells (madeCells #[Value.int .u8 0] (4 * n)) 5)) from (by repeat (first | exact Below.refl _ _ | refine Below.alloc ?_ (by first | omega | (simp; done) | (simp; omega)) _ | refine Below.setCell ?_ (by first | omega | (simp; done) | (simp; omega)) _ | refine Below.drew ?_)))
  have A1 := Lib.hid (show BtAt ((w.alloc (.cells #[.float .f32 lo, .float .f32 st, .int .i64 bi] 36)).alloc (.cells (madeCells #[Value.int .u8 0] (4 * n)) 5)) w.heap.size (some (w.heap.size + 1)) [] (.slice (some ⟨w.heap.size + 1, 0, none⟩) 0 (4 * n)) ((w.alloc (.cells #[.float .f32 lo, .float .f32 st, .int .i64 bi] 36)).alloc (.cells (madeCells #[Value.int .u8 0] (4 * n)) 5)) from
    ⟨by
      have := World.ownsRow_made (w.alloc (.cells #[.float .f32 lo, .float .f32 st, .int .i64 bi] 36)) (base := w.heap.size) (e := 5) (size := 1) (madeCells #[Value.int .u8 0] (4 * n)) (4 * n) (by rw [heap_size_alloc]; omega) (by unfold maxLen; omega) (by simp [size_madeCells])
      rw [heap_size_alloc] at this
      exact this, ⟨rfl, rfl, rfl, Nat.le_refl _, fun _ _ _ => rfl⟩, .inl rfl, by simp; omega⟩)
  clear hV hr hw hf h1
  go_enter Try.func178, Try.ntmps178
  go_wp2
  generalize (w.alloc (.cells #[.float .f32 lo, .float .f32 st, .int .i64 bi] 36)).alloc (.cells (madeCells #[Value.int .u8 0] (4 * n)) 5) = w1 at *
  clear hm c2 f2 z2
  go_loopw [9, 20] (fun t i wr => ∃ k : Nat, k ≤ n ∧ i = .int .i64 k ∧ BtAt w1 w.heap.size (some (w.heap.size + 1)) (fullL v k) t wr) (fun _ i _ => n - (intOf i).toNat)
  case atStart => exact ⟨0, Nat.zero_le _, rfl, A1.out⟩
  case round =>
    obtain ⟨k, hk, rfl, hA⟩ := hrel
    have HA := Lib.hid hA
    have BW := Lib.hid (B1.out.trans (grownBy_far hA.gr (Nat.le_succ _) B1.out.size))
    clear hA
    by_cases hlt : k < n
    · have hcell := flAt_stay HR.out BW.out k hlt
      obtain ⟨c2, f2, z2⟩ := blkC (HV.out.stay BW.out).h1
      obtain ⟨c3, f3, z3⟩ := blkC (HV.out.stay BW.out).h2
      obtain ⟨c4, f4, z4⟩ := blkC (HV.out.stay BW.out).h3
      have hx := HW.out k hlt
      rcases step1 (v k) with ⟨_, _, X, e1, e2, e3⟩ | ⟨e1, _⟩ | ⟨e1, _⟩
      · have AB := Lib.hid (appendBytes_any w1 w.heap.size (some (w.heap.size + 1)) (fullL v k) · (v k) 4 wr · hx (by omega) (by rw [fullL_len]; omega))
        have HE := Lib.hid (show fullL v (k + 1) = fullL v k ++ byteL (v k) 4 from rfl)
        have d1 := fun (W : World) => run_convert_float_float (P := Try.prog) W 22 32 .f32 .f64 (v k) X (by kernel_rfl) Try.underlying32 e1
        have C1 := Lib.hid (fun w => layouts1_any (v k) hx w)
        have C2 := Lib.hid (fun w => layouts2_any (v k) hx w)
        have C3 := Lib.hid (fun w => isInf_any X false e2 e3 w)
        have HLT := Lib.hid hlt
        clear e1 e2 e3
        generalize v k = x at *
        go_wp2_with (first | (go_at_call 163; refine (C1.out _).mono ?_; rintro e w' ⟨rfl, rfl⟩) | (go_at_call 164; refine (C2.out _).mono ?_; rintro e w' ⟨rfl, rfl⟩) | (go_at_call 65; refine (C3.out _).mono ?_; rintro e w' ⟨rfl, rfl⟩) | (go_at_call 130; refine (AB.out _ HA.out).mono ?_; rintro e w6 ⟨ov', rfl, hA6⟩; have HA6 := Lib.hid hA6; clear hA6))
        go_roundw
        case rel => exact ⟨k + 1, HLT.out, by go_num, by rw [HE.out]; exact HA6.out⟩
        case measure => have := HLT.out; simp [intOf]; omega
      all_goals exfalso; rw [HF.out k hlt] at e1; cases e1
    · obtain rfl : k = n := by omega
      go_wp2
      go_ret2
      exact ⟨_, rfl, HA.out.own, BW.out⟩
end Go.Proofs.Ytkcehbnmcdppkaa

/- Whether a single is finite, whether it is a height, as the references of chapters 4 to 10 ask it: by comparisons. -/
namespace Go.Proofs.Ytkcehbnmcdppkaa.Fl
open Ieee

/-- A finite single passes all three tests. -/
theorem num_fin {x : Nat} (h : finB x = true) : (single.order x x == some .eq) = true ∧ (single.order x 2139095039 == some .gt) = false ∧ (single.order x 4286578687 == some .lt) = false := by
  unfold finB at h
  cases hv : vS x with
  | none => rw [hv] at h; cases h
  | some a =>
    obtain ⟨h1, h2⟩ := vS_le hv
    refine ⟨by rw [eql_val hv hv]; simp, by rw [gtr_val hv vS_max]; simp; omega, by rw [lss_val hv vS_min]; simp; omega⟩
/-- Any other falls at one of them. -/
theorem num_inf {x : Nat} (h : finB x = false) : (single.order x x == some .eq) = false ∨ ((single.order x x == some .eq) = true ∧ (single.order x 2139095039 == some .gt) = true) ∨
    ((single.order x x == some .eq) = true ∧ (single.order x 2139095039 == some .gt) = false ∧ (single.order x 4286578687 == some .lt) = true) := by
  unfold finB at h
  cases hv : vS x with
  | some a => rw [hv] at h; cases h
  | none =>
    rcases vS_none hv with ⟨s, hs⟩ | hn
    · right
      have e := self_eq (x := x) (by rw [hs]; rfl)
      cases s with
      | false => exact .inl ⟨e, by unfold Format.order; rw [hs, readMax]; rfl⟩
      | true => exact .inr ⟨e, by unfold Format.order; rw [hs, readMax]; rfl, by unfold Format.order; rw [hs, readMin]; rfl⟩
    · exact .inl (self_ne hn)
/-- A height passes both tests. -/
theorem num_hgt {x : Nat} (h : hgtB x = true) : (single.order x 1233125376 == some .gt) = false ∧ (single.order x 3380609024 == some .lt) = false := by
  unfold hgtB at h
  cases hv : vS x with
  | none => rw [hv] at h; cases h
  | some a =>
    rw [hv] at h
    simp at h
    refine ⟨by rw [gtr_val hv vS_top]; simp; omega, by rw [lss_val hv vS_bot]; simp; omega⟩
/-- A finite single that is none falls at one. -/
theorem num_out {x : Nat} (f : finB x = true) (h : hgtB x = false) : (single.order x 1233125376 == some .gt) = true ∨ ((single.order x 1233125376 == some .gt) = false ∧ (single.order x 3380609024 == some .lt) = true) := by
  unfold finB at f
  unfold hgtB at h
  cases hv : vS x with
  | none => rw [hv] at f; cases f
  | some a =>
    rw [hv] at h
    simp at h
    rw [gtr_val hv vS_top, lss_val hv vS_bot]
    by_cases c : vTop < a
    · exact .inl (by simp [c])
    · exact .inr ⟨by simp [c], by simp; by_cases d : -vTop ≤ a; have := h d; omega; omega⟩
end Go.Proofs.Ytkcehbnmcdppkaa.Fl

/- Contract: the references' NumberError over a list of singles that is known cell by cell. -/
namespace Go.Proofs.Ytkcehbnmcdppkaa
open Go.RowKit Fl
set_option linter.unusedVariables false

set_option maxHeartbeats 2000000 in
theorem qNumberError_row (b off cap n : Nat) (v : Nat → Nat) (hl : n ≤ 9223372036854775807) (w : World) (hc : FlAt w b off n v) :
    Calls Try.prog 24 #[.slice (some ⟨b, off, none⟩) n cap] w fun e w' => e = .returned (.int .i64 (fldE n v)) ∧ w = w' := by
  go_enter Try.func24, Try.ntmps24
  go_wp2
  go_loop [9] (fun i => ∃ k : Nat, k ≤ n ∧ i = .int .i64 k ∧ allB k (fun i => finB (v i)) = true) (fun i => n - (intOf i).toNat)
  case atStart => exact ⟨0, Nat.zero_le _, rfl, rfl⟩
  case round =>
    obtain ⟨k, hk, rfl, hall⟩ := hrel
    have HA := Lib.hid hall
    clear hall
    by_cases hlt : k < n
    · have hcell := hc k hlt
      cases hf : finB (v k) with
      | true =>
        have HB := Lib.hid hf
        obtain ⟨t1, t2, t3⟩ := num_fin hf
        rw [← f32fmt] at t1 t2 t3
        have t1' : (FloatKind.f32.format.order (v k) (v k) != some .eq) = false := by rw [bne, t1]; rfl
        clear hf t1
        go_wp2
        go_round
        case rel => exact ⟨k + 1, by omega, by go_num, allB_iff.2 fun i hi => by rcases Nat.lt_or_ge i k with c | c; exact allB_iff.1 HA.out i c; rw [show i = k by omega]; exact HB.out⟩
        case measure => simp [intOf]; omega
      | false =>
        have HB := Lib.hid hf
        rcases num_inf hf with t1 | ⟨t1, t2⟩ | ⟨t1, t2, t3⟩
        · rw [← f32fmt] at t1
          have t1' : (FloatKind.f32.format.order (v k) (v k) != some .eq) = true := by rw [bne, t1]; rfl
          clear hf t1
          go_wp2
          go_ret
          exact ⟨ret_int (by unfold fldE; rw [allB_no hlt HB.out]; rfl), rfl⟩
        · rw [← f32fmt] at t1 t2
          have t1' : (FloatKind.f32.format.order (v k) (v k) != some .eq) = false := by rw [bne, t1]; rfl
          clear hf t1
          go_wp2
          go_ret
          exact ⟨ret_int (by unfold fldE; rw [allB_no hlt HB.out]; rfl), rfl⟩
        · rw [← f32fmt] at t1 t2 t3
          have t1' : (FloatKind.f32.format.order (v k) (v k) != some .eq) = false := by rw [bne, t1]; rfl
          clear hf t1
          go_wp2
          go_ret
          exact ⟨ret_int (by unfold fldE; rw [allB_no hlt HB.out]; rfl), rfl⟩
    · have hkn : k = n := by omega
      subst hkn
      go_wp2
      go_loop [27] (fun i => ∃ j : Nat, j ≤ k ∧ i = .int .i64 j ∧ allB j (fun i => hgtB (v i)) = true) (fun i => k - (intOf i).toNat)
      case atStart => exact ⟨0, Nat.zero_le _, rfl, rfl⟩
      case round =>
        obtain ⟨j, hj, rfl, hall2⟩ := hrel
        have HH := Lib.hid hall2
        clear hall2
        by_cases hlt2 : j < k
        · have hcell := hc j hlt2
          cases hb : hgtB (v j) with
          | true =>
            have HB := Lib.hid hb
            obtain ⟨t1, t2⟩ := num_hgt hb
            rw [← f32fmt] at t1 t2
            clear hb
            go_wp2
            go_round
            case rel => exact ⟨j + 1, by omega, by go_num, allB_iff.2 fun i hi => by rcases Nat.lt_or_ge i j with c | c; exact allB_iff.1 HH.out i c; rw [show i = j by omega]; exact HB.out⟩
            case measure => simp [intOf]; omega
          | false =>
            have HB := Lib.hid hb
            rcases num_out (allB_iff.1 HA.out j hlt2) hb with t1 | ⟨t1, t2⟩
            · rw [← f32fmt] at t1
              clear hb
              go_wp2
              go_ret
              exact ⟨ret_int (by unfold fldE hgtE; rw [HA.out, allB_no hlt2 HB.out]; rfl), rfl⟩
            · rw [← f32fmt] at t1 t2
              clear hb
              go_wp2
              go_ret
              exact ⟨ret_int (by unfold fldE hgtE; rw [HA.out, allB_no hlt2 HB.out]; rfl), rfl⟩
        · go_wp2
          go_ret
          have : j = k := by omega
          subst this
          exact ⟨ret_int (by unfold fldE hgtE; rw [HA.out, HH.out]; rfl), rfl⟩
end Go.Proofs.Ytkcehbnmcdppkaa

/- Contracts: the errors of a scaling, both sides. -/
namespace Go.Proofs.Ytkcehbnmcdppkaa
open Go.RowKit Fl
set_option linter.unusedVariables false

/-- The error of a scaling. -/
def sclE (lo st : Nat) (bi : Int) : Int :=
  if fldE 2 (two lo st) ≠ 0 then fldE 2 (two lo st) else if (FloatKind.f32.format.order st 0 == some .gt) = true ∧ withinB bi 1 24 = true then 0 else 3
theorem sclE_zero {lo st : Nat} {bi : Int} (h : sclE lo st bi = 0) : hgtB lo = true ∧ hgtB st = true ∧ (∃ a, vS st = some a ∧ 0 < a) ∧ 1 ≤ bi ∧ bi ≤ 24 := by
  unfold sclE at h
  by_cases h0 : fldE 2 (two lo st) = 0
  · rw [if_neg (by simp [h0])] at h
    obtain ⟨g1, g2⟩ := two_hgt h0
    by_cases c : (FloatKind.f32.format.order st 0 == some .gt) = true ∧ withinB bi 1 24 = true
    · obtain ⟨c1, c2⟩ := c
      obtain ⟨b1, b2⟩ := withinB_iff.1 c2
      have hf := hgt_fin g2
      unfold finB at hf
      obtain ⟨a, ha⟩ := Option.isSome_iff_exists.1 hf
      rw [f32fmt, gtr_val ha vS_zero] at c1
      exact ⟨g1, g2, ⟨a, ha, by simpa using c1⟩, b1, b2⟩
    · rw [if_neg c] at h; omega
  · rw [if_pos h0] at h; exact absurd h h0

theorem leq_of_gtr (st : Nat) (h : finB st = true) : (FloatKind.f32.format.order st 0 == some .lt || FloatKind.f32.format.order st 0 == some .eq) = !(FloatKind.f32.format.order st 0 == some .gt) := by
  unfold finB at h
  obtain ⟨a, ha⟩ := Option.isSome_iff_exists.1 h
  rw [f32fmt, leq_val ha vS_zero, gtr_val ha vS_zero, Bool.eq_iff_iff]
  simp

set_option maxHeartbeats 1000000 in
set_option maxRecDepth 100000 in
theorem checkScale_any (lo st : Nat) (bi : Int) (w : World) :
    Calls Try.prog 25 #[scV lo st bi] w fun e w' => e = .returned (.int .i64 (sclE lo st bi)) ∧ Below w.heap.size w w' := by
  have CH := Lib.hid (fun bb W' (hb : W'.heap[bb]? = some (.cells #[.float .f32 lo, .float .f32 st] 22)) => CheckHeights_row bb 0 2 2 (two lo st) (by omega) W' (flAt_two hb))
  have WI := Lib.hid (fun w => within_any bi 1 24 w)
  unfold sclE
  by_cases h0 : fldE 2 (two lo st) = 0
  · rw [if_neg (by simp [h0])]
    have hfin := hgt_fin (two_hgt h0).2
    rw [h0] at CH
    clear h0
    cases hb : withinB bi 1 24
    all_goals
      rw [hb] at WI
      clear hb
      cases hg : (FloatKind.f32.format.order st 0 == some .gt)
      all_goals
        have hle := leq_of_gtr st hfin
        rw [hg] at hle
        clear hg
        go_enter Try.func25, Try.ntmps25
        go_wp2_with (first
          | (go_at_call 76; go_loud (refine (CH.out _ _ (by (first | (rw [heap_alloc_get, if_pos rfl]; done) | ((simp only [heap_alloc_get, heap_size_alloc, if_true]) <;> ((repeat' split) <;> first | rfl | omega))))).mono ?_; rintro e w2 ⟨rfl, rfl⟩))
          | (go_at_call 79; refine (WI.out _).mono ?_; rintro e w2 ⟨rfl, rfl⟩))
        go_ret
        exact ⟨rfl, (by repeat (first | exact Below.refl _ _ | refine Below.alloc ?_ (by first | omega | (simp; done) | (simp; omega)) _ | refine Below.setCell ?_ (by first | omega | (simp; done) | (simp; omega)) _ | refine Below.drew ?_))⟩
  · rw [if_pos h0]
    have h1 : (fldE 2 (two lo st) != 0) = true := by simpa using h0
    generalize fldE 2 (two lo st) = er at *
    clear h0
    go_enter Try.func25, Try.ntmps25
    go_wp2_with (go_at_call 76; go_loud (refine (CH.out _ _ (by (first | (rw [heap_alloc_get, if_pos rfl]; done) | ((simp only [heap_alloc_get, heap_size_alloc, if_true]) <;> ((repeat' split) <;> first | rfl | omega))))).mono ?_; rintro e w2 ⟨rfl, rfl⟩))
    go_ret
    exact ⟨rfl, (by repeat (first | exact Below.refl _ _ | refine Below.alloc ?_ (by first | omega | (simp; done) | (simp; omega)) _ | refine Below.setCell ?_ (by first | omega | (simp; done) | (simp; omega)) _ | refine Below.drew ?_))⟩

set_option maxHeartbeats 1000000 in
set_option maxRecDepth 100000 in
theorem scaleError_any (lo st : Nat) (bi : Int) (w : World) :
    Calls Try.prog 23 #[scV lo st bi] w fun e w' => e = .returned (.int .i64 (sclE lo st bi)) ∧ Below w.heap.size w w' := by
  have CH := Lib.hid (fun bb W' (hb : W'.heap[bb]? = some (.cells #[.float .f32 lo, .float .f32 st] 22)) => qNumberError_row bb 0 2 2 (two lo st) (by omega) W' (flAt_two hb))
  unfold sclE
  by_cases h0 : fldE 2 (two lo st) = 0
  · rw [if_neg (by simp [h0])]
    have hfin := hgt_fin (two_hgt h0).2
    rw [h0] at CH
    clear h0
    have hb3 : (withinB bi 1 24 = true ∧ 1 ≤ bi ∧ bi ≤ 24) ∨ (withinB bi 1 24 = false ∧ bi < 1) ∨ (withinB bi 1 24 = false ∧ ¬ bi < 1 ∧ 24 < bi) := by
      cases hb : withinB bi 1 24 with
      | true => obtain ⟨b1, b2⟩ := withinB_iff.1 hb; exact .inl ⟨rfl, b1, b2⟩
      | false =>
        have : ¬ (1 ≤ bi ∧ bi ≤ 24) := fun h => by rw [withinB_iff.2 h] at hb; cases hb
        rcases Int.lt_or_le bi 1 with c | c
        · exact .inr (.inl ⟨rfl, c⟩)
        · exact .inr (.inr ⟨rfl, by omega, by omega⟩)
    rcases hb3 with ⟨hb, b1, b2⟩ | ⟨hb, b1⟩ | ⟨hb, b1, b2⟩
    all_goals
      rw [hb]
      clear hb
      cases hg : (FloatKind.f32.format.order st 0 == some .gt)
      all_goals
        clear hfin
        go_enter Try.func23, Try.ntmps23
        go_wp2_with (go_at_call 24; go_loud (refine (CH.out _ _ (by (first | (rw [heap_alloc_get, if_pos rfl]; done) | ((simp only [heap_alloc_get, heap_size_alloc, if_true]) <;> ((repeat' split) <;> first | rfl | omega))))).mono ?_; rintro e w2 ⟨rfl, rfl⟩))
        go_ret
        exact ⟨rfl, (by repeat (first | exact Below.refl _ _ | refine Below.alloc ?_ (by first | omega | (simp; done) | (simp; omega)) _ | refine Below.setCell ?_ (by first | omega | (simp; done) | (simp; omega)) _ | refine Below.drew ?_))⟩
  · rw [if_pos h0]
    have h1 : (fldE 2 (two lo st) != 0) = true := by simpa using h0
    generalize fldE 2 (two lo st) = er at *
    clear h0
    go_enter Try.func23, Try.ntmps23
    go_wp2_with (go_at_call 24; go_loud (refine (CH.out _ _ (by (first | (rw [heap_alloc_get, if_pos rfl]; done) | ((simp only [heap_alloc_get, heap_size_alloc, if_true]) <;> ((repeat' split) <;> first | rfl | omega))))).mono ?_; rintro e w2 ⟨rfl, rfl⟩))
    go_ret
    exact ⟨rfl, (by repeat (first | exact Below.refl _ _ | refine Below.alloc ?_ (by first | omega | (simp; done) | (simp; omega)) _ | refine Below.setCell ?_ (by first | omega | (simp; done) | (simp; omega)) _ | refine Below.drew ?_))⟩
end Go.Proofs.Ytkcehbnmcdppkaa

/- The floor of a single, by the model's own rounding of a double to a whole number. -/
namespace Go.Proofs.Ytkcehbnmcdppkaa.Fl
open Ieee

/-- Down to a whole number: the magnitude. -/
theorem cut_down (s : Bool) (M k : Nat) : Toward.down.cut s M k = M / 2 ^ k + (s && decide (M % 2 ^ k ≠ 0)).toNat := by
  unfold Toward.cut
  simp only [Nat.one_shiftLeft]
  rcases Nat.le_total k (M.log2 + 2) with c | c
  · rw [Nat.min_eq_left c]
    congr 2
    simp [bne, BEq.beq]
  · rw [Nat.min_eq_right c]
    have h : M < 2 ^ (M.log2 + 2) := by
      rcases Nat.eq_zero_or_pos M with z | z
      · subst z; exact Nat.two_pow_pos _
      · exact Nat.lt_trans (Nat.lt_log2_self) (Nat.pow_lt_pow_right (by omega) (by omega))
    have h' : M < 2 ^ k := Nat.lt_of_lt_of_le h (Nat.pow_le_pow_right (by omega) c)
    rw [Nat.div_eq_of_lt h, Nat.div_eq_of_lt h', Nat.mod_eq_of_lt h, Nat.mod_eq_of_lt h']
    congr 2
    simp [bne, BEq.beq]

/-- The whole part of a double's magnitude, rounded down. -/
theorem integral_down {s : Bool} {M : Nat} {I : Int} {A : Nat} (hI : -1074 ≤ I) (hA : M * 2 ^ (I + 1074).toNat = A) :
    (Datum.number s M I).integral .down = .number s (A / one + (s && decide (A % one ≠ 0)).toNat) 0 := by
  show Datum.number s (Toward.down.cut s (M <<< I.toNat) (-I).toNat) 0 = _
  rw [cut_down, Nat.shiftLeft_eq]
  congr 1
  obtain ⟨j, hj⟩ : ∃ j : Nat, j = 1074 := ⟨_, rfl⟩
  rcases Int.le_total 0 I with c | c
  · have e : (I + 1074).toNat = I.toNat + j := by omega
    rw [e, Nat.pow_add, ← Nat.mul_assoc] at hA
    rw [show (-I).toNat = 0 by omega, Nat.pow_zero, Nat.div_one, Nat.mod_one, ← hA, one_pow hj, Nat.mul_div_cancel _ (Nat.two_pow_pos j), Nat.mul_mod_left]
  · obtain ⟨k, hk⟩ : ∃ k : Nat, k = (-I).toNat := ⟨_, rfl⟩
    have eo : one = 2 ^ k * 2 ^ (I + 1074).toNat := one_split (by omega)
    have p : 0 < 2 ^ (I + 1074).toNat := Nat.two_pow_pos _
    have hdec : decide (M % 2 ^ k * 2 ^ (I + 1074).toNat ≠ 0) = decide (M % 2 ^ k ≠ 0) := by
      generalize 2 ^ (I + 1074).toNat = P at *
      rw [decide_eq_decide]
      constructor
      · intro h h'; exact h (by rw [h', Nat.zero_mul])
      · intro h h'
        rcases Nat.mul_eq_zero.1 h' with x | x
        · exact h x
        · omega
    rw [show I.toNat = 0 by omega, Nat.pow_zero, Nat.mul_one, ← hk, ← hA, eo, Nat.mul_div_mul_right _ _ p, Nat.mul_mod_mul_right, hdec]

/-- The floor of a value. -/
def flV (a : Int) : Int := a / (one : Int) * (one : Int)

theorem fl_sign {O A : Nat} (hO : 0 < O) {s : Bool} {a : Int} (ha : a = (if s then -1 else 1) * (A : Int)) : (if s then -1 else 1) * (((A / O + (s && decide (A % O ≠ 0)).toNat) * O : Nat) : Int) = a / (O : Int) * (O : Int) := by
  have hd := Nat.div_add_mod A O
  have hr := Nat.mod_lt A hO
  have key : a / (O : Int) = (if s then -1 else 1) * ((A / O + (s && decide (A % O ≠ 0)).toNat : Nat) : Int) := by
    cases s with
    | false =>
      simp at ha ⊢
      rw [ha]
    | true =>
      generalize A / O = q at *
      generalize A % O = r at *
      simp only [if_true, Bool.true_and] at *
      have e : (A : Int) = (O : Int) * (q : Int) + (r : Int) := by rw [← Int.natCast_mul, ← Int.natCast_add, hd]
      rw [ha, e]
      by_cases z : r = 0
      · subst z
        have : (-1 : Int) * ((O : Int) * (q : Int) + ((0 : Nat) : Int)) = (O : Int) * (-(q : Int)) := by grind
        rw [this, Int.mul_ediv_cancel_left _ (by omega)]; simp
      · have : (-1 : Int) * ((O : Int) * (q : Int) + (r : Int)) = ((O : Int) - r) + (O : Int) * (-((q : Int) + 1)) := by grind
        rw [this, Int.add_mul_ediv_left _ _ (by omega), Int.ediv_eq_zero_of_lt (by omega) (by omega)]
        simp [z]
  rw [key, Int.natCast_mul, Int.mul_assoc]

theorem flV_sign {s : Bool} {A : Nat} {a : Int} (ha : a = (if s then -1 else 1) * (A : Int)) : (if s then -1 else 1) * (((A / one + (s && decide (A % one ≠ 0)).toNat) * one : Nat) : Int) = flV a := fl_sign one_pos ha

theorem whole_small {O A c : Nat} (hO : 0 < O) (h : c = A / O ∨ c = A / O + 1) : c * O ≤ A + O := by
  have hd := Nat.div_add_mod A O
  rcases h with rfl | rfl
  · rw [Nat.mul_comm]; omega
  · rw [Nat.succ_mul, Nat.mul_comm]; omega

/-- The word of a floor. -/
def flW (x : Nat) : Nat := ((Go.floatToFloatBits .f32 x .f64).bind fun X => Go.floatToFloatBits .f64 (double.write ((double.read X).integral .down)) .f32).getD 0

theorem floor_parts2 {x : Nat} {a : Int} {k : Nat} (h : vS x = some a) (hb : Bd k x) (hk : k ≤ 124) :
    ∃ X s M I F, Go.floatToFloatBits .f32 x .f64 = some X ∧ double.read X = .number s M I ∧ double.write ((double.read X).integral .down) = F ∧ Go.floatToFloatBits .f64 F .f32 = some (flW x) ∧ vS (flW x) = some (flV a) := by
  obtain ⟨s, m, p, e, rfl⟩ := vS_some h
  obtain ⟨X, M, I, c1, c2, c3, c4, _⟩ := toD e
  obtain ⟨A, hA⟩ : ∃ A, A = m * 2 ^ (p + 1074).toNat := ⟨_, rfl⟩
  have hv : vOf s m p = (if s then -1 else 1) * (A : Int) := by unfold vOf; rw [signed_eq, hA]
  have hbA : A ≤ 2 ^ (1074 + k) := by
    obtain ⟨s', m', p', e', b'⟩ := hb
    rw [e] at e'; cases e'
    rw [hA]; exact b'
  obtain ⟨t, j, ht, hj, hform⟩ := vS_form h
  have hAf : A = t.natAbs * 2 ^ j := by
    have := congrArg Int.natAbs hform
    rw [hv, Int.natAbs_mul, Int.natAbs_mul, Int.natAbs_natCast, Int.natAbs_natCast] at this
    cases s <;> simpa using this
  rw [← hA] at c4
  have hi := integral_down (s := s) c3 c4
  obtain ⟨c, hc⟩ : ∃ c, c = A / one + (s && decide (A % one ≠ 0)).toNat := ⟨_, rfl⟩
  rw [← hc] at hi
  obtain ⟨J, hJ⟩ : ∃ J : Nat, J = 1074 := ⟨_, rfl⟩
  have hw : double.write ((double.read X).integral .down) = wordAt double 0 s (c * one) := by
    rw [c2, hi]
    show double.nearest s c 0 = _
    rw [nearest_val double s (-1074) 0 leastD c (p := 0) (by omega), one_pow hJ, show ((0 : Int) - (-1074)).toNat = J by omega]
  -- the magnitude of the floor is a single's
  have hrep : ∃ u i, u < 16777216 ∧ 925 ≤ i ∧ c * one = u * 2 ^ i := by
    by_cases z : A % one = 0
    · refine ⟨t.natAbs, j, ht, hj, ?_⟩
      rw [← hAf, hc, z]
      have := Nat.div_add_mod A one
      rw [z, Nat.add_zero, Nat.mul_comm] at this
      simp [this]
    · have hj2 : j < J := by
        rcases Nat.lt_or_ge j J with q | q
        · exact q
        · exfalso; apply z
          have : A = t.natAbs * 2 ^ (j - J) * one := by rw [hAf, one_pow hJ, Nat.mul_assoc, ← Nat.pow_add, Nat.sub_add_cancel q]
          rw [this, Nat.mul_mod_left]
      have hlt : A < 8388608 * one := by
        have e1 : one = 2 * 2 ^ (J - 1) := by rw [one_pow hJ, ← Nat.pow_succ']; congr 1; omega
        rw [hAf, e1]
        have e2 : 2 ^ j ≤ 2 ^ (J - 1) := Nat.pow_le_pow_right (by omega) (by omega)
        have p1 : 0 < 2 ^ (J - 1) := Nat.two_pow_pos _
        calc t.natAbs * 2 ^ j ≤ t.natAbs * 2 ^ (J - 1) := Nat.mul_le_mul_left _ e2
          _ < 16777216 * 2 ^ (J - 1) := Nat.mul_lt_mul_of_pos_right ht p1
          _ = 8388608 * (2 * 2 ^ (J - 1)) := by rw [← Nat.mul_assoc]
      refine ⟨c, J, ?_, by omega, by rw [one_pow hJ]⟩
      have hq : A / one < 8388608 := Nat.div_lt_of_lt_mul (by rw [Nat.mul_comm]; exact hlt)
      have hb1 : (s && decide (A % one ≠ 0)).toNat ≤ 1 := Bool.toNat_le _
      generalize A / one = Q at *
      generalize (s && decide (A % one ≠ 0)).toNat = B1 at *
      omega
  obtain ⟨u, i, hu, hi2, hcu⟩ := hrep
  have hV : c * one < 2 ^ (1074 + k + 1 + 1) := by
    have hb1 : c = A / one ∨ c = A / one + 1 := by
      rw [hc]; cases (s && decide (A % one ≠ 0)) <;> simp
    have h1 := whole_small one_pos hb1
    have h2 : one ≤ 2 ^ (1074 + k) := by rw [one_pow hJ]; exact Nat.pow_le_pow_right (by omega) (by omega)
    rw [Nat.pow_succ, Nat.pow_succ]
    have p1 : 0 < 2 ^ (1074 + k) := Nat.two_pow_pos _
    generalize 2 ^ (1074 + k) = T at *
    generalize c * one = CO at *
    generalize one = O at *
    omega
  have hround : sRung (dVal (c * one)) = sRung (c * one) := by
    rw [hcu]; exact exact_round (Nat.lt_of_lt_of_le hu (by decide))
  have hback := back (sg := s) hV (by omega) hround
  have hfl : flW x = wordAt single 925 s (c * one) := by
    unfold flW
    rw [c1]
    show (Go.floatToFloatBits .f64 (double.write ((double.read X).integral .down)) .f32).getD 0 = _
    rw [hw, hback]; rfl
  refine ⟨X, s, M, I, _, c1, c2, rfl, by rw [hw, hback, hfl], ?_⟩
  rw [hfl, vS_word hV (by omega), hcu, rd_exact single 925 u i (by rw [fbS]; exact hu) hi2, ← hcu, hc, flV_sign hv]

theorem floor_parts {x : Nat} {a : Int} {k : Nat} (h : vS x = some a) (hb : Bd k x) (hk : k ≤ 50) :
    ∃ X s M I F, Go.floatToFloatBits .f32 x .f64 = some X ∧ double.read X = .number s M I ∧ double.write ((double.read X).integral .down) = F ∧ Go.floatToFloatBits .f64 F .f32 = some (flW x) ∧ vS (flW x) = some (flV a) := floor_parts2 h hb (by omega)

end Go.Proofs.Ytkcehbnmcdppkaa.Fl

/- Contracts: math.Floor, and the floors of both sides. -/
namespace Go.Proofs.Ytkcehbnmcdppkaa
open Go.RowKit Fl
set_option linter.unusedVariables false

theorem toIntegral_num (X : Nat) (d : Ieee.Datum) (h : FloatKind.f64.decode X = d) (hd : ∃ s M I, d = .number s M I) :
    Extern.MathFloor.toIntegral "math.archFloor" .down #[.float .f64 X] = pure (.float .f64 (FloatKind.f64.encode (d.integral .down))) := by
  obtain ⟨s, M, I, rfl⟩ := hd
  conv => lhs; whnf
  rw [h]

theorem archFloor_num (X : Nat) (s : Bool) (M : Nat) (I : Int) (h : Ieee.double.read X = .number s M I) (w : World) :
    (callFunc 186 #[.float .f64 X]).run Try.prog w = .ok (.value (.float .f64 (Ieee.double.write ((Ieee.double.read X).integral .down)))) w := by
  rw [run_callFunc_extern Try.func186 (by kernel_rfl) (by kernel_rfl) (by kernel_rfl) (e := Extern.MathFloor.toIntegral "math.archFloor" .down) (by kernel_rfl), toIntegral_num X _ rfl ⟨s, M, I, h⟩]
  rfl

set_option maxHeartbeats 400000 in
theorem mathFloor_num (X F : Nat) (s : Bool) (M : Nat) (I : Int) (h : Ieee.double.read X = .number s M I) (hF : Ieee.double.write ((Ieee.double.read X).integral .down) = F) (w : World) :
    Calls Try.prog 171 #[.float .f64 X] w fun e w' => e = .returned (.float .f64 F) ∧ w = w' := by
  have a1 := archFloor_num X s M I h
  rw [hF] at a1
  clear h hF
  go_enter Try.func171, Try.ntmps171
  go_wp2
  go_ret
  exact ⟨rfl, rfl⟩

set_option maxHeartbeats 400000 in
theorem floor_any (x k : Nat) (a : Int) (h : vS x = some a) (hb : Bd k x) (hk : k ≤ 50) (w : World) :
    Calls Try.prog 137 #[.float .f32 x] w fun e w' => e = .returned (.float .f32 (flW x)) ∧ w = w' := by
  obtain ⟨X, s, M, I, F, c1, c2, c3, c4, _⟩ := floor_parts h hb hk
  have d1 := fun (W : World) => run_convert_float_float (P := Try.prog) W 22 32 .f32 .f64 x X (by kernel_rfl) Try.underlying32 c1
  have d2 := fun (W : World) => run_convert_float_float (P := Try.prog) W 32 22 .f64 .f32 F (flW x) (by kernel_rfl) Try.underlying22 c4
  have MF := Lib.hid (fun w => mathFloor_num X F s M I c2 c3 w)
  clear c1 c2 c3 c4 h hb
  go_enter Try.func137, Try.ntmps137
  go_wp2_with (go_at_call 171; refine (MF.out _).mono ?_; rintro e w' ⟨rfl, rfl⟩)
  go_ret
  exact ⟨rfl, rfl⟩

end Go.Proofs.Ytkcehbnmcdppkaa

/- Doubles cut to whole numbers: the words that math.trunc and math.floor make, and their values. -/
namespace Go.Proofs.Ytkcehbnmcdppkaa.Fl
open Ieee

/-- The value of a finite double in units of 2 ^ -1074. -/
def vD (x : Nat) : Option Int := match double.read x with | .number s m p => some (vOf s m p) | _ => none
theorem vD_num {x : Nat} {s : Bool} {m : Nat} {p : Int} (h : double.read x = .number s m p) : vD x = some (vOf s m p) := by unfold vD; rw [h]
theorem vD_some {x : Nat} {a : Int} (h : vD x = some a) : ∃ s m p, double.read x = .number s m p ∧ vOf s m p = a := by
  unfold vD at h
  split at h
  · rename_i s m p e
    exact ⟨s, m, p, e, Option.some.inj h⟩
  · cases h

/-- 2 ^ 63 and 2 ^ 52 behind names. -/
def s63 : Nat := 9223372036854775808
def b52 : Nat := 4503599627370496
theorem s63_eq : s63 = 2048 * b52 := rfl
theorem b52_pos : 0 < b52 := by decide
theorem swD' : double.signWeight = s63 := by decide
theorem bnD : double.binade = b52 := by decide
theorem infD : double.infRung = 2047 * b52 := by decide
theorem lpD : double.leastPlace = -1074 := by decide

/-- A double by its sign, its exponent field and its fraction field. -/
theorem read_parts {s E f : Nat} (hs : s ≤ 1) (hE : E < 2047) (hf : f < b52) :
    double.read (s * s63 + E * b52 + f) = if E = 0 then .number (s == 1) f (-1074) else .number (s == 1) (b52 + f) ((E : Int) - 1075) := by
  have hlt : E * b52 + f < s63 := by
    rw [s63_eq]
    have : E * b52 ≤ 2046 * b52 := Nat.mul_le_mul_right _ (by omega)
    omega
  have p63 : 0 < s63 := by decide
  have h1 : (s * s63 + E * b52 + f) / s63 = s := by
    rw [Nat.add_assoc, Nat.mul_comm, Nat.mul_add_div p63, Nat.div_eq_of_lt hlt]; rfl
  have h2 : (s * s63 + E * b52 + f) % s63 = E * b52 + f := by
    rw [Nat.add_assoc, Nat.mul_comm, Nat.mul_add_mod, Nat.mod_eq_of_lt hlt]
  have h3 : (E * b52 + f) / b52 = E := by
    rw [Nat.mul_comm, Nat.mul_add_div b52_pos, Nat.div_eq_of_lt hf]; rfl
  have h4 : (E * b52 + f) % b52 = f := by
    rw [Nat.mul_comm, Nat.mul_add_mod, Nat.mod_eq_of_lt hf]
  have h5 : (s % 2 == 1) = (s == 1) := by rw [Nat.mod_eq_of_lt (by omega)]
  unfold Format.read
  rw [swD', bnD, infD, lpD]
  simp only [h1, h2, h3, h4, h5]
  by_cases z : E = 0
  · subst z
    rw [if_pos (by omega), if_pos rfl]; simp
  · rw [if_neg (by have : b52 ≤ E * b52 := Nat.le_mul_of_pos_left _ (by omega); omega), if_pos (by
      have : E * b52 ≤ 2046 * b52 := Nat.mul_le_mul_right _ (by omega)
      omega), if_neg z]
    congr 1
    omega

/-- Its magnitude. -/
def magOf (E f : Nat) : Nat := if E = 0 then f else (b52 + f) * 2 ^ (E - 1)
theorem vD_parts {s E f : Nat} (hs : s ≤ 1) (hE : E < 2047) (hf : f < b52) : vD (s * s63 + E * b52 + f) = some ((if s = 1 then -1 else 1) * ((magOf E f : Nat) : Int)) := by
  have h := read_parts hs hE hf
  unfold magOf
  by_cases z : E = 0
  · rw [if_pos z] at h ⊢
    rw [vD_num h]; unfold vOf; rw [signed_eq]
    simp
  · rw [if_neg z] at h ⊢
    rw [vD_num h]; unfold vOf; rw [signed_eq]
    rw [show ((E : Int) - 1075 + 1074).toNat = E - 1 by omega]
    simp

/-- Every finite double is so. -/
theorem parts_of {X : Nat} {a : Int} (hX : X < 2 * s63) (h : vD X = some a) : ∃ s E f, s ≤ 1 ∧ E < 2047 ∧ f < b52 ∧ X = s * s63 + E * b52 + f := by
  refine ⟨X / s63, X % s63 / b52, X % s63 % b52, ?_, ?_, Nat.mod_lt _ b52_pos, ?_⟩
  · have := Nat.div_lt_of_lt_mul (show X < s63 * 2 by omega); omega
  · rcases Nat.lt_or_ge (X % s63 / b52) 2047 with c | c
    · exact c
    · exfalso
      have d := Nat.div_add_mod (X % s63) b52
      have e : 2047 * b52 ≤ X % s63 := by
        have h1 : b52 * 2047 ≤ b52 * (X % s63 / b52) := Nat.mul_le_mul_left _ c
        rw [Nat.mul_comm]
        exact Nat.le_trans h1 (Nat.mul_div_le _ _)
      unfold vD Format.read at h
      rw [swD', bnD, infD] at h
      simp only at h
      rw [if_neg (by have := b52_pos; omega), if_neg (by omega)] at h
      split at h
      · rename_i q; split at q <;> cases q
      · cases h
  · have d := Nat.div_add_mod (X % s63) b52
    have e := Nat.div_add_mod X s63
    rw [Nat.mul_comm] at d e
    omega

/-- Cut towards zero: the word. -/
def truncW (X : Nat) : Nat :=
  if X % s63 / b52 < 1023 then X / s63 * s63 else if X % s63 / b52 < 1075 then X - X % 2 ^ (1075 - X % s63 / b52) else X

theorem parts_div {s E f : Nat} (hE : E < 2047) (hf : f < b52) : (s * s63 + E * b52 + f) / s63 = s ∧ (s * s63 + E * b52 + f) % s63 / b52 = E ∧ (s * s63 + E * b52 + f) % s63 = E * b52 + f := by
  have hlt : E * b52 + f < s63 := by
    rw [s63_eq]
    have : E * b52 ≤ 2046 * b52 := Nat.mul_le_mul_right _ (by omega)
    omega
  have p63 : 0 < s63 := by decide
  have h2 : (s * s63 + E * b52 + f) % s63 = E * b52 + f := by
    rw [Nat.add_assoc, Nat.mul_comm, Nat.mul_add_mod, Nat.mod_eq_of_lt hlt]
  refine ⟨?_, ?_, h2⟩
  · rw [Nat.add_assoc, Nat.mul_comm, Nat.mul_add_div p63, Nat.div_eq_of_lt hlt]; rfl
  · rw [h2, Nat.mul_comm, Nat.mul_add_div b52_pos, Nat.div_eq_of_lt hf]; rfl

theorem mag_small {E f : Nat} (hE : E < 1023) (hf : f < b52) : magOf E f < one := by
  obtain ⟨j, hj⟩ : ∃ j : Nat, j = 1021 := ⟨_, rfl⟩
  have eo : one = 2 * b52 * 2 ^ j := by rw [one_split (a := 53) (j := j) (by omega)]; rfl
  unfold magOf
  split
  · rw [eo]
    have : 1 ≤ 2 ^ j := Nat.two_pow_pos j
    have := Nat.mul_le_mul_left (2 * b52) this
    omega
  · rw [eo]
    have a : 2 ^ (E - 1) ≤ 2 ^ j := Nat.pow_le_pow_right (by omega) (by omega)
    exact Nat.lt_of_le_of_lt (Nat.mul_le_mul_left _ a) (Nat.mul_lt_mul_of_pos_right (by omega) (Nat.two_pow_pos j))
theorem mag_great {E f : Nat} (hE : 1023 ≤ E) : one ≤ magOf E f := by
  obtain ⟨j, hj⟩ : ∃ j : Nat, j = 1022 := ⟨_, rfl⟩
  have eo : one = b52 * 2 ^ j := by rw [one_split (a := 52) (j := j) (by omega)]; rfl
  unfold magOf
  rw [if_neg (by omega), eo]
  have a : 2 ^ j ≤ 2 ^ (E - 1) := Nat.pow_le_pow_right (by omega) (by omega)
  exact Nat.mul_le_mul (by omega) a

theorem trunc_parts {s E f : Nat} (_ : s ≤ 1) (hE : E < 2047) (hf : f < b52) :
    ∃ E' f', E' < 2047 ∧ f' < b52 ∧ truncW (s * s63 + E * b52 + f) = s * s63 + E' * b52 + f' ∧ magOf E' f' = magOf E f / one * one ∧ (magOf E f < one → E' = 0 ∧ f' = 0) := by
  obtain ⟨h1, h2, h3⟩ := parts_div (s := s) hE hf
  unfold truncW
  rw [h1, h2]
  by_cases c : E < 1023
  · rw [if_pos c]
    refine ⟨0, 0, by omega, b52_pos, by omega, ?_, fun _ => ⟨rfl, rfl⟩⟩
    rw [Nat.div_eq_of_lt (mag_small c hf)]; simp [magOf]
  · rw [if_neg c]
    have hb := mag_great (f := f) (show 1023 ≤ E by omega)
    by_cases d : E < 1075
    · rw [if_pos d]
      obtain ⟨k, hk⟩ : ∃ k, k = 1075 - E := ⟨_, rfl⟩
      have hk52 : k ≤ 52 := by omega
      rw [← hk]
      have pk : 0 < 2 ^ k := Nat.two_pow_pos k
      have eb : b52 = 2 ^ k * 2 ^ (52 - k) := by rw [← Nat.pow_add, show k + (52 - k) = 52 by omega]; rfl
      have hm : (s * s63 + E * b52 + f) % 2 ^ k = f % 2 ^ k := by
        have : s * s63 + E * b52 + f = 2 ^ k * (2 ^ (52 - k) * (2048 * s + E)) + f := by
          rw [← Nat.mul_assoc, ← eb, s63_eq, Nat.mul_add]
          have : s * (2048 * b52) = b52 * (2048 * s) := by rw [Nat.mul_comm b52, Nat.mul_comm s, Nat.mul_assoc, Nat.mul_comm b52 s, ← Nat.mul_assoc]
          rw [this, Nat.mul_comm E]
        rw [this, Nat.mul_add_mod]
      have hr := Nat.mod_le f (2 ^ k)
      rw [hm]
      refine ⟨E, f - f % 2 ^ k, hE, by omega, by omega, ?_, fun c' => by omega⟩
      unfold magOf
      rw [if_neg (by omega), if_neg (by omega)]
      have eo : one = 2 ^ k * 2 ^ (E - 1) := one_split (by omega)
      have pE : 0 < 2 ^ (E - 1) := Nat.two_pow_pos _
      rw [eo, Nat.mul_div_mul_right _ _ pE, ← Nat.mul_assoc]
      refine congrArg (· * 2 ^ (E - 1)) ?_
      have dm := Nat.div_add_mod (b52 + f) (2 ^ k)
      have em : (b52 + f) % 2 ^ k = f % 2 ^ k := by rw [eb, Nat.mul_add_mod]
      rw [em, Nat.mul_comm] at dm
      omega
    · rw [if_neg d]
      refine ⟨E, f, hE, hf, rfl, ?_, fun c' => by omega⟩
      unfold magOf
      rw [if_neg (by omega)]
      obtain ⟨j, hj⟩ : ∃ j : Nat, j = 1074 := ⟨_, rfl⟩
      have : (b52 + f) * 2 ^ (E - 1) = (b52 + f) * 2 ^ (E - 1 - j) * one := by
        rw [one_pow hj, Nat.mul_assoc, ← Nat.pow_add]; congr 2; omega
      rw [this, Nat.mul_div_cancel _ one_pos]

end Go.Proofs.Ytkcehbnmcdppkaa.Fl

/- math.floor of doubles: its words and their values. -/
namespace Go.Proofs.Ytkcehbnmcdppkaa.Fl
open Ieee

theorem read_dbl_low {x : Nat} {s : Bool} {m : Nat} {p : Int} (h : double.read x = .number s m p) : -1074 ≤ p := by
  unfold Format.read at h
  rw [lpD] at h
  simp only at h
  split at h
  · cases h; omega
  · split at h
    · cases h; omega
    · split at h <;> cases h

theorem order_valD {x y : Nat} {a b : Int} (hx : vD x = some a) (hy : vD y = some b) : double.order x y = some (compare a b) := by
  obtain ⟨s, m, p, h1, rfl⟩ := vD_some hx
  obtain ⟨t, n, q, h2, rfl⟩ := vD_some hy
  unfold Format.order
  rw [h1, h2]
  exact order_num (read_dbl_low h1) (read_dbl_low h2)
theorem eql_valD {x y : Nat} {a b : Int} (hx : vD x = some a) (hy : vD y = some b) : (double.order x y == some .eq) = decide (a = b) := by rw [order_valD hx hy, some_beq, cmp_eq]
theorem lss_valD {x y : Nat} {a b : Int} (hx : vD x = some a) (hy : vD y = some b) : (double.order x y == some .lt) = decide (a < b) := by rw [order_valD hx hy, some_beq, cmp_lt]

theorem vD_word {sg : Bool} {V B : Nat} (hB : V < 2 ^ B) (hB' : B < 2098) : vD (wordAt double 0 sg V) = some ((if sg then -1 else 1) * ((rd double 0 V : Nat) : Int)) := by
  obtain ⟨M, I, q1, _, q3⟩ := read_val double sg (-1074) 0 leastD V (rungD_lt hB hB')
  rw [vD_num q1]; unfold vOf; rw [signed_eq]
  have e : (I - (-1074)).toNat = (I + 1074).toNat := by omega
  rw [e] at q3; rw [q3]

/-- A sum of doubles that is a double. -/
theorem vD_sum {s t : Bool} {m n : Nat} {i j : Int} {c : Int} {u k B : Nat} (hi : -1074 ≤ i) (hj : -1074 ≤ j) (hc : vOf s m i + vOf t n j = c) (hu : c.natAbs = u * 2 ^ k) (hu2 : u < 2 ^ 53) (hB : c.natAbs < 2 ^ B) (hB' : B < 2098) :
    ∃ r, ((Datum.number s m i).sum (.number t n j)).map double.write = some r ∧ vD r = some c := by
  obtain ⟨p, q, q1, q2, q3⟩ := sum_val (s := s) (t := t) (m := m) (n := n) hi hj
  rw [q1]
  refine ⟨_, rfl, ?_⟩
  show vD (double.nearest _ p q) = _
  rw [nearest_val double _ (-1074) 0 leastD p (p := q) q2, show (q - (-1074)).toNat = (q + 1074).toNat by omega, q3, hc, vD_word hB hB']
  rw [hu, rd_exact double 0 u k (by rw [fbD]; exact hu2) (by omega), ← hu]
  by_cases z : c = 0
  · rw [if_pos z, z]; simp
  · rw [if_neg z]
    by_cases z' : c < 0
    · simp [z']; omega
    · simp [z']; omega

theorem vD_add {x y : Nat} {a b c : Int} {u k B : Nat} (hx : vD x = some a) (hy : vD y = some b) (hc : a + b = c) (hu : c.natAbs = u * 2 ^ k) (hu2 : u < 2 ^ 53) (hB : c.natAbs < 2 ^ B) (hB' : B < 2098) :
    ∃ r, Go.floatBits .add .f64 x y = some r ∧ vD r = some c := by
  obtain ⟨s, m, p, h1, rfl⟩ := vD_some hx
  obtain ⟨t, n, q, h2, rfl⟩ := vD_some hy
  obtain ⟨r, e1, e2⟩ := vD_sum (read_dbl_low h1) (read_dbl_low h2) hc hu hu2 hB hB'
  refine ⟨r, ?_, e2⟩
  show ((double.read x).sum (double.read y)).map double.write = some r
  rw [h1, h2]; exact e1
theorem vD_sub {x y : Nat} {a b c : Int} {u k B : Nat} (hx : vD x = some a) (hy : vD y = some b) (hc : a - b = c) (hu : c.natAbs = u * 2 ^ k) (hu2 : u < 2 ^ 53) (hB : c.natAbs < 2 ^ B) (hB' : B < 2098) :
    ∃ r, Go.floatBits .sub .f64 x y = some r ∧ vD r = some c := by
  obtain ⟨s, m, p, h1, rfl⟩ := vD_some hx
  obtain ⟨t, n, q, h2, rfl⟩ := vD_some hy
  obtain ⟨r, e1, e2⟩ := vD_sum (s := s) (t := !t) (m := m) (n := n) (read_dbl_low h1) (read_dbl_low h2) (c := c) (by rw [vOf_opp, ← hc]; omega) hu hu2 hB hB'
  refine ⟨r, ?_, e2⟩
  show ((double.read x).sum (double.read y).opposite).map double.write = some r
  rw [h1, h2]; exact e1

/-- What is left behind the point has few enough digits. -/
theorem frac_form {E f : Nat} (hf : f < b52) : ∃ t j, t < 2 ^ 53 ∧ magOf E f % one = t * 2 ^ j := by
  have h53 : (2 : Nat) ^ 53 = 2 * b52 := rfl
  unfold magOf
  by_cases z : E = 0
  · rw [if_pos z]
    have : f < one := by
      have := mag_small (E := 0) (f := f) (by omega) hf
      simpa [magOf] using this
    exact ⟨f, 0, by omega, by rw [Nat.mod_eq_of_lt this]; simp⟩
  · rw [if_neg z]
    rcases Nat.lt_or_ge 1074 (E - 1) with c | c
    · refine ⟨0, 0, by omega, ?_⟩
      obtain ⟨j, hj⟩ : ∃ j : Nat, j = 1074 := ⟨_, rfl⟩
      have : (b52 + f) * 2 ^ (E - 1) = (b52 + f) * 2 ^ (E - 1 - j) * one := by
        rw [one_pow hj, Nat.mul_assoc, ← Nat.pow_add, show E - 1 - j + j = E - 1 by omega]
      rw [this, Nat.mul_mod_left, Nat.zero_mul]
    · obtain ⟨k, hk⟩ : ∃ k, k = 1074 - (E - 1) := ⟨_, rfl⟩
      have eo : one = 2 ^ k * 2 ^ (E - 1) := one_split (by omega)
      refine ⟨(b52 + f) % 2 ^ k, E - 1, ?_, by rw [eo, Nat.mul_mod_mul_right]⟩
      exact Nat.lt_of_le_of_lt (Nat.mod_le _ _) (by omega)

/-- Copysign as words. -/
def copyW (X Y : Nat) : Nat := X % s63 + Y / s63 * s63

/-- What math.floor does with a double that is no zero: the words of its steps. -/
structure FloorNeg (X T F G R : Nat) : Prop where
  d1 : truncW (X - s63) = T
  d2 : Go.floatBits .sub .f64 (X - s63) T = some F
  d3 : (double.order (copyW F (X - s63)) 0 == some .eq) = false → Go.floatBits .add .f64 T 4607182418800017408 = some G
  d4 : (double.order (copyW F (X - s63)) 0 == some .eq) = false → R = G + s63 ∧ G < s63
  d5 : (double.order (copyW F (X - s63)) 0 == some .eq) = true → R = T + s63 ∧ T < s63

theorem vD_oneW : vD 4607182418800017408 = some (one : Int) := by
  have := vD_parts (s := 0) (E := 1023) (f := 0) (by omega) (by omega) b52_pos
  have e : 0 * s63 + 1023 * b52 + 0 = 4607182418800017408 := by decide
  rw [e] at this
  rw [this]
  obtain ⟨j, hj⟩ : ∃ j : Nat, j = 1022 := ⟨_, rfl⟩
  have eo : one = b52 * 2 ^ j := by rw [one_split (a := 52) (j := j) (by omega)]; rfl
  unfold magOf
  rw [if_neg (by omega), eo, show 1023 - 1 = j by omega]; simp
theorem vD_zeroW : vD 0 = some 0 := by
  have := vD_parts (s := 0) (E := 0) (f := 0) (by omega) (by omega) b52_pos
  simpa [magOf] using this

theorem mag_lt {E f : Nat} (hE : E < 2047) (hf : f < b52) {B : Nat} (hB : B = 2098) : magOf E f < 2 ^ B := by
  obtain ⟨j, hj⟩ : ∃ j : Nat, j = 2045 := ⟨_, rfl⟩
  have h : 2 ^ B = 2 * b52 * 2 ^ j := by rw [show B = 53 + j by omega, Nat.pow_add]; rfl
  unfold magOf
  rw [h]
  split
  · have := Nat.mul_le_mul_left (2 * b52) (Nat.two_pow_pos j : 1 ≤ 2 ^ j)
    omega
  · exact Nat.lt_of_le_of_lt (Nat.mul_le_mul_left _ (Nat.pow_le_pow_right (by omega) (by omega) : 2 ^ (E - 1) ≤ 2 ^ j)) (Nat.mul_lt_mul_of_pos_right (by omega) (Nat.two_pow_pos j))

end Go.Proofs.Ytkcehbnmcdppkaa.Fl

/- A whole single as an integer; magnitudes of singles. -/
namespace Go.Proofs.Ytkcehbnmcdppkaa.Fl
open Ieee

theorem cut_zero (s : Bool) (M k : Nat) : Toward.zero.cut s M k = M / 2 ^ k := by
  unfold Toward.cut
  simp only [Nat.one_shiftLeft]
  rcases Nat.le_total k (M.log2 + 2) with c | c
  · rw [Nat.min_eq_left c]; simp
  · rw [Nat.min_eq_right c]
    have h : M < 2 ^ (M.log2 + 2) := by
      rcases Nat.eq_zero_or_pos M with z | z
      · subst z; exact Nat.two_pow_pos _
      · exact Nat.lt_trans (Nat.lt_log2_self) (Nat.pow_lt_pow_right (by omega) (by omega))
    have h' : M < 2 ^ k := Nat.lt_of_lt_of_le h (Nat.pow_le_pow_right (by omega) c)
    rw [Nat.div_eq_of_lt h, Nat.div_eq_of_lt h']; simp

theorem integral_zero {s : Bool} {M : Nat} {I : Int} {A : Nat} (hI : -1074 ≤ I) (hA : M * 2 ^ (I + 1074).toNat = A) :
    (Datum.number s M I).integral .zero = .number s (A / one) 0 := by
  show Datum.number s (Toward.zero.cut s (M <<< I.toNat) (-I).toNat) 0 = _
  rw [cut_zero, Nat.shiftLeft_eq]
  congr 1
  obtain ⟨j, hj⟩ : ∃ j : Nat, j = 1074 := ⟨_, rfl⟩
  rcases Int.le_total 0 I with c | c
  · have e : (I + 1074).toNat = I.toNat + j := by omega
    rw [e, Nat.pow_add, ← Nat.mul_assoc] at hA
    rw [show (-I).toNat = 0 by omega, Nat.pow_zero, Nat.div_one, ← hA, one_pow hj, Nat.mul_div_cancel _ (Nat.two_pow_pos j)]
  · obtain ⟨k, hk⟩ : ∃ k : Nat, k = (-I).toNat := ⟨_, rfl⟩
    have eo : one = 2 ^ k * 2 ^ (I + 1074).toNat := one_split (by omega)
    have p : 0 < 2 ^ (I + 1074).toNat := Nat.two_pow_pos _
    rw [show I.toNat = 0 by omega, Nat.pow_zero, Nat.mul_one, ← hk, ← hA, eo, Nat.mul_div_mul_right _ _ p]

theorem toInt_whole {x : Nat} {g : Int} (h : vS x = some (g * (one : Int))) (hb : -1073741824 ≤ g) (hb' : g ≤ 1073741824) : Go.floatToIntVal .f32 x .i64 = some g := by
  obtain ⟨s, m, p, e, hv⟩ := vS_some h
  have lo := (read_single e).low
  obtain ⟨A, hA⟩ : ∃ A, m * 2 ^ (p + 1074).toNat = A := ⟨_, rfl⟩
  have hp : (0 : Int) < (one : Int) := Int.natCast_pos.2 one_pos
  have hs : g * (one : Int) = (if s then -1 else 1) * (A : Int) := by rw [← hv]; unfold vOf; rw [signed_eq, hA]
  have hAg : A = g.natAbs * one := by
    have := congrArg Int.natAbs hs
    rw [Int.natAbs_mul, Int.natAbs_mul, Int.natAbs_natCast, Int.natAbs_natCast] at this
    cases s <;> simpa using this.symm
  have hq : A / one = g.natAbs := by rw [hAg, Nat.mul_div_cancel _ one_pos]
  have hg : (if s then -1 else 1) * (g.natAbs : Int) = g := by
    refine Int.eq_of_mul_eq_mul_right (Int.ne_of_gt hp) ?_
    rw [hs, hAg, Int.natCast_mul, Int.mul_assoc]
  unfold Go.floatToIntVal
  have hd : Go.FloatKind.f32.decode x = .number s m p := e
  have ht : (Datum.number s m p).toInt .zero = some g := by
    unfold Datum.toInt
    rw [integral_zero (s := s) (by omega) hA, hq]
    show some (signed s g.natAbs 0) = some g
    rw [signed_eq, Nat.pow_zero, Nat.mul_one, hg]
  rw [hd, ht]
  have e1 : Go.IntKind.i64.min = -9223372036854775808 := by decide
  have e2 : Go.IntKind.i64.max = 9223372036854775807 := by decide
  simp only [e1, e2]
  rw [if_pos ⟨by omega, by omega⟩]

theorem flV_whole (a : Int) : ∃ g : Int, g = a / (one : Int) ∧ flV a = g * (one : Int) := ⟨_, rfl, rfl⟩

theorem abs_val {x : Nat} {a : Int} (h : vS x = some a) : vS (x % 2147483648) = some ((a.natAbs : Nat) : Int) := by
  obtain ⟨s, m, p, e, rfl⟩ := vS_some h
  have hr := read_abs single x
  rw [swS, e] at hr
  rw [vS_num hr]
  unfold vOf
  rw [signed_eq, signed_eq, Int.natAbs_mul, Int.natAbs_natCast]
  cases s <;> simp

end Go.Proofs.Ytkcehbnmcdppkaa.Fl

/- The sign of a quotient of singles; the root of a single, by the model's own root of a double: what it lies between. -/
namespace Go.Proofs.Ytkcehbnmcdppkaa.Fl
open Ieee

theorem word_sign {sg : Bool} {V : Nat} {c : Int} (h : vS (wordAt single 925 sg V) = some c) : ∃ n : Nat, c = (if sg then -1 else 1) * (n : Int) := by
  by_cases hr : rungOf single 925 V < single.infRung
  · obtain ⟨M, I, q1, _, q3⟩ := read_val single sg (-1074) 925 leastS V hr
    rw [vS_num q1] at h
    have h' := Option.some.inj h
    rw [← h']; unfold vOf; rw [signed_eq]; exact ⟨_, rfl⟩
  · have e : wordAt single 925 sg V = single.word sg single.infRung := by unfold wordAt; rw [Nat.min_eq_right (by omega)]
    rw [e] at h
    have r : single.read (single.word sg single.infRung) = .infinity sg := by cases sg <;> decide
    unfold vS at h; rw [r] at h; cases h

theorem vOf_mag (s : Bool) (m : Nat) (p : Int) : vOf s m p = (if s then -1 else 1) * ((m * 2 ^ (p + 1074).toNat : Nat) : Int) := by unfold vOf; rw [signed_eq]

/-- A quotient of what is not below 0 by what is above 0 is not below 0. -/
theorem quo_sign {x y q : Nat} {a b c : Int} (h : Go.floatBits .quo .f32 x y = some q) (hx : vS x = some a) (hy : vS y = some b) (hc : vS q = some c) (a0 : 0 ≤ a) (b0 : 0 < b) : 0 ≤ c := by
  obtain ⟨s, m, i, e1, rfl⟩ := vS_some hx
  obtain ⟨t, n, j, e2, rfl⟩ := vS_some hy
  have g1 := read_single e1
  have g2 := read_single e2
  have l1 := g1.low
  have l2 := g2.low
  have q1 := g1.high
  have q2 := g2.high
  have s1 := g1.small
  have s2 := g2.small
  rw [vOf_mag] at a0 b0
  have p2 := Nat.two_pow_pos (j + 1074).toNat
  have ht : t = false := by
    cases t with
    | false => rfl
    | true =>
      rw [if_pos rfl] at b0
      have : (0 : Int) ≤ ((n * 2 ^ (j + 1074).toNat : Nat) : Int) := Int.natCast_nonneg _
      omega
  subst ht
  have hn : 0 < n := by
    rcases Nat.eq_zero_or_pos n with z | z
    · subst z; simp at b0
    · exact z
  have h' : ((single.read x).quotient (single.fractionBits + 2) (single.read y)).map single.write = some q := h
  rw [e1, e2] at h'
  rcases Nat.eq_zero_or_pos m with z | hm
  · subst z
    unfold Datum.quotient at h'
    simp only at h'
    rw [if_neg (by omega)] at h'
    simp only [Nat.zero_shiftLeft, Nat.zero_div, Nat.zero_mod, bne_self_eq_false, Bool.toNat_false, Nat.mul_zero, Nat.add_zero, Option.map_some] at h'
    have h2 : single.nearest (s ^^ false) 0 _ = q := Option.some.inj h'
    rw [nearest_zero, ← wordAt_zero single 925] at h2
    rw [← h2] at hc
    have := vS_word (sg := s ^^ false) (V := 0) (B := 1) (by omega) (by omega)
    rw [this, rd_zero] at hc
    have := Option.some.inj hc
    rw [← this]; simp
  · have hs : s = false := by
      cases s
      · rfl
      · have := Nat.mul_pos hm (Nat.two_pow_pos (i + 1074).toNat)
        simp only [if_true] at a0
        omega
    subst hs
    obtain ⟨T, hT⟩ : ∃ T : Nat, T = 1074 := ⟨_, rfl⟩
    have ln24 : n.log2 < 24 := log_lt (by rw [show (2 : Nat) ^ 24 = 16777216 by decide]; exact s2) (by omega)
    obtain ⟨ls, ks, hS, wS⟩ := quot_word single 925 leastS (s := false) (t := false) (m := m) (n := n) (i := i) (j := j) hm hn (by omega) (by omega) (by rw [fbS]; omega) hT
    rw [wS] at h'
    have h2 := Option.some.inj h'
    rw [← h2] at hc
    obtain ⟨u, hu⟩ := word_sign hc
    rw [hu]; simp

/-- The root's digits. -/
theorem rootFrom_spec (n : Nat) : ∀ (todo root : Nat), root * root ≤ n → n < (root + 2 ^ todo) * (root + 2 ^ todo) →
    (Datum.rootFrom n todo root) * (Datum.rootFrom n todo root) ≤ n ∧ n < (Datum.rootFrom n todo root + 1) * (Datum.rootFrom n todo root + 1)
  | 0, root, h1, h2 => by
    unfold Datum.rootFrom
    rw [Nat.pow_zero] at h2
    exact ⟨h1, h2⟩
  | todo + 1, root, h1, h2 => by
    unfold Datum.rootFrom
    simp only
    rw [Nat.one_shiftLeft]
    split
    · rename_i c
      refine rootFrom_spec n todo _ c ?_
      rw [Nat.pow_succ] at h2
      rw [show root + 2 ^ todo + 2 ^ todo = root + 2 ^ todo * 2 by omega]; exact h2
    · rename_i c
      exact rootFrom_spec n todo _ h1 (by omega)

theorem root_digits (n : Nat) : (Datum.rootFrom n (n.log2 / 2 + 1) 0) * (Datum.rootFrom n (n.log2 / 2 + 1) 0) ≤ n ∧ n < (Datum.rootFrom n (n.log2 / 2 + 1) 0 + 1) * (Datum.rootFrom n (n.log2 / 2 + 1) 0 + 1) := by
  refine rootFrom_spec n _ 0 (by simp) ?_
  rw [Nat.zero_add, ← Nat.pow_add]
  have : n < 2 ^ (n.log2 + 1) := Nat.lt_log2_self
  exact Nat.lt_of_lt_of_le this (two_le (by omega))

/-- The root of a single, as a word: the root of the double, turned into a single. -/
def rootW (x : Nat) : Nat := (((Go.floatToFloatBits .f32 x .f64).bind fun X => double.sqrt X).bind fun Z => Go.floatToFloatBits .f64 Z .f32).getD 0

/-- What the root of the single x with the value a comes to. -/
structure RootAt (x : Nat) (a : Int) (X Z : Nat) (c : Int) : Prop where
  up : Go.floatToFloatBits .f32 x .f64 = some X
  sq : double.sqrt X = some Z
  dn : Go.floatToFloatBits .f64 Z .f32 = some (rootW x)
  val : vS (rootW x) = some c
  nn : 0 ≤ c
  hi : ∀ g : Nat, g < 16777216 → a ≤ ((g * g : Nat) : Int) * (one : Int) → c ≤ (g : Int) * (one : Int)
  lo : ∀ g : Nat, g < 16777216 → ((g * g : Nat) : Int) * (one : Int) ≤ a → (g : Int) * (one : Int) ≤ c

theorem rdD_mono {V W : Nat} (h : V ≤ W) : rd double 0 V ≤ rd double 0 W := by
  rcases Nat.eq_zero_or_pos V with z | z
  · subst z; rw [rd_zero]; exact Nat.zero_le _
  have z' : 0 < W := by omega
  obtain ⟨l1, l2, l3⟩ := last_le double 0 V z
  obtain ⟨k1, k2, k3⟩ := last_le double 0 W z'
  unfold rd
  generalize lastOf double 0 V = l at *
  generalize lastOf double 0 W = k at *
  rw [fbD] at l2 l3 k2 k3
  have pl : 0 < 2 ^ l := Nat.two_pow_pos l
  have pk : 0 < 2 ^ k := Nat.two_pow_pos k
  rcases Nat.lt_trichotomy l k with c | c | c
  · -- W reaches a higher binade
    have a : rnq V (2 ^ l) ≤ 2 ^ 53 := by
      have := rnq_mono (M := 2 ^ l) pl (N := V) (N' := 2 ^ 53 * 2 ^ l) (by rw [← Nat.pow_add]; exact Nat.le_of_lt (by rwa [show 53 + l = l + 52 + 1 by omega]))
      rwa [rnq_mul _ _ pl] at this
    have b : 2 ^ 52 ≤ rnq W (2 ^ k) := by
      have e : 2 ^ (k + 52) ≤ W := by rcases k3 with x | x; omega; exact x
      have := rnq_mono (M := 2 ^ k) pk (N := 2 ^ 52 * 2 ^ k) (N' := W) (by rw [← Nat.pow_add, show 52 + k = k + 52 by omega]; exact e)
      rwa [rnq_mul _ _ pk] at this
    calc rnq V (2 ^ l) * 2 ^ l ≤ 2 ^ 53 * 2 ^ l := Nat.mul_le_mul_right _ a
      _ = 2 ^ (53 + l) := by rw [Nat.pow_add]
      _ ≤ 2 ^ (52 + k) := Nat.pow_le_pow_right (by omega) (by omega)
      _ = 2 ^ 52 * 2 ^ k := by rw [Nat.pow_add]
      _ ≤ rnq W (2 ^ k) * 2 ^ k := Nat.mul_le_mul_right _ b
  · subst c
    exact Nat.mul_le_mul_right _ (rnq_mono pl h)
  · exfalso
    rcases l3 with x | x
    · omega
    · have : 2 ^ (l + 52) < 2 ^ (k + 52 + 1) := Nat.lt_of_le_of_lt (Nat.le_trans x h) k2
      have := (Nat.pow_lt_pow_iff_right (by omega : 1 < 2)).1 this
      omega

theorem down_word {V B : Nat} (hB : V < 2 ^ B) (hB' : B < 1200) :
    Go.floatToFloatBits .f64 (wordAt double 0 false V) .f32 = some (wordAt single 925 false (rd double 0 V)) ∧ vS (wordAt single 925 false (rd double 0 V)) = some ((rd single 925 (rd double 0 V) : Nat) : Int) := by
  obtain ⟨M, I, r1, r2, r3⟩ := read_val double false (-1074) 0 leastD V (rungD_lt hB (by omega))
  have hl : double.leastPlace = -1074 := by decide
  rw [hl] at r2
  have hn := nearest_val single false (-1074) 925 leastS M (p := I) (by omega)
  rw [r3] at hn
  have hd : rd double 0 V ≤ 2 ^ B := by
    have e : rd double 0 (1 * 2 ^ B) = 1 * 2 ^ B := rd_exact double 0 1 B (by rw [fbD]; decide) (by omega)
    have m : rd double 0 V ≤ rd double 0 (1 * 2 ^ B) := rdD_mono (by omega)
    rw [e] at m; omega
  have hd' : rd double 0 V < 2 ^ (B + 1) := Nat.lt_of_le_of_lt hd (Nat.pow_lt_pow_right (by omega) (by omega))
  have hv := vS_word (sg := false) hd' (by omega)
  simp only [Bool.false_eq_true, if_false, Int.one_mul] at hv
  refine ⟨?_, hv⟩
  obtain ⟨M', I', q1, _, _⟩ := read_val single false (-1074) 925 leastS (rd double 0 V) (rungS_lt hd' (by omega))
  unfold Go.floatToFloatBits
  rw [if_neg (by decide)]
  have d : Go.FloatKind.f64.decode (wordAt double 0 false V) = .number false M I := r1
  simp only [d]
  have w : Go.FloatKind.f32.encode (.number false M I) = wordAt single 925 false (rd double 0 V) := hn
  rw [w]
  have d2 : Go.FloatKind.f32.decode (wordAt single 925 false (rd double 0 V)) = .number false M' I' := q1
  rw [d2]; rfl
end Go.Proofs.Ytkcehbnmcdppkaa.Fl

/- Any single that is no NaN: sums, quotients, floors and levels of it (pure). -/
namespace Go.Proofs.Ytkcehbnmcdppkaa.Fl
open Ieee

theorem infS' : single.infRung = 2139095040 := by decide
theorem infD' : double.infRung = 9218868437227405312 := by decide
theorem binS' : single.binade = 8388608 := by decide

/-- A number or an infinity of the sign s. -/
def Sg (s : Bool) (x : Nat) : Prop := (∃ m p, single.read x = .number s m p) ∨ single.read x = .infinity s
/-- No NaN. -/
def Sgl' (x : Nat) : Prop := ∃ s, Sg s x

theorem read_inf (s : Bool) : single.read (single.word s single.infRung) = .infinity s := by cases s <;> decide
theorem read_infD (s : Bool) : double.read (double.word s double.infRung) = .infinity s := by cases s <;> decide
theorem read_le (s : Bool) (r : Nat) (h : r ≤ single.infRung) : Sg s (single.word s r) := by
  rcases Nat.lt_or_eq_of_le h with c | c
  · left
    rw [infS'] at c
    have e1 : (single.word s r / single.signWeight % 2 == 1) = s := by
      unfold Format.word; rw [swS]
      cases s with
      | false => simp; omega
      | true => simp; omega
    have e2 : single.word s r % single.signWeight = r := by
      unfold Format.word; rw [swS]
      cases s with
      | false => simp; omega
      | true => simp; omega
    unfold Format.read
    simp only [e1, e2, binS', infS']
    split
    · exact ⟨_, _, rfl⟩
    · first | exact ⟨_, _, rfl⟩ | (rw [if_pos c]; exact ⟨_, _, rfl⟩)
  · subst c; exact .inr (read_inf s)
theorem near_sg (s : Bool) (m : Nat) (p : Int) : Sg s (single.nearest s m p) := by
  unfold Format.nearest
  split
  · exact read_le s 0 (by omega)
  · exact read_le s _ (Nat.min_le_right _ _)

theorem op_near {d : Option Datum} (h : ∃ s m p, d = some (.number s m p)) : ∃ r, d.map single.write = some r ∧ Sgl' r := by
  obtain ⟨s, m, p, rfl⟩ := h
  exact ⟨single.nearest s m p, rfl, s, near_sg s m p⟩
theorem op_inf {d : Option Datum} (h : ∃ s, d = some (.infinity s)) : ∃ r, d.map single.write = some r ∧ Sgl' r := by
  obtain ⟨s, rfl⟩ := h
  exact ⟨single.word s single.infRung, rfl, s, .inr (read_inf s)⟩
theorem sub_sgl {x y : Nat} {a b : Int} (ha : vS x = some a) (hb : vS y = some b) : ∃ r, Go.floatBits .sub .f32 x y = some r ∧ Sgl' r := by
  obtain ⟨s, m, i, h1, -⟩ := vS_some ha
  obtain ⟨t, n, j, h2, -⟩ := vS_some hb
  show ∃ r, ((single.read x).sum (single.read y).opposite).map single.write = some r ∧ _
  rw [h1, h2]
  exact op_near ⟨_, _, _, rfl⟩
theorem add_sgl {x y : Nat} {b : Int} (ha : Sgl' x) (hb : vS y = some b) : ∃ r, Go.floatBits .add .f32 x y = some r ∧ Sgl' r := by
  obtain ⟨t, n, j, h2, -⟩ := vS_some hb
  show ∃ r, ((single.read x).sum (single.read y)).map single.write = some r ∧ _
  obtain ⟨s, ⟨m, i, h1⟩ | h1⟩ := ha
  · rw [h1, h2]
    exact op_near ⟨_, _, _, rfl⟩
  · rw [h1, h2]
    exact op_inf ⟨_, rfl⟩
theorem quo_sgl {x y : Nat} {b : Int} (ha : Sgl' x) (hb : vS y = some b) (hb0 : b ≠ 0) : ∃ r, Go.floatBits .quo .f32 x y = some r ∧ Sgl' r := by
  obtain ⟨t, n, j, h2, e⟩ := vS_some hb
  have hn : n ≠ 0 := by
    intro z; subst z; apply hb0; rw [← e, vOf_mag]; simp
  show ∃ r, ((single.read x).quotient (single.fractionBits + 2) (single.read y)).map single.write = some r ∧ _
  obtain ⟨s, ⟨m, i, h1⟩ | h1⟩ := ha
  · rw [h1, h2]
    refine op_near ?_
    unfold Datum.quotient
    simp only
    rw [if_neg hn]
    exact ⟨_, _, _, rfl⟩
  · rw [h1, h2]
    exact op_inf ⟨_, rfl⟩

/-- Truncation of what is not negative. -/
theorem toInt_floor {x : Nat} {a : Int} (h : vS x = some a) (h0 : 0 ≤ a) (hb : a / (one : Int) ≤ 1073741824) : Go.floatToIntVal .f32 x .i64 = some (a / (one : Int)) := by
  obtain ⟨s, m, p, e, hv⟩ := vS_some h
  have lo := (read_single e).low
  obtain ⟨A, hA⟩ : ∃ A, m * 2 ^ (p + 1074).toNat = A := ⟨_, rfl⟩
  have hs : a = (if s then -1 else 1) * (A : Int) := by rw [← hv, vOf_mag, hA]
  have hz : s = true → A = 0 := by
    intro c; subst c; simp at hs; omega
  have haA : a = (A : Int) := by
    cases s with
    | false => simpa using hs
    | true => rw [hz rfl] at hs ⊢; simpa using hs
  unfold Go.floatToIntVal
  have hd : Go.FloatKind.f32.decode x = .number s m p := e
  have ht : (Datum.number s m p).toInt .zero = some (a / (one : Int)) := by
    unfold Datum.toInt
    rw [integral_zero (s := s) (by omega) hA]
    show some (signed s (A / one) 0) = _
    rw [signed_eq, Nat.pow_zero, Nat.mul_one, haA]
    cases s with
    | false => simp
    | true => rw [hz rfl]; simp
  have hq : 0 ≤ a / (one : Int) := Int.ediv_nonneg h0 (by omega)
  rw [hd, ht]
  have e1 : Go.IntKind.i64.min = -9223372036854775808 := by decide
  have e2 : Go.IntKind.i64.max = 9223372036854775807 := by decide
  simp only [e1, e2]
  rw [if_pos ⟨by omega, by omega⟩]

/-- The double of an int that is not great. -/
theorem int_valD {n : Nat} (h : n < 2 ^ 53) : vD (Go.floatOfInt .f64 (n : Int)) = some ((n * one : Nat) : Int) := by
  obtain ⟨J, hJ⟩ : ∃ J : Nat, J = 1074 := ⟨_, rfl⟩
  have e : Go.floatOfInt .f64 (n : Int) = double.nearest (decide ((n : Int) < 0)) n 0 := rfl
  rw [e, show decide ((n : Int) < 0) = false by simp, nearest_val double false (-1074) 0 leastD n (p := 0) (by omega), show ((0 : Int) - (-1074)).toNat = J by omega, ← one_pow hJ]
  have hB : n * one < 2 ^ (53 + J) := by
    rw [Nat.pow_add, ← one_pow hJ]
    exact Nat.mul_lt_mul_of_pos_right h one_pos
  rw [vD_word hB (by omega), one_pow hJ, rd_exact double 0 n J (by rw [fbD]; exact h) (by omega)]
  simp

/-- The double of a single has its value. -/
theorem toD_val {x : Nat} {a : Int} (h : vS x = some a) : ∃ X, Go.floatToFloatBits .f32 x .f64 = some X ∧ vD X = some a := by
  obtain ⟨s, m, p, e, rfl⟩ := vS_some h
  obtain ⟨X, M, I, c1, c2, c3, c4, _⟩ := toD e
  exact ⟨X, c1, by rw [vD_num c2, vOf_mag, vOf_mag, c4]⟩

theorem geq_valD {x y : Nat} {a b : Int} (hx : vD x = some a) (hy : vD y = some b) : (double.order x y == some .gt || double.order x y == some .eq) = decide (b ≤ a) := by
  rw [order_valD hx hy, some_beq, some_beq, cmp_gt, cmp_eq, ← Bool.decide_or]
  exact decide_eq_decide.2 (by omega)
end Go.Proofs.Ytkcehbnmcdppkaa.Fl
