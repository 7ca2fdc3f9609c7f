/- Lemmas and contracts for the proof that the last text of this claim holds. -/
import Derived.Test.YtkcehbnmcdppkaaHnJC
import Derived.Lib.Hide
import Derived.RegionTactic
import Derived.ChangeAlike
import Derived.StillTailTactics
import Derived.Deep.RegionHeld3
import Derived.Lib.SlBytesConst
import Derived.ArgAppend
import Derived.ProofKit
import Derived.OpenShut
import Derived.Lib.SmallJoins
import Derived.Laws.Cover2
import Derived.Deep.Slices
import Derived.WalkLawsBesides

/- What the format of whole singles writes: layouts' first entry. -/
namespace Go.Proofs.Ytkcehbnmcdppkaa
open Go.RowKit Fl
set_option linter.unusedVariables false

theorem make0_byte (n : Nat) (hn : n ≤ 1073741824) (w : World) :
    (Instr.makeSlice 153 (.int .i64 0) (.int .i64 (n : Int))).run Try.prog w = .ok (.slice (some ⟨w.heap.size, 0, none⟩) 0 n) (w.alloc (.cells (madeCells #[Value.int .u8 0] n) 5)) := by
  have h : (Try.prog.info? 5).map (fun i => (i.zero, i.size, i.bytes)) = some (some (.int .u8 0), 1, 1) := by kernel_rfl
  obtain ⟨i0, hi, hz0, hz1, hz2⟩ := info_parts h
  have hr := run_make (P := Try.prog) w 153 5 i0 (.int .u8 0) Try.underlying153 hi hz0 .i64 .i64 0 n (by omega) (by omega) (by rw [hz2]; omega) (by omega)
  rw [hz1, Nat.mul_one, Int.toNat_natCast] at hr
  exact hr

/-- The bytes of the first k singles. -/
def fullL (v : Nat → Nat) : Nat → List Int
  | 0 => []
  | k + 1 => fullL v k ++ byteL (v k) 4
theorem fullL_len (v : Nat → Nat) : ∀ k, (fullL v k).length = 4 * k
  | 0 => rfl
  | k + 1 => by simp [fullL, fullL_len v k, byteL_len]; omega

set_option maxHeartbeats 400000 in
theorem layouts1_any (x : Nat) (hx : x < 4294967296) (w : World) : Calls Try.prog 163 #[.float .f32 x] w fun e w' => e = .returned (.int .i64 x) ∧ w = w' := by
  have h1 := f32bits
  go_enter Try.func163, Try.ntmps163
  go_wp2
  go_ret
  exact ⟨rfl, rfl⟩

set_option maxHeartbeats 400000 in
theorem layouts2_any (x : Nat) (hx : x < 4294967296) (w : World) : Calls Try.prog 164 #[.int .i64 x] w fun e w' => e = .returned (.float .f32 x) ∧ w = w' := by
  have h1 := f32from
  go_enter Try.func164, Try.ntmps164
  go_wp2
  go_ret
  exact ⟨rfl, rfl⟩

/-- A scaling. -/
abbrev scV (lo st : Nat) (bi : Int) : Value := .agg #[.float .f32 lo, .float .f32 st, .int .i64 bi]

theorem flAt_stay {w w' : World} {b off n : Nat} {v : Nat → Nat} (h : FlAt w b off n v) (hb : Below w.heap.size w w') : FlAt w' b off n v := fun i hi => by
  have := h i hi
  exact (Below.cell (p := ⟨b, off + i, none⟩) hb (World.block_lt_of_cell? w _ this)).trans this

/-- A list of bytes that a call has made. -/
def BtsPost (w : World) (L : List Int) (e : Ending) (w' : World) : Prop :=
  ∃ ov, e = .returned (.tuple #[ov, .bool true]) ∧ w'.ownsRow w.heap.size 5 1 ov L.length (btL L) ∧ Below w.heap.size w w'

set_option maxHeartbeats 1000000 in
set_option maxRecDepth 100000 in
theorem codes_any (b off n cap : Nat) (v : Nat → Nat) (lo st : Nat) (bi : Int) (p q r : Nat) (V : Value) (w : World) (hV : CodV w 4 163 164 V p q r) (hr : FlAt w b off n v) (hw : wf32 n v) (hf : ∀ i, i < n → finB (v i) = true) (h1 : 1 ≤ n) (h2 : n ≤ 65536) :
    Calls Try.prog 178 #[.slice (some ⟨b, off, none⟩) n cap, scV lo st bi, pt p, pt q, pt r] w (BtsPost w (fullL v n)) := by
  have hm : ∀ W : World, (Instr.makeSlice 153 (.int .i64 0) (.int .i64 (4 * (n : Int)))).run Try.prog W = .ok (.slice (some ⟨W.heap.size, 0, none⟩) 0 (4 * n)) (W.alloc (.cells (madeCells #[Value.int .u8 0] (4 * n)) 5)) := fun W => by
    have := make0_byte (4 * n) (by omega) W
    rwa [Int.natCast_mul] at this
  have HV := Lib.hid hV
  have HR := Lib.hid hr
  have HW := Lib.hid hw
  have HF := Lib.hid hf
  obtain ⟨c2, f2, z2⟩ := blkC hV.h1
  have H1 := Lib.hid h1
  have B1 := Lib.hid (show Below w.heap.size w ((w.alloc (.cells #[.float .f32 lo, .float .f32 st, .int .i64 bi] 36)).alloc (.cells (madeCells #[Value.int .u8 0] (4 * n)) 5)) from (by repeat (first | exact Below.refl _ _ | refine Below.alloc ?_ (by first | omega | (simp; done) | (simp; omega)) _ | refine Below.setCell ?_ (by first | omega | (simp; done) | (simp; omega)) _ | refine Below.drew ?_)))
  have A1 := Lib.hid (show BtAt ((w.alloc (.cells #[.float .f32 lo, .float .f32 st, .int .i64 bi] 36)).alloc (.cells (madeCells #[Value.int .u8 0] (4 * n)) 5)) w.heap.size (some (w.heap.size + 1)) [] (.slice (some ⟨w.heap.size + 1, 0, none⟩) 0 (4 * n)) ((w.alloc (.cells #[.float .f32 lo, .float .f32 st, .int .i64 bi] 36)).alloc (.cells (madeCells #[Value.int .u8 0] (4 * n)) 5)) from
    ⟨by
      have := World.ownsRow_made (w.alloc (.cells #[.float .f32 lo, .float .f32 st, .int .i64 bi] 36)) (base := w.heap.size) (e := 5) (size := 1) (madeCells #[Value.int .u8 0] (4 * n)) (4 * n) (by rw [heap_size_alloc]; omega) (by unfold maxLen; omega) (by simp [size_madeCells])
      rw [heap_size_alloc] at this
      exact this, ⟨rfl, rfl, rfl, Nat.le_refl _, fun _ _ _ => rfl⟩, .inl rfl, by simp; omega⟩)
  clear hV hr hw hf h1
  go_enter Try.func178, Try.ntmps178
  go_wp2
  generalize (w.alloc (.cells #[.float .f32 lo, .float .f32 st, .int .i64 bi] 36)).alloc (.cells (madeCells #[Value.int .u8 0] (4 * n)) 5) = w1 at *
  clear hm c2 f2 z2
  go_loopw [9, 20] (fun t i wr => ∃ k : Nat, k ≤ n ∧ i = .int .i64 k ∧ BtAt w1 w.heap.size (some (w.heap.size + 1)) (fullL v k) t wr) (fun _ i _ => n - (intOf i).toNat)
  case atStart => exact ⟨0, Nat.zero_le _, rfl, A1.out⟩
  case round =>
    obtain ⟨k, hk, rfl, hA⟩ := hrel
    have HA := Lib.hid hA
    have BW := Lib.hid (B1.out.trans (grownBy_far hA.gr (Nat.le_succ _) B1.out.size))
    clear hA
    by_cases hlt : k < n
    · have hcell := flAt_stay HR.out BW.out k hlt
      obtain ⟨c2, f2, z2⟩ := blkC (HV.out.stay BW.out).h1
      obtain ⟨c3, f3, z3⟩ := blkC (HV.out.stay BW.out).h2
      obtain ⟨c4, f4, z4⟩ := blkC (HV.out.stay BW.out).h3
      have hx := HW.out k hlt
      rcases step1 (v k) with ⟨_, _, X, e1, e2, e3⟩ | ⟨e1, _⟩ | ⟨e1, _⟩
      · have AB := Lib.hid (appendBytes_any w1 w.heap.size (some (w.heap.size + 1)) (fullL v k) · (v k) 4 wr · hx (by omega) (by rw [fullL_len]; omega))
        have HE := Lib.hid (show fullL v (k + 1) = fullL v k ++ byteL (v k) 4 from rfl)
        have d1 := fun (W : World) => run_convert_float_float (P := Try.prog) W 22 32 .f32 .f64 (v k) X (by kernel_rfl) Try.underlying32 e1
        have C1 := Lib.hid (fun w => layouts1_any (v k) hx w)
        have C2 := Lib.hid (fun w => layouts2_any (v k) hx w)
        have C3 := Lib.hid (fun w => isInf_any X false e2 e3 w)
        have HLT := Lib.hid hlt
        clear e1 e2 e3
        generalize v k = x at *
        go_wp2_with (first | (go_at_call 163; refine (C1.out _).mono ?_; rintro e w' ⟨rfl, rfl⟩) | (go_at_call 164; refine (C2.out _).mono ?_; rintro e w' ⟨rfl, rfl⟩) | (go_at_call 65; refine (C3.out _).mono ?_; rintro e w' ⟨rfl, rfl⟩) | (go_at_call 130; refine (AB.out _ HA.out).mono ?_; rintro e w6 ⟨ov', rfl, hA6⟩; have HA6 := Lib.hid hA6; clear hA6))
        go_roundw
        case rel => exact ⟨k + 1, HLT.out, by go_num, by rw [HE.out]; exact HA6.out⟩
        case measure => have := HLT.out; simp [intOf]; omega
      all_goals exfalso; rw [HF.out k hlt] at e1; cases e1
    · obtain rfl : k = n := by omega
      go_wp2
      go_ret2
      exact ⟨_, rfl, HA.out.own, BW.out⟩
end Go.Proofs.Ytkcehbnmcdppkaa

/- The sum of the bytes of a text: both sides. -/
namespace Go.Proofs.Ytkcehbnmcdppkaa
open Go.RowKit Fl
set_option linter.unusedVariables false

/-- The byte number k. -/
def chI (s : ByteArray) (k : Nat) : Int := (((s.data[k]?).getD 0).toNat : Int)
theorem chI_in (s : ByteArray) (k : Nat) : 0 ≤ chI s k ∧ chI s k < 256 := by
  unfold chI
  have := ((s.data[k]?).getD 0).toNat_lt
  omega
theorem index_ch (s : ByteArray) (k : Nat) (hk : k < s.size) (w : World) : (Instr.index 9 (.string s) (.int .i64 (k : Int))).run Try.prog w = .ok (.int .u8 (chI s k)) w := by
  rw [run_index_string (w := w) 9 _ _ _ Try.underlying9, dif_pos (by omega)]
  congr 3
  simp only [Int.toNat_natCast]
  rw [Array.getElem?_eq_getElem (by exact hk)]
  rfl

/-- Both sums behind k bytes. -/
def smI (s : ByteArray) : Nat → Int × Int
  | 0 => (1, 0)
  | k + 1 => (((smI s k).1 + chI s k) % 65521, ((smI s k).2 + ((smI s k).1 + chI s k) % 65521) % 65521)
theorem smI_in (s : ByteArray) : ∀ k, 0 ≤ (smI s k).1 ∧ (smI s k).1 < 65521 ∧ 0 ≤ (smI s k).2 ∧ (smI s k).2 < 65521
  | 0 => by show (0 : Int) ≤ 1 ∧ (1 : Int) < 65521 ∧ (0 : Int) ≤ 0 ∧ (0 : Int) < 65521; omega
  | k + 1 => by show 0 ≤ _ % _ ∧ _ % _ < _ ∧ 0 ≤ _ % _ ∧ _ % _ < _; omega
/-- The sum of a text. -/
def sumI (s : ByteArray) : Int := (smI s s.size).2 * 65536 + (smI s s.size).1
theorem sumI_in (s : ByteArray) : 0 ≤ sumI s ∧ sumI s < 4294967296 := by
  have := smI_in s s.size
  unfold sumI; omega

set_option maxHeartbeats 1000000 in
theorem sum_any (s : ByteArray) (w : World) (hs : s.size ≤ 9223372036854775807) :
    Calls Try.prog 131 #[.string s] w fun e w' => e = .returned (.int .i64 (sumI s)) ∧ w = w' := by
  go_enter Try.func131, Try.ntmps131
  go_wp2
  go_loop [3, 4, 8] (fun a b i => ∃ k : Nat, k ≤ s.size ∧ a = .int .i64 (smI s k).1 ∧ b = .int .i64 (smI s k).2 ∧ i = .int .i64 k) (fun _ _ i => s.size - (intOf i).toNat)
  case atStart => exact ⟨0, Nat.zero_le _, rfl, rfl, rfl⟩
  case round =>
    obtain ⟨k, hk, rfl, rfl, rfl⟩ := hrel
    by_cases hlt : k < s.size
    · have hx := fun w => index_ch s k hlt w
      obtain ⟨b1, b2⟩ := chI_in s k
      obtain ⟨d1, d2, d3, d4⟩ := smI_in s k
      have H1 := Lib.hid (show ((smI s k).1 + chI s k) % 65521 = (smI s (k + 1)).1 from rfl)
      have H2 := Lib.hid (show ((smI s k).2 + ((smI s k).1 + chI s k) % 65521) % 65521 = (smI s (k + 1)).2 from rfl)
      generalize chI s k = c at *
      generalize (smI s k).1 = p at *
      generalize (smI s k).2 = q at *
      go_wp2
      go_round
      case rel => exact ⟨k + 1, by omega, by rw [H1.out], by rw [H2.out], by go_num⟩
      case measure => simp [intOf]; omega
    · obtain rfl : k = s.size := by omega
      obtain ⟨d1, d2, d3, d4⟩ := smI_in s s.size
      have H1 := Lib.hid (show (smI s s.size).2 * 65536 + (smI s s.size).1 = sumI s from rfl)
      generalize (smI s s.size).1 = p at *
      generalize (smI s s.size).2 = q at *
      go_wp2
      go_ret
      exact ⟨ret_int (by rw [← H1.out]; try omega), rfl⟩

end Go.Proofs.Ytkcehbnmcdppkaa

/- Whether a single is finite, whether it is a height, as the references of chapters 4 to 10 ask it: by comparisons. -/
namespace Go.Proofs.Ytkcehbnmcdppkaa.Fl
open Ieee

/-- A finite single passes all three tests. -/
theorem num_fin {x : Nat} (h : finB x = true) : (single.order x x == some .eq) = true ∧ (single.order x 2139095039 == some .gt) = false ∧ (single.order x 4286578687 == some .lt) = false := by
  unfold finB at h
  cases hv : vS x with
  | none => rw [hv] at h; cases h
  | some a =>
    obtain ⟨h1, h2⟩ := vS_le hv
    refine ⟨by rw [eql_val hv hv]; simp, by rw [gtr_val hv vS_max]; simp; omega, by rw [lss_val hv vS_min]; simp; omega⟩
/-- Any other falls at one of them. -/
theorem num_inf {x : Nat} (h : finB x = false) : (single.order x x == some .eq) = false ∨ ((single.order x x == some .eq) = true ∧ (single.order x 2139095039 == some .gt) = true) ∨
    ((single.order x x == some .eq) = true ∧ (single.order x 2139095039 == some .gt) = false ∧ (single.order x 4286578687 == some .lt) = true) := by
  unfold finB at h
  cases hv : vS x with
  | some a => rw [hv] at h; cases h
  | none =>
    rcases vS_none hv with ⟨s, hs⟩ | hn
    · right
      have e := self_eq (x := x) (by rw [hs]; rfl)
      cases s with
      | false => exact .inl ⟨e, by unfold Format.order; rw [hs, readMax]; rfl⟩
      | true => exact .inr ⟨e, by unfold Format.order; rw [hs, readMax]; rfl, by unfold Format.order; rw [hs, readMin]; rfl⟩
    · exact .inl (self_ne hn)
/-- A height passes both tests. -/
theorem num_hgt {x : Nat} (h : hgtB x = true) : (single.order x 1233125376 == some .gt) = false ∧ (single.order x 3380609024 == some .lt) = false := by
  unfold hgtB at h
  cases hv : vS x with
  | none => rw [hv] at h; cases h
  | some a =>
    rw [hv] at h
    simp at h
    refine ⟨by rw [gtr_val hv vS_top]; simp; omega, by rw [lss_val hv vS_bot]; simp; omega⟩
/-- A finite single that is none falls at one. -/
theorem num_out {x : Nat} (f : finB x = true) (h : hgtB x = false) : (single.order x 1233125376 == some .gt) = true ∨ ((single.order x 1233125376 == some .gt) = false ∧ (single.order x 3380609024 == some .lt) = true) := by
  unfold finB at f
  unfold hgtB at h
  cases hv : vS x with
  | none => rw [hv] at f; cases f
  | some a =>
    rw [hv] at h
    simp at h
    rw [gtr_val hv vS_top, lss_val hv vS_bot]
    by_cases c : vTop < a
    · exact .inl (by simp [c])
    · exact .inr ⟨by simp [c], by simp; by_cases d : -vTop ≤ a; have := h d; omega; omega⟩
end Go.Proofs.Ytkcehbnmcdppkaa.Fl

/- Contract: the references' NumberError over a list of singles that is known cell by cell. -/
namespace Go.Proofs.Ytkcehbnmcdppkaa
open Go.RowKit Fl
set_option linter.unusedVariables false

set_option maxHeartbeats 2000000 in
theorem qNumberError_row (b off cap n : Nat) (v : Nat → Nat) (hl : n ≤ 9223372036854775807) (w : World) (hc : FlAt w b off n v) :
    Calls Try.prog 24 #[.slice (some ⟨b, off, none⟩) n cap] w fun e w' => e = .returned (.int .i64 (fldE n v)) ∧ w = w' := by
  go_enter Try.func24, Try.ntmps24
  go_wp2
  go_loop [9] (fun i => ∃ k : Nat, k ≤ n ∧ i = .int .i64 k ∧ allB k (fun i => finB (v i)) = true) (fun i => n - (intOf i).toNat)
  case atStart => exact ⟨0, Nat.zero_le _, rfl, rfl⟩
  case round =>
    obtain ⟨k, hk, rfl, hall⟩ := hrel
    have HA := Lib.hid hall
    clear hall
    by_cases hlt : k < n
    · have hcell := hc k hlt
      cases hf : finB (v k) with
      | true =>
        have HB := Lib.hid hf
        obtain ⟨t1, t2, t3⟩ := num_fin hf
        rw [← f32fmt] at t1 t2 t3
        have t1' : (FloatKind.f32.format.order (v k) (v k) != some .eq) = false := by rw [bne, t1]; rfl
        clear hf t1
        go_wp2
        go_round
        case rel => exact ⟨k + 1, by omega, by go_num, allB_iff.2 fun i hi => by rcases Nat.lt_or_ge i k with c | c; exact allB_iff.1 HA.out i c; rw [show i = k by omega]; exact HB.out⟩
        case measure => simp [intOf]; omega
      | false =>
        have HB := Lib.hid hf
        rcases num_inf hf with t1 | ⟨t1, t2⟩ | ⟨t1, t2, t3⟩
        · rw [← f32fmt] at t1
          have t1' : (FloatKind.f32.format.order (v k) (v k) != some .eq) = true := by rw [bne, t1]; rfl
          clear hf t1
          go_wp2
          go_ret
          exact ⟨ret_int (by unfold fldE; rw [allB_no hlt HB.out]; rfl), rfl⟩
        · rw [← f32fmt] at t1 t2
          have t1' : (FloatKind.f32.format.order (v k) (v k) != some .eq) = false := by rw [bne, t1]; rfl
          clear hf t1
          go_wp2
          go_ret
          exact ⟨ret_int (by unfold fldE; rw [allB_no hlt HB.out]; rfl), rfl⟩
        · rw [← f32fmt] at t1 t2 t3
          have t1' : (FloatKind.f32.format.order (v k) (v k) != some .eq) = false := by rw [bne, t1]; rfl
          clear hf t1
          go_wp2
          go_ret
          exact ⟨ret_int (by unfold fldE; rw [allB_no hlt HB.out]; rfl), rfl⟩
    · have hkn : k = n := by omega
      subst hkn
      go_wp2
      go_loop [27] (fun i => ∃ j : Nat, j ≤ k ∧ i = .int .i64 j ∧ allB j (fun i => hgtB (v i)) = true) (fun i => k - (intOf i).toNat)
      case atStart => exact ⟨0, Nat.zero_le _, rfl, rfl⟩
      case round =>
        obtain ⟨j, hj, rfl, hall2⟩ := hrel
        have HH := Lib.hid hall2
        clear hall2
        by_cases hlt2 : j < k
        · have hcell := hc j hlt2
          cases hb : hgtB (v j) with
          | true =>
            have HB := Lib.hid hb
            obtain ⟨t1, t2⟩ := num_hgt hb
            rw [← f32fmt] at t1 t2
            clear hb
            go_wp2
            go_round
            case rel => exact ⟨j + 1, by omega, by go_num, allB_iff.2 fun i hi => by rcases Nat.lt_or_ge i j with c | c; exact allB_iff.1 HH.out i c; rw [show i = j by omega]; exact HB.out⟩
            case measure => simp [intOf]; omega
          | false =>
            have HB := Lib.hid hb
            rcases num_out (allB_iff.1 HA.out j hlt2) hb with t1 | ⟨t1, t2⟩
            · rw [← f32fmt] at t1
              clear hb
              go_wp2
              go_ret
              exact ⟨ret_int (by unfold fldE hgtE; rw [HA.out, allB_no hlt2 HB.out]; rfl), rfl⟩
            · rw [← f32fmt] at t1 t2
              clear hb
              go_wp2
              go_ret
              exact ⟨ret_int (by unfold fldE hgtE; rw [HA.out, allB_no hlt2 HB.out]; rfl), rfl⟩
        · go_wp2
          go_ret
          have : j = k := by omega
          subst this
          exact ⟨ret_int (by unfold fldE hgtE; rw [HA.out, HH.out]; rfl), rfl⟩
end Go.Proofs.Ytkcehbnmcdppkaa

/- Contracts: Index; byPlace and Make, whatever function they are given. -/
namespace Go.Proofs.Ytkcehbnmcdppkaa
open Go.RowKit Fl
set_option linter.unusedVariables false

theorem enters_place1 : Enters 173 := by intro args W; simp [callFunc, Try.func173, Try.f173]

set_option maxHeartbeats 1000000 in
theorem index_any (X Y : Int) (W H : Nat) (i : Nat) (x y : Int) (w : World) (hX1 : -16777216 ≤ X) (hX2 : X ≤ 16777216) (hY1 : -16777216 ≤ Y) (hY2 : Y ≤ 16777216) (hW1 : 1 ≤ W) (hW2 : W ≤ 512) (hH2 : H ≤ 512)
    (h1 : X ≤ x) (h2 : x < X + W) (h3 : Y ≤ y) (h4 : y < Y + H) (hi : (i : Int) = (y - Y) * W + (x - X)) (hn : i ≤ 65536) :
    Calls Try.prog 112 #[reg X Y W H, .int .i64 x, .int .i64 y] w fun e w' => e = .returned (.int .i64 (i : Int)) ∧ w.alloc (regObj X Y W H) = w' := by
  have hq : 0 ≤ (y - Y) * W := Int.mul_nonneg (by omega) (by omega)
  have e2 : wrap64 ((y - Y) * W) = (y - Y) * W := IntWalk.wrap64_in _ ⟨by omega, by omega⟩
  have e3 : wrap64 ((y - Y) * W + x) = (y - Y) * W + x := IntWalk.wrap64_in _ ⟨by omega, by omega⟩
  have e4 : wrap64 ((y - Y) * W + x - X) = (i : Int) := by rw [IntWalk.wrap64_in _ ⟨by omega, by omega⟩]; omega
  clear hi hq
  go_enter Try.func112, Try.ntmps112
  go_wp2
  go_ret
  exact ⟨ret_int e4, rfl⟩

/-- A function value in a box. -/
abbrev fnObj (g : Nat) (caps : Array Value) : Obj := .cells #[.func (.func g) #[] caps] 123

set_option maxHeartbeats 2000000 in
theorem place1_any (X Y : Int) (W H n : Nat) (g : Nat) (caps : Array Value) (f : Nat → Nat) (p q : Nat) (w : World) (hcall : Enters g) (hcl : Clos2 g caps X Y W H f w)
    (hp : w.heap[p]? = some (fnObj g caps)) (hq : w.heap[q]? = some (regObj X Y W H)) (hX1 : -16777216 ≤ X) (hX2 : X ≤ 16777216) (hY1 : -16777216 ≤ Y) (hY2 : Y ≤ 16777216) (hW1 : 1 ≤ W) (hW2 : W ≤ 512) (hH2 : H ≤ 512) (hn : n = H * W) :
    Clos1 173 #[.pointer (some ⟨p, 0, none⟩), .pointer (some ⟨q, 0, none⟩)] n f w := by
  intro i w2 hi hb
  have hdm := Nat.div_add_mod i W
  have hml := Nat.mod_lt i (show 0 < W by omega)
  have hdl : i / W < H := Nat.div_lt_of_lt_mul (by rw [Nat.mul_comm]; omega)
  obtain ⟨a, ha⟩ : ∃ a : Nat, a = i % W := ⟨_, rfl⟩
  obtain ⟨b, hb'⟩ : ∃ b : Nat, b = i / W := ⟨_, rfl⟩
  rw [← ha, ← hb'] at hdm
  rw [← ha] at hml
  rw [← hb'] at hdl
  have ei : (i : Int) = ((Y + b) - Y) * W + ((X + a) - X) := by
    rw [show Y + (b : Int) - Y = b by omega, show X + (a : Int) - X = a by omega, ← hdm]; simp [Int.mul_comm]
  have CC := Lib.hid (fun W' (hB : Below w2.heap.size w2 W') => hcl (X + a) (Y + b) i W' (by omega) (by omega) (by omega) (by omega) ei (hb.trans (hB.mono hb.size)))
  have P := blkStay hp hb
  have Q := blkStay hq hb
  have HP := Lib.hid P
  have HQ := Lib.hid Q
  obtain ⟨cP, fP, zP⟩ := blkC P
  obtain ⟨cQ, fQ, zQ⟩ := blkC Q
  unfold Enters at hcall
  have t1 : (i : Int).tmod (W : Int) = (a : Int) := by rw [ha]; rw [Int.tmod_eq_emod_of_nonneg (by omega)]; simp
  have t2 : (i : Int).tdiv (W : Int) = (b : Int) := by rw [hb']; rw [Int.tdiv_eq_ediv_of_nonneg (by omega)]; simp
  have t3 : (i : Int) % (W : Int) = (a : Int) := by rw [ha]; simp
  have t4 : (i : Int) / (W : Int) = (b : Int) := by rw [hb']; simp
  have u1 : IntKind.i64.wrap (X + (a : Int)) = X + a := IntWalk.i64_in _ (by omega)
  have u2 : IntKind.i64.wrap (Y + (b : Int)) = Y + b := IntWalk.i64_in _ (by omega)
  have u3 : IntKind.i64.wrap (b : Int) = b := IntWalk.i64_in _ (by omega)
  have w0 : ¬ ((W : Int) = 0) := by omega
  have w0' : ¬ (W = 0) := by omega
  have t5 : ((i : Int) % (W : Int)) = (a : Int) := t3
  have t6 : i % W = a := ha.symm
  have t7 : i / W = b := hb'.symm
  have w1 : (1 : Int) ≤ (W : Int) := by omega
  have i0 : (0 : Int) ≤ (i : Int) := by omega
  have b1 : (a : Int) < 512 := by omega
  have b2 : (b : Int) < 512 := by omega
  clear hp hq P Q hb ei hdm hml hdl ha hb' hcl
  go_enter Try.func173, Try.ntmps173
  go_wp2
  go_region_held3 (fun w' => (∀ o, w'.cell? ⟨q, o, none⟩ = #[.int .i64 X, .int .i64 Y, .int .i64 W, .int .i64 H][o]?) ∧ (∀ o, w'.cell? ⟨p, o, none⟩ = #[.func (.func g) #[] caps][o]?) ∧ Below w2.heap.size w2 w') (first | exact ⟨(blkC (blkStay HQ.out hb9)).1, (blkC (blkStay HP.out hb9)).1, hb9⟩ | exact ⟨(blkC (blkStay HQ.out (by repeat (first | exact Below.refl _ _ | refine Below.alloc ?_ (by first | omega | (simp; done) | (simp; omega)) _ | refine Below.setCell ?_ (by first | omega | (simp; done) | (simp; omega)) _ | refine Below.drew ?_)))).1, (blkC (blkStay HP.out (by repeat (first | exact Below.refl _ _ | refine Below.alloc ?_ (by first | omega | (simp; done) | (simp; omega)) _ | refine Below.setCell ?_ (by first | omega | (simp; done) | (simp; omega)) _ | refine Below.drew ?_)))).1, (by repeat (first | exact Below.refl _ _ | refine Below.alloc ?_ (by first | omega | (simp; done) | (simp; omega)) _ | refine Below.setCell ?_ (by first | omega | (simp; done) | (simp; omega)) _ | refine Below.drew ?_))⟩) (first | (go_simp; (with_reducible refine Calls.mono (CC.out _ ?_) ?_); exact (by repeat (first | exact Below.refl _ _ | refine Below.alloc ?_ (by first | omega | (simp; done) | (simp; omega)) _ | refine Below.setCell ?_ (by first | omega | (simp; done) | (simp; omega)) _ | refine Below.drew ?_)); rintro e w' ⟨rfl, hb8⟩; have hb9 : Below w2.heap.size w2 w' := ⟨hb8.os, hb8.tape, hb8.output, hb8.size, hb8.block⟩; clear hb8))
  rename_i hHeld
  go_wp2
  go_ret
  exact ⟨rfl, hHeld.2.2⟩

set_option maxHeartbeats 2000000 in
theorem byPlace_any (X Y : Int) (W H n : Nat) (g : Nat) (caps : Array Value) (f : Nat → Nat) (w : World) (hcall : Enters g) (hcl : Clos2 g caps X Y W H f w)
    (hX1 : -16777216 ≤ X) (hX2 : X ≤ 16777216) (hY1 : -16777216 ≤ Y) (hY2 : Y ≤ 16777216) (hW1 : 1 ≤ W) (hW2 : W ≤ 512) (hH1 : 1 ≤ H) (hH2 : H ≤ 512) (hn : n = H * W) (hn2 : n ≤ 65536) :
    Calls Try.prog 144 #[reg X Y W H, .func (.func g) #[] caps] w (MadePost w X Y W H n f) := by
  have en : (n : Int) = (W : Int) * (H : Int) := by rw [hn, Nat.mul_comm]; simp
  have n1 : 1 ≤ n := by rw [hn]; exact Nat.mul_pos hH1 hW1
  have BC := Lib.hid (byCell_any X Y W H n 173 #[.pointer (some ⟨w.heap.size + 1, 0, none⟩), .pointer (some ⟨w.heap.size, 0, none⟩)] f (((w.alloc (regObj X Y W H)).alloc (fnObj g caps)).alloc (fldO 0 0 0 0 (.slice none 0 0))) enters_place1
    (place1_any X Y W H n g caps f (w.heap.size + 1) w.heap.size _ hcall (fun x y i W' h1 h2 h3 h4 h5 hb => hcl x y i W' h1 h2 h3 h4 h5 (Below.trans (by repeat (first | exact Below.refl _ _ | refine Below.alloc ?_ (by first | omega | (simp; done) | (simp; omega)) _ | refine Below.setCell ?_ (by first | omega | (simp; done) | (simp; omega)) _ | refine Below.drew ?_)) (hb.mono (by simp; omega)))) (by ((simp only [heap_alloc_get, heap_size_alloc, if_true]) <;> ((repeat' split) <;> first | rfl | omega))) (by ((simp only [heap_alloc_get, heap_size_alloc, if_true]) <;> ((repeat' split) <;> first | rfl | omega))) hX1 hX2 hY1 hY2 hW1 hW2 hH2 hn) en n1 hn2)
  clear hcl hcall hn en
  go_enter Try.func144, Try.ntmps144
  go_wp2_with fail
  refine BC.out.mono ?_
  intro e w4 hmade
  rcases hmade with ⟨hall, b', cap', rfl, hb', hlt', hrow, hbel⟩ | ⟨hall, rfl, hbel⟩
  · have hS := Lib.hid (blkStay (b := w.heap.size + 1 + 1) (o := fldO 0 0 0 0 (.slice none 0 0)) (by ((simp only [heap_alloc_get, heap_size_alloc, if_true]) <;> ((repeat' split) <;> first | rfl | omega))) hbel)
    have hB : Below w.heap.size w w4 := Below.trans (by repeat (first | exact Below.refl _ _ | refine Below.alloc ?_ (by first | omega | (simp; done) | (simp; omega)) _ | refine Below.setCell ?_ (by first | omega | (simp; done) | (simp; omega)) _ | refine Below.drew ?_)) (Below.mono hbel (by simp; omega))
    obtain ⟨cS, fS, zS⟩ := blkC hS.out
    have HB := Lib.hid hb'
    clear hb'
    go_wp2
    refine bodyPost_ret (v := .tuple #[fldV X Y W H (.slice (some ⟨b', 0, none⟩) n cap'), .int .i64 0]) (by simp [results, Try.results144, go_sem, cS]) rfl ?_
    have hb' := HB.out
    simp only [heap_size_alloc] at hb'
    exact .inl ⟨hall, b', cap', rfl, by omega, by rw [set5_size]; exact hlt', flAt_congr hrow (set5_heap w4 _ _ _ _ _ _ _ (by omega)), set5_below hB _ _ _ _ _ _ (by omega)⟩
  · have hS := Lib.hid (blkStay (b := w.heap.size + 1 + 1) (o := fldO 0 0 0 0 (.slice none 0 0)) (by ((simp only [heap_alloc_get, heap_size_alloc, if_true]) <;> ((repeat' split) <;> first | rfl | omega))) hbel)
    have hB : Below w.heap.size w w4 := Below.trans (by repeat (first | exact Below.refl _ _ | refine Below.alloc ?_ (by first | omega | (simp; done) | (simp; omega)) _ | refine Below.setCell ?_ (by first | omega | (simp; done) | (simp; omega)) _ | refine Below.drew ?_)) (Below.mono hbel (by simp; omega))
    obtain ⟨cS, fS, zS⟩ := blkC hS.out
    go_wp2
    refine bodyPost_ret (v := .tuple #[fldV 0 0 0 0 (.slice none 0 0), .int .i64 3]) (by simp [results, Try.results144, go_sem, cS]) rfl ?_
    exact .inr ⟨hall, rfl, set5_below hB _ _ _ _ _ _ (by omega)⟩

/-- What Make answers. -/
def MakePost (w : World) (X Y W H : Int) (n : Nat) (f : Nat → Nat) (e : Ending) (w' : World) : Prop :=
  (checkR X Y W H ≠ 0 ∧ e = .returned (.tuple #[fldV 0 0 0 0 (.slice none 0 0), .int .i64 (checkR X Y W H)]) ∧ Below w.heap.size w w') ∨ (checkR X Y W H = 0 ∧ MadePost w X Y W H n f e w')

set_option maxHeartbeats 2000000 in
theorem make_ok (X Y : Int) (W H n : Nat) (g : Nat) (caps : Array Value) (f : Nat → Nat) (w : World) (hcall : Enters g) (hcl : Clos2 g caps X Y W H f w) (h0 : checkR X Y W H = 0) (hn : n = H * W) :
    Calls Try.prog 109 #[reg X Y W H, .func (.func g) #[] caps] w (MadePost w X Y W H n f) := by
  obtain ⟨b1, b2, b3, b4, b5, b6, b7, b8, b9⟩ := checkR_zero h0
  have hn2 : n ≤ 65536 := by
    have : ((W : Int) * (H : Int)) = (n : Int) := by rw [hn, Nat.mul_comm]; simp
    omega
  have RC := Lib.hid (fun w => checkRegion_any X Y W H w)
  rw [h0] at RC
  have BP := Lib.hid (fun W' (hb : Below w.heap.size w W') => byPlace_any X Y W H n g caps f W' hcall (fun x y i W'' h1 h2 h3 h4 h5 hb' => hcl x y i W'' h1 h2 h3 h4 h5 (hb.trans (hb'.mono hb.size))) (by omega) (by omega) (by omega) (by omega) (by omega) (by omega) (by omega) (by omega) hn hn2)
  clear hcl hcall h0 b1 b2 b3 b4 b5 b6 b7 b8 b9 hn hn2
  go_enter Try.func109, Try.ntmps109
  go_wp2_with (first | (go_at_call 84; refine (RC.out _).mono ?_; rintro e w' ⟨rfl, rfl⟩))
  refine (BP.out _ (by repeat (first | exact Below.refl _ _ | refine Below.alloc ?_ (by first | omega | (simp; done) | (simp; omega)) _ | refine Below.setCell ?_ (by first | omega | (simp; done) | (simp; omega)) _ | refine Below.drew ?_))).mono ?_
  intro e w4 hmade
  rcases hmade with ⟨hall, b', cap', rfl, hb', hlt', hrow, hbel⟩ | ⟨hall, rfl, hbel⟩
  · have hS := Lib.hid (blkStay (b := w.heap.size + 1) (o := fldO 0 0 0 0 (.slice none 0 0)) (by ((simp only [heap_alloc_get, heap_size_alloc, if_true]) <;> ((repeat' split) <;> first | rfl | omega))) hbel)
    have hB : Below w.heap.size w w4 := Below.trans (by repeat (first | exact Below.refl _ _ | refine Below.alloc ?_ (by first | omega | (simp; done) | (simp; omega)) _ | refine Below.setCell ?_ (by first | omega | (simp; done) | (simp; omega)) _ | refine Below.drew ?_)) (Below.mono hbel (by simp; omega))
    obtain ⟨cS, fS, zS⟩ := blkC hS.out
    have HB := Lib.hid hb'
    clear hb'
    go_wp2
    refine bodyPost_ret (v := .tuple #[fldV X Y W H (.slice (some ⟨b', 0, none⟩) n cap'), .int .i64 0]) (by simp [results, Try.results109, go_sem, cS]) rfl ?_
    have hb' := HB.out
    simp only [heap_size_alloc] at hb'
    exact .inl ⟨hall, b', cap', rfl, by omega, by rw [set5_size]; exact hlt', flAt_congr hrow (set5_heap w4 _ _ _ _ _ _ _ (by omega)), set5_below hB _ _ _ _ _ _ (by omega)⟩
  · have hS := Lib.hid (blkStay (b := w.heap.size + 1) (o := fldO 0 0 0 0 (.slice none 0 0)) (by ((simp only [heap_alloc_get, heap_size_alloc, if_true]) <;> ((repeat' split) <;> first | rfl | omega))) hbel)
    have hB : Below w.heap.size w w4 := Below.trans (by repeat (first | exact Below.refl _ _ | refine Below.alloc ?_ (by first | omega | (simp; done) | (simp; omega)) _ | refine Below.setCell ?_ (by first | omega | (simp; done) | (simp; omega)) _ | refine Below.drew ?_)) (Below.mono hbel (by simp; omega))
    obtain ⟨cS, fS, zS⟩ := blkC hS.out
    go_wp2
    refine bodyPost_ret (v := .tuple #[fldV 0 0 0 0 (.slice none 0 0), .int .i64 3]) (by simp [results, Try.results109, go_sem, cS]) rfl ?_
    exact .inr ⟨hall, rfl, set5_below hB _ _ _ _ _ _ (by omega)⟩

set_option maxHeartbeats 2000000 in
theorem make_no (X Y W H : Int) (v : Value) (k : Int) (w : World) (hv : ∃ g caps, v = .func (.func g) #[] caps) (h0 : checkR X Y W H = k) (hk : k = 3 ∨ k = 4 ∨ k = 5) :
    Calls Try.prog 109 #[reg X Y W H, v] w fun e w' => e = .returned (.tuple #[fldV 0 0 0 0 (.slice none 0 0), .int .i64 k]) ∧ Below w.heap.size w w' := by
  obtain ⟨g, caps, rfl⟩ := hv
  have RC := Lib.hid (fun w => checkRegion_any X Y W H w)
  rw [h0] at RC
  clear h0
  rcases hk with rfl | rfl | rfl
  all_goals go_enter Try.func109, Try.ntmps109
  all_goals go_wp2_with (first | (go_at_call 84; refine (RC.out _).mono ?_; rintro e w' ⟨rfl, rfl⟩))
  · refine bodyPost_ret (v := .tuple #[fldV 0 0 0 0 (.slice none 0 0), .int .i64 3]) (by simp [results, Try.results109, go_sem]) rfl ⟨rfl, ?_⟩
    exact (by repeat (first | exact Below.refl _ _ | refine Below.alloc ?_ (by first | omega | (simp; done) | (simp; omega)) _ | refine Below.setCell ?_ (by first | omega | (simp; done) | (simp; omega)) _ | refine Below.drew ?_))
  · refine bodyPost_ret (v := .tuple #[fldV 0 0 0 0 (.slice none 0 0), .int .i64 4]) (by simp [results, Try.results109, go_sem]) rfl ⟨rfl, ?_⟩
    exact (by repeat (first | exact Below.refl _ _ | refine Below.alloc ?_ (by first | omega | (simp; done) | (simp; omega)) _ | refine Below.setCell ?_ (by first | omega | (simp; done) | (simp; omega)) _ | refine Below.drew ?_))
  · refine bodyPost_ret (v := .tuple #[fldV 0 0 0 0 (.slice none 0 0), .int .i64 5]) (by simp [results, Try.results109, go_sem]) rfl ⟨rfl, ?_⟩
    exact (by repeat (first | exact Below.refl _ _ | refine Below.alloc ?_ (by first | omega | (simp; done) | (simp; omega)) _ | refine Below.setCell ?_ (by first | omega | (simp; done) | (simp; omega)) _ | refine Below.drew ?_))
end Go.Proofs.Ytkcehbnmcdppkaa

/- Plain mathematics of binary heaps: what one exchange on the way up or down leaves. -/
namespace Go.Proofs.Ytkcehbnmcdppkaa
set_option linter.unusedVariables false

/-- Two places exchanged. -/
def swp (c : Nat → Nat) (i j : Nat) : Nat → Nat := fun k => if k = i then c j else if k = j then c i else c k
theorem swp_i (c : Nat → Nat) (i j : Nat) : swp c i j i = c j := by unfold swp; rw [if_pos rfl]
theorem swp_j (c : Nat → Nat) (i j : Nat) : swp c i j j = c i := by
  unfold swp
  by_cases h : j = i
  · rw [if_pos h, h]
  · rw [if_neg h, if_pos rfl]
theorem swp_o (c : Nat → Nat) {i j k : Nat} (h1 : k ≠ i) (h2 : k ≠ j) : swp c i j k = c k := by unfold swp; rw [if_neg h1, if_neg h2]

/-- The same cells at the first m places. -/
def SameSet (m : Nat) (c d : Nat → Nat) : Prop := ∀ x, (∃ i, i < m ∧ c i = x) ↔ (∃ i, i < m ∧ d i = x)
theorem SameSet.rfl' {m : Nat} {c : Nat → Nat} : SameSet m c c := fun _ => Iff.rfl
theorem SameSet.trans {m : Nat} {a b c : Nat → Nat} (h : SameSet m a b) (g : SameSet m b c) : SameSet m a c := fun x => (h x).trans (g x)
theorem same_swp {m i j : Nat} {c : Nat → Nat} (hi : i < m) (hj : j < m) : SameSet m c (swp c i j) := by
  intro x
  constructor
  · rintro ⟨k, hk, rfl⟩
    by_cases h1 : k = i
    · exact ⟨j, hj, by rw [swp_j, h1]⟩
    · by_cases h2 : k = j
      · exact ⟨i, hi, by rw [swp_i, h2]⟩
      · exact ⟨k, hk, swp_o c h1 h2⟩
  · rintro ⟨k, hk, rfl⟩
    by_cases h1 : k = i
    · exact ⟨j, hj, by rw [h1, swp_i]⟩
    · by_cases h2 : k = j
      · exact ⟨i, hi, by rw [h2, swp_j]⟩
      · exact ⟨k, hk, (swp_o c h1 h2).symm⟩
theorem SameSet.all {m : Nat} {c d : Nat → Nat} {P : Nat → Prop} (h : SameSet m c d) (hp : ∀ i, i < m → P (c i)) : ∀ i, i < m → P (d i) := fun i hi => by
  obtain ⟨k, hk, e⟩ := (h (d i)).2 ⟨i, hi, rfl⟩
  rw [← e]; exact hp k hk

/-- A heap of m places. -/
def Heap (m : Nat) (K : Nat → Int) (c : Nat → Nat) : Prop := ∀ i, 0 < i → i < m → K (c ((i - 1) / 2)) ≤ K (c i)
/-- A heap but for the place j, which may be too low. -/
def HeapUp (m : Nat) (K : Nat → Int) (c : Nat → Nat) (j : Nat) : Prop :=
  (∀ i, 0 < i → i < m → i ≠ j → K (c ((i - 1) / 2)) ≤ K (c i)) ∧ ∀ i, 0 < i → i < m → (i - 1) / 2 = j → 0 < j → K (c ((j - 1) / 2)) ≤ K (c i)

theorem up_start {m : Nat} {K : Nat → Int} {c d : Nat → Nat} (h : Heap m K c) (e : ∀ i, i < m → d i = c i) : HeapUp (m + 1) K d m :=
  ⟨fun i h0 h1 h2 => by rw [e i (by omega), e _ (by omega)]; exact h i h0 (by omega), fun i h0 h1 h2 => by omega⟩
theorem up_done {m : Nat} {K : Nat → Int} {c : Nat → Nat} {j : Nat} (h : HeapUp m K c j) (hd : j = 0 ∨ ¬ K (c j) < K (c ((j - 1) / 2))) : Heap m K c := by
  intro i h0 h1
  by_cases e : i = j
  · subst e
    rcases hd with hd | hd <;> omega
  · exact h.1 i h0 h1 e
theorem up_swap {m : Nat} {K : Nat → Int} {c : Nat → Nat} {j : Nat} (h : HeapUp m K c j) (h0 : 0 < j) (hl : K (c j) < K (c ((j - 1) / 2))) : HeapUp m K (swp c ((j - 1) / 2) j) ((j - 1) / 2) := by
  obtain ⟨p, hp⟩ : ∃ p, (j - 1) / 2 = p := ⟨_, rfl⟩
  rw [hp] at hl ⊢
  constructor
  · intro i i0 i1 i2
    by_cases e1 : i = j
    · subst e1; rw [hp, swp_i, swp_j]; omega
    · rw [swp_o c i2 e1]
      by_cases e2 : (i - 1) / 2 = p
      · rw [e2, swp_i]
        have := h.1 i i0 i1 e1
        rw [e2] at this; omega
      · by_cases e3 : (i - 1) / 2 = j
        · rw [e3, swp_j]
          have := h.2 i i0 i1 e3 h0
          rwa [hp] at this
        · rw [swp_o c e2 e3]; exact h.1 i i0 i1 e1
  · intro i i0 i1 i2 p0
    have q1 : (p - 1) / 2 ≠ p := by omega
    have q2 : (p - 1) / 2 ≠ j := by omega
    rw [swp_o c q1 q2]
    have a := h.1 p p0 (by omega) (by omega)
    by_cases e1 : i = j
    · subst e1; rw [swp_j]; exact a
    · have e2 : i ≠ p := by omega
      rw [swp_o c e2 e1]
      have b := h.1 i i0 i1 e1
      rw [i2] at b; omega

/-- A heap from the place L on. -/
def HeapFrom (L n : Nat) (K : Nat → Int) (c : Nat → Nat) : Prop := ∀ i, 0 < i → i < n → L ≤ (i - 1) / 2 → K (c ((i - 1) / 2)) ≤ K (c i)
/-- A heap from L on but for the place j, which may be too high. -/
def HeapDown (L n : Nat) (K : Nat → Int) (c : Nat → Nat) (j : Nat) : Prop :=
  (∀ i, 0 < i → i < n → L ≤ (i - 1) / 2 → (i - 1) / 2 ≠ j → K (c ((i - 1) / 2)) ≤ K (c i)) ∧ ∀ i, 0 < i → i < n → (i - 1) / 2 = j → 0 < j → L ≤ (j - 1) / 2 → K (c ((j - 1) / 2)) ≤ K (c i)

theorem down_start {L n : Nat} {K : Nat → Int} {c : Nat → Nat} (h : HeapFrom (L + 1) n K c) : HeapDown L n K c L :=
  ⟨fun i h0 h1 h2 h3 => h i h0 h1 (by omega), fun i _ _ _ _ _ => by omega⟩
theorem down_swap {L n : Nat} {K : Nat → Int} {c : Nat → Nat} {p j : Nat} (h : HeapDown L n K c p) (hL : L ≤ p) (hj0 : 0 < j) (hj : j < n) (hp : (j - 1) / 2 = p) (hl : K (c j) < K (c p))
    (hs : ∀ i, 0 < i → i < n → (i - 1) / 2 = p → K (c j) ≤ K (c i)) : HeapDown L n K (swp c p j) j := by
  have pj : p ≠ j := by omega
  constructor
  · intro i i0 i1 i2 i3
    by_cases e1 : i = j
    · subst e1; rw [hp, swp_i, swp_j]; omega
    · by_cases e2 : (i - 1) / 2 = p
      · have e3 : i ≠ p := by omega
        rw [e2, swp_i, swp_o c e3 e1]; exact hs i i0 i1 e2
      · rw [swp_o c e2 i3]
        by_cases e4 : i = p
        · subst e4
          rw [swp_i]
          exact h.2 j hj0 hj hp (by omega) i2
        · rw [swp_o c e4 e1]; exact h.1 i i0 i1 i2 e2
  · intro i i0 i1 i2 j0 i3
    have e1 : i ≠ j := by omega
    have e2 : i ≠ p := by omega
    rw [hp, swp_i, swp_o c e2 e1]
    have := h.1 i i0 i1 (by omega) (by omega)
    rwa [i2] at this
theorem down_done {L n : Nat} {K : Nat → Int} {c : Nat → Nat} {p : Nat} (h : HeapDown L n K c p) (hs : ∀ i, 0 < i → i < n → (i - 1) / 2 = p → K (c p) ≤ K (c i)) : HeapFrom L n K c := by
  intro i i0 i1 i2
  by_cases e : (i - 1) / 2 = p
  · rw [e]; exact hs i i0 i1 e
  · exact h.1 i i0 i1 i2 e
theorem heap_from {n : Nat} {K : Nat → Int} {c : Nat → Nat} (h : HeapFrom 0 n K c) : Heap n K c := fun i a b => h i a b (Nat.zero_le _)
theorem heap_all {n : Nat} {K : Nat → Int} {c : Nat → Nat} : HeapFrom (n / 2) n K c := fun i a b h => by omega
/-- The children of a place: the lesser one of them is at most as high as both. -/
theorem kids {n p j : Nat} {K : Nat → Int} {c : Nat → Nat} (hj : j = 2 * p + 1 ∨ j = 2 * p + 2) (h1 : j = 2 * p + 1 → 2 * p + 2 < n → K (c (2 * p + 1)) ≤ K (c (2 * p + 2))) (h2 : j = 2 * p + 2 → K (c (2 * p + 2)) ≤ K (c (2 * p + 1))) :
    ∀ i, 0 < i → i < n → (i - 1) / 2 = p → K (c j) ≤ K (c i) := by
  intro i i0 i1 i2
  have hi : i = 2 * p + 1 ∨ i = 2 * p + 2 := by omega
  rcases hj with rfl | rfl <;> rcases hi with rfl | rfl
  · exact Int.le_refl _
  · exact h1 rfl i1
  · exact h2 rfl
  · exact Int.le_refl _
theorem heap_min {m : Nat} {K : Nat → Int} {c : Nat → Nat} (h : Heap m K c) : ∀ i, i < m → K (c 0) ≤ K (c i) := by
  intro i
  induction i using Nat.strongRecOn with
  | ind i ih =>
    intro hi
    by_cases e : i = 0
    · subst e; exact Int.le_refl _
    · have a := h i (by omega) hi
      have b := ih ((i - 1) / 2) (by omega) (by omega)
      omega
/-- The root exchanged with the last place: a heap from 1 on, of one place less. -/
theorem pop_start {m : Nat} {K : Nat → Int} {c : Nat → Nat} (h : Heap (m + 1) K c) : HeapFrom 1 m K (swp c 0 m) := by
  intro i i0 i1 i2
  rw [swp_o c (show i ≠ 0 by omega) (show i ≠ m by omega), swp_o c (show (i - 1) / 2 ≠ 0 by omega) (show (i - 1) / 2 ≠ m by omega)]
  exact h i i0 (by omega)
end Go.Proofs.Ytkcehbnmcdppkaa

/- Plain mathematics of filling: a spill, one step farther; what is known while the lowest cell that has been reached is taken, and goes on. -/
namespace Go.Proofs.Ytkcehbnmcdppkaa
open Go.RowKit Fl
set_option linter.unusedVariables false

/-- The value of a word, 0 where it has none. -/
def vI (x : Nat) : Int := (vS x).getD 0
theorem vI_of {x : Nat} {a : Int} (h : vS x = some a) : vI x = a := by unfold vI; rw [h]; rfl
theorem f32f' : FloatKind.f32.format = Ieee.single := rfl
theorem top_one : vTop = 1048576 * (one : Int) := by
  obtain ⟨J, hJ⟩ : ∃ J : Nat, J = 1074 := ⟨_, rfl⟩
  unfold vTop
  rw [one_pow hJ, Nat.one_mul, show (20 + 1074 : Int).toNat = 20 + J by omega, Nat.pow_add]
  simp

/-- A spill of the rank q. -/
def OkW (q x : Nat) : Prop := ∃ a, vS x = some a ∧ -vTop ≤ a ∧ a ≤ ((4096 * (256 + q) : Nat) : Int) * (one : Int)
/-- A slope. -/
def SlW (sl : Nat) : Prop := ∃ v, vS sl = some v ∧ 0 ≤ v ∧ v ≤ 1024 * (one : Int)
/-- The spill at a cell of the height h, from a spill. -/
def stepW (sl a h : Nat) : Nat := grtW h (addW a sl)

theorem OkW.mono {q r x : Nat} (h : OkW q x) (hq : q ≤ r) : OkW r x := by
  obtain ⟨a, h1, h2, h3⟩ := h
  refine ⟨a, h1, h2, Int.le_trans h3 (Int.mul_le_mul_of_nonneg_right (by omega) (Int.natCast_nonneg _))⟩
theorem OkW.val {q x : Nat} (h : OkW q x) : vS x = some (vI x) := by
  obtain ⟨a, h1, _⟩ := h
  rw [vI_of h1, h1]
theorem hgt_vT {x : Nat} (h : hgtB x = true) : ∃ a, vS x = some a ∧ -vTop ≤ a ∧ a ≤ vTop := by
  unfold hgtB at h
  split at h
  · rename_i a ha
    simp at h
    exact ⟨a, ha, h.1, h.2⟩
  · cases h
theorem hgt_ok {x : Nat} (h : hgtB x = true) : OkW 0 x := by
  obtain ⟨a, ha, h1, h2⟩ := hgt_vT h
  refine ⟨a, ha, h1, Int.le_trans h2 (Int.le_of_eq ?_)⟩
  rw [top_one]; simp
theorem OkW.bd {q x : Nat} (h : OkW q x) (hq : q ≤ 1048576) : Bd 33 x := by
  obtain ⟨a, ha, h1, h2⟩ := h
  obtain ⟨J, hJ⟩ : ∃ J : Nat, J = 1074 := ⟨_, rfl⟩
  refine bd_val' (j := 1074 + 33) ha rfl ?_
  rw [top_one, one_pow hJ] at h1
  rw [one_pow hJ] at h2
  rw [show 1074 + 33 = J + 33 by omega, Nat.pow_add]
  have h3 : ((4096 * (256 + q) : Nat) : Int) * ((2 ^ J : Nat) : Int) ≤ 8589934592 * ((2 ^ J : Nat) : Int) := Int.mul_le_mul_of_nonneg_right (by omega) (Int.natCast_nonneg _)
  generalize 2 ^ J = T at *
  omega
theorem SlW.bd {sl : Nat} (h : SlW sl) : Bd 33 sl := by
  obtain ⟨a, ha, h1, h2⟩ := h
  obtain ⟨J, hJ⟩ : ∃ J : Nat, J = 1074 := ⟨_, rfl⟩
  refine bd_val' (j := 1074 + 33) ha rfl ?_
  rw [one_pow hJ] at h2
  rw [show 1074 + 33 = J + 33 by omega, Nat.pow_add]
  generalize 2 ^ J = T at *
  omega

theorem step_parts {sl a h q : Nat} (ha : OkW q a) (hs : SlW sl) (hh : hgtB h = true) (hq : q ≤ 1048576) :
    ∃ r, floatBits .add .f32 a sl = some r ∧ addW a sl = r ∧ Same2 .add 34 a sl ∧ vS r = some (rdS (vI a + vI sl)) ∧ OkW (q + 1) (stepW sl a h) ∧
      vI h ≤ vI (stepW sl a h) ∧ rdS (vI a + vI sl) ≤ vI (stepW sl a h) ∧ (vI (stepW sl a h) = vI h ∨ vI (stepW sl a h) = rdS (vI a + vI sl)) ∧ vI a ≤ vI (stepW sl a h) := by
  have r2 : Same2 .add (33 + 1) a sl := add_same (by omega) (ha.bd hq) hs.bd
  obtain ⟨r, r1, br⟩ := same_ex r2
  have hw : addW a sl = r := by unfold addW; rw [r1]; rfl
  obtain ⟨av, va, a1, a2⟩ := ha
  obtain ⟨sv, vs, s1, s2⟩ := hs
  obtain ⟨hv, vh, h1, h2⟩ := hgt_vT hh
  obtain ⟨J, hJ⟩ : ∃ J : Nat, J = 1074 := ⟨_, rfl⟩
  have up : av + sv ≤ ((4096 * (256 + (q + 1)) : Nat) : Int) * (one : Int) := by
    have e : ((4096 * (256 + (q + 1)) : Nat) : Int) * (one : Int) = ((4096 * (256 + q) : Nat) : Int) * (one : Int) + 4096 * (one : Int) := by
      rw [← Int.add_mul]; exact congrArg (· * (one : Int)) (by omega)
    rw [e]; omega
  have nb : (av + sv).natAbs < 2 ^ (J + 34) := by
    rw [top_one] at a1
    have h3 : ((4096 * (256 + (q + 1)) : Nat) : Int) * (one : Int) ≤ 8589934592 * (one : Int) := Int.mul_le_mul_of_nonneg_right (by omega) (Int.natCast_nonneg _)
    rw [one_pow hJ] at *
    rw [Nat.pow_add]
    have := Nat.two_pow_pos J
    generalize 2 ^ J = T at *
    omega
  have vr := vS_add (B := J + 34) r1 va vs nb (by omega)
  have rup : rdS (av + sv) ≤ ((4096 * (256 + (q + 1)) : Nat) : Int) * (one : Int) := by
    have h := rdS_mono up
    have e : rdS (((4096 * (256 + (q + 1)) : Nat) : Int) * (one : Int)) = ((4096 * (256 + (q + 1)) : Nat) : Int) * (one : Int) := by
      refine rdS_exact (((256 + (q + 1) : Nat)) : Int) (J + 12) (by omega) (by omega) ?_
      rw [one_pow hJ, Nat.pow_add, show (2 : Nat) ^ 12 = 4096 from rfl]
      generalize 2 ^ J = T
      generalize 256 + (q + 1) = z
      simp only [Int.natCast_mul]
      grind
    rwa [e] at h
  have rlo : av ≤ rdS (av + sv) := by
    have := rdS_mono (show av ≤ av + sv by omega)
    rwa [rdS_self va] at this
  have hup : hv ≤ ((4096 * (256 + (q + 1)) : Nat) : Int) * (one : Int) := by
    refine Int.le_trans h2 ?_
    rw [top_one]
    exact Int.mul_le_mul_of_nonneg_right (by omega) (Int.natCast_nonneg _)
  refine ⟨r, r1, hw, r2, by rw [vI_of va, vI_of vs]; exact vr, ?_⟩
  rw [vI_of va, vI_of vs, vI_of vh]
  unfold stepW grtW
  rw [hw, f32f', gtr_val vr vh]
  by_cases c : hv < rdS (av + sv)
  · rw [if_pos (by simpa using c), vI_of vr]
    exact ⟨⟨_, vr, by omega, rup⟩, by omega, by omega, .inr rfl, by omega⟩
  · rw [if_neg (by simpa using c), vI_of vh]
    exact ⟨⟨_, vh, h1, hup⟩, by omega, by omega, .inl rfl, by omega⟩
/-- A greater spill comes to no lesser one. -/
theorem step_mono {sl a b h q : Nat} (ha : OkW q a) (hb : OkW q b) (hs : SlW sl) (hh : hgtB h = true) (hq : q ≤ 1048576) (hab : vI a ≤ vI b) : vI (stepW sl a h) ≤ vI (stepW sl b h) := by
  obtain ⟨_, _, _, _, _, _, a1, a2, a3, _⟩ := step_parts ha hs hh hq
  obtain ⟨_, _, _, _, _, _, b1, b2, b3, _⟩ := step_parts hb hs hh hq
  have := rdS_mono (show vI a + vI sl ≤ vI b + vI sl by omega)
  omega

/-- How many cells have not been reached. -/
def unr (n : Nat) (R : Nat → Bool) : Nat := ((List.range n).filter fun k => !R k).length
def updB (R : Nat → Bool) (k : Nat) : Nat → Bool := fun i => if i = k then true else R i
def updW (s : Nat → Nat) (k x : Nat) : Nat → Nat := fun i => if i = k then x else s i
theorem updB_same (R : Nat → Bool) (k : Nat) : updB R k k = true := by unfold updB; rw [if_pos rfl]
theorem updB_other (R : Nat → Bool) {i k : Nat} (h : i ≠ k) : updB R k i = R i := by unfold updB; rw [if_neg h]
theorem updW_same (s : Nat → Nat) (k x : Nat) : updW s k x k = x := by unfold updW; rw [if_pos rfl]
theorem updW_other (s : Nat → Nat) {i k x : Nat} (h : i ≠ k) : updW s k x i = s i := by unfold updW; rw [if_neg h]
theorem updB_mono {R : Nat → Bool} {i k : Nat} (h : R i = true) : updB R k i = true := by unfold updB; split <;> first | rfl | exact h
theorem unr_upd {n : Nat} {R : Nat → Bool} {k : Nat} (hk : k < n) (h : R k = false) : unr n (updB R k) + 1 = unr n R := by
  unfold unr
  induction n with
  | zero => omega
  | succ n ih =>
    rw [List.range_succ, List.filter_append, List.filter_append, List.length_append, List.length_append]
    by_cases e : k = n
    · subst e
      have e1 : ((List.range k).filter fun i => !updB R k i) = ((List.range k).filter fun i => !R i) := by
        apply List.filter_congr
        intro i hi
        rw [updB_other R (by have := List.mem_range.1 hi; omega)]
      rw [e1]
      simp [updB_same, h]
    · have := ih (by omega)
      have e2 : ([n].filter fun i => !updB R k i) = ([n].filter fun i => !R i) := by
        apply List.filter_congr
        intro i hi
        rw [updB_other R (by simp at hi; omega)]
      rw [e2]
      omega
theorem unr_le (n : Nat) (R : Nat → Bool) : unr n R ≤ n := by
  unfold unr
  exact Nat.le_trans (List.length_filter_le _ _) (by simp)
end Go.Proofs.Ytkcehbnmcdppkaa

/- Plain mathematics of filling: what is known at each head of the loop, and behind it. -/
namespace Go.Proofs.Ytkcehbnmcdppkaa
open Go.RowKit Fl
set_option linter.unusedVariables false

/-- Where the cells lie: the neighbour in a direction, the border, the heights, the slope. -/
structure Gnd where
  n : Nat
  nb : Nat → Nat → Option Nat
  bd : Nat → Bool
  h : Nat → Nat
  sl : Nat
/-- What holds of the ground. -/
structure GndOk (g : Gnd) : Prop where
  n1 : 1 ≤ g.n
  n2 : g.n ≤ 65536
  lt : ∀ x d k, g.nb x d = some k → k < g.n
  hgt : ∀ k, k < g.n → hgtB (g.h k) = true
  slo : SlW g.sl
  back : ∀ x d k, x < g.n → d < 8 → g.nb x d = some k → ∃ e, e < 8 ∧ g.nb k e = some x

def gnb (g : Gnd) (x k : Nat) : Prop := ∃ d, d < 8 ∧ g.nb x d = some k

/-- The lowest cells first: s spills, R reached, c the heap of m places; D: done, E: done or being done; rk: ranks, t: how many were reached on the way. -/
structure Fil (g : Gnd) (s : Nat → Nat) (R : Nat → Bool) (c : Nat → Nat) (m : Nat) (D E : Nat → Prop) (rk : Nat → Nat) (t : Nat) : Prop where
  cells : ∀ i, i < m → c i < g.n ∧ R (c i) = true
  bor : ∀ k, k < g.n → g.bd k = true → R k = true ∧ s k = g.h k
  fin : ∀ k, k < g.n → R k = true → OkW (rk k) (s k) ∧ rk k ≤ t
  par : ∀ k, k < g.n → R k = true → g.bd k = false → ∃ p, p < g.n ∧ gnb g p k ∧ E p ∧ rk p < rk k ∧ s k = stepW g.sl (s p) (g.h k)
  reach : ∀ x, x < g.n → E x → R x = true
  don : ∀ x, x < g.n → D x → ∀ k, gnb g x k → R k = true ∧ (g.bd k = false → vI (s k) ≤ vI (stepW g.sl (s x) (g.h k)))
  seen : ∀ x, x < g.n → R x = true → E x ∨ ∃ i, i < m ∧ c i = x
  low : ∀ x, x < g.n → E x → ∀ i, i < m → vI (s x) ≤ vI (s (c i))
  heap : Heap m (fun x => vI (s x)) c
  cnt : t + unr g.n R ≤ g.n

/-- The cell x is being done: its directions of P are. -/
structure Doing (g : Gnd) (s : Nat → Nat) (R : Nat → Bool) (c : Nat → Nat) (m : Nat) (D : Nat → Prop) (rk : Nat → Nat) (t x : Nat) (P : Nat → Prop) : Prop where
  f : Fil g s R c m D (fun y => D y ∨ y = x) rk t
  x1 : x < g.n
  x2 : ∀ y, y < g.n → D y → vI (s y) ≤ vI (s x)
  upto : ∀ e, P e → ∀ k, g.nb x e = some k → R k = true ∧ (g.bd k = false → vI (s k) ≤ vI (stepW g.sl (s x) (g.h k)))

theorem Fil.okc {g : Gnd} {s : Nat → Nat} {R : Nat → Bool} {c : Nat → Nat} {m : Nat} {D E : Nat → Prop} {rk : Nat → Nat} {t : Nat} (F : Fil g s R c m D E rk t) : ∀ i, i < m → c i < g.n ∧ vS (s (c i)) = some (vI (s (c i))) := fun i hi => by
  obtain ⟨a, b⟩ := F.cells i hi
  exact ⟨a, (F.fin _ a b).1.val⟩

/-- The lowest cell is taken. -/
theorem fil_pop {g : Gnd} {s : Nat → Nat} {R : Nat → Bool} {c c' : Nat → Nat} {m : Nat} {D : Nat → Prop} {rk : Nat → Nat} {t : Nat} (F : Fil g s R c (m + 1) D D rk t)
    (hs : SameSet m (swp c 0 m) c') (hh : Heap m (fun x => vI (s x)) c') : Doing g s R c' m D rk t (c 0) (fun _ => False) := by
  have mem : ∀ i, i < m → ∃ j, j < m + 1 ∧ c j = c' i := fun i hi => by
    obtain ⟨j, hj, e⟩ := (hs (c' i)).2 ⟨i, hi, rfl⟩
    by_cases e0 : j = 0
    · subst e0; rw [swp_i] at e; exact ⟨m, by omega, e⟩
    · rw [swp_o c e0 (by omega)] at e; exact ⟨j, by omega, e⟩
  have mem' : ∀ j, j < m + 1 → c j = c 0 ∨ ∃ i, i < m ∧ c' i = c j := fun j hj => by
    by_cases e0 : j = 0
    · left; rw [e0]
    · right
      by_cases e1 : j = m
      · subst e1; exact (hs (c j)).1 ⟨0, by omega, swp_i c 0 j⟩
      · exact (hs (c j)).1 ⟨j, by omega, swp_o c e0 e1⟩
  have x1 := (F.cells 0 (by omega)).1
  refine ⟨⟨fun i hi => ?_, F.bor, F.fin, fun k h1 h2 h3 => ?_, fun x h1 h2 => ?_, F.don, fun x h1 h2 => ?_, fun x h1 h2 i hi => ?_, hh, F.cnt⟩, x1, fun y h1 h2 => F.low y h1 h2 0 (by omega), fun e he => he.elim⟩
  · obtain ⟨j, hj, e⟩ := mem i hi; rw [← e]; exact F.cells j hj
  · obtain ⟨p, a, b, c0, d, e⟩ := F.par k h1 h2 h3; exact ⟨p, a, b, .inl c0, d, e⟩
  · rcases h2 with h2 | rfl
    · exact F.reach x h1 h2
    · exact (F.cells 0 (by omega)).2
  · rcases F.seen x h1 h2 with a | ⟨j, hj, e⟩
    · exact .inl (.inl a)
    · rcases mem' j hj with q | ⟨i, hi, q⟩
      · exact .inl (.inr (by rw [← e]; exact q))
      · exact .inr ⟨i, hi, by rw [q]; exact e⟩
  · obtain ⟨j, hj, e⟩ := mem i hi
    rw [← e]
    rcases h2 with h2 | rfl
    · exact F.low x h1 h2 j hj
    · exact heap_min F.heap j hj

theorem rk_le {g : Gnd} (G : GndOk g) {s : Nat → Nat} {R : Nat → Bool} {c : Nat → Nat} {m : Nat} {D E : Nat → Prop} {rk : Nat → Nat} {t : Nat} (F : Fil g s R c m D E rk t) {k : Nat} (h1 : k < g.n) (h2 : R k = true) : rk k ≤ 1048575 := by
  have := (F.fin k h1 h2).2; have := F.cnt; have := G.n2; omega
/-- A neighbour that has been reached already. -/
theorem doing_old {g : Gnd} (G : GndOk g) {s : Nat → Nat} {R : Nat → Bool} {c : Nat → Nat} {m : Nat} {D : Nat → Prop} {rk : Nat → Nat} {t x d k : Nat} {P : Nat → Prop} (F : Doing g s R c m D rk t x P) (h : g.nb x d = some k) (hr : R k = true) : Doing g s R c m D rk t x (fun e => P e ∨ e = d) :=
  ⟨F.f, F.x1, F.x2, fun e he k' hk => by
    by_cases q : e = d
    · subst q
      rw [h] at hk
      have := Option.some.inj hk
      subst this
      have k1 := G.lt _ _ _ h
      refine ⟨hr, fun hb => ?_⟩
      obtain ⟨p, p1, p2, p3, p4, p5⟩ := F.f.par k k1 hr hb
      rw [p5]
      have xr : R x = true := F.f.reach x F.x1 (.inr rfl)
      have pr : R p = true := F.f.reach p p1 p3
      have hv : vI (s p) ≤ vI (s x) := by
        rcases p3 with p3 | rfl
        · exact F.x2 p p1 p3
        · exact Int.le_refl _
      exact step_mono (q := 1048576) ((F.f.fin p p1 pr).1.mono (by have := rk_le G F.f p1 pr; omega)) ((F.f.fin x F.x1 xr).1.mono (by have := rk_le G F.f F.x1 xr; omega)) G.slo (G.hgt k k1) (by omega) hv
    · exact F.upto e (he.resolve_right q) k' hk⟩

/-- A neighbour that is reached now. -/
theorem doing_new {g : Gnd} (G : GndOk g) {s : Nat → Nat} {R : Nat → Bool} {c c' : Nat → Nat} {m : Nat} {D : Nat → Prop} {rk : Nat → Nat} {t x d k : Nat} {P : Nat → Prop} (F : Doing g s R c m D rk t x P) (hd : d < 8) (h : g.nb x d = some k) (hr : R k = false)
    (hs : SameSet (m + 1) (updW c m k) c') (hh : Heap (m + 1) (fun y => vI (updW s k (stepW g.sl (s x) (g.h k)) y)) c') :
    Doing g (updW s k (stepW g.sl (s x) (g.h k))) (updB R k) c' (m + 1) D (updW rk k (rk x + 1)) (t + 1) x (fun e => P e ∨ e = d) := by
  have k1 := G.lt _ _ _ h
  have xr : R x = true := F.f.reach x F.x1 (.inr rfl)
  have xk : x ≠ k := fun e => by subst e; rw [hr] at xr; cases xr
  have ne : ∀ {y}, R y = true → y ≠ k := fun hy e => by subst e; rw [hr] at hy; cases hy
  have hb : g.bd k = false := by
    cases e : g.bd k with
    | false => rfl
    | true => have := (F.f.bor k k1 e).1; rw [hr] at this; cases this
  have rx := rk_le G F.f F.x1 xr
  obtain ⟨_, _, _, _, _, okN, n1, n2, n3, n4⟩ := step_parts (F.f.fin x F.x1 xr).1 G.slo (G.hgt k k1) (by omega : rk x ≤ 1048576)
  obtain ⟨N, hN⟩ : ∃ N, stepW g.sl (s x) (g.h k) = N := ⟨_, rfl⟩
  have mem : ∀ i, i < m + 1 → c' i = k ∨ ∃ j, j < m ∧ c j = c' i := fun i hi => by
    obtain ⟨j, hj, e⟩ := (hs (c' i)).2 ⟨i, hi, rfl⟩
    by_cases e0 : j = m
    · subst e0; rw [updW_same] at e; exact .inl e.symm
    · rw [updW_other c e0] at e; exact .inr ⟨j, by omega, e⟩
  have keep : ∀ y, y < g.n → (y ≠ k) → updB R k y = true → R y = true := fun y _ h1 h2 => by rwa [updB_other R h1] at h2
  have up : ∀ x', x' < g.n → R x' = true → ∀ k', R k' = true ∧ (g.bd k' = false → vI (s k') ≤ vI (stepW g.sl (s x') (g.h k'))) →
      updB R k k' = true ∧ (g.bd k' = false → vI (updW s k (stepW g.sl (s x) (g.h k)) k') ≤ vI (stepW g.sl (updW s k (stepW g.sl (s x) (g.h k)) x') (g.h k'))) := fun x' _ hx' k' q => by
    refine ⟨updB_mono q.1, fun hb' => ?_⟩
    rw [updW_other s (ne q.1), updW_other s (ne hx')]
    exact q.2 hb'
  refine ⟨⟨fun i hi => ?_, fun y h1 h2 => ?_, fun y h1 h2 => ?_, fun y h1 h2 h3 => ?_, fun y h1 h2 => updB_mono (F.f.reach y h1 h2), fun y h1 h2 k' hk => ?_, fun y h1 h2 => ?_, fun y h1 h2 i hi => ?_, hh, ?_⟩, F.x1, fun y h1 h2 => ?_, fun e he k' hk => ?_⟩
  · rcases mem i hi with e | ⟨j, hj, e⟩
    · rw [e]; exact ⟨k1, updB_same R k⟩
    · rw [← e]; exact ⟨(F.f.cells j hj).1, updB_mono (F.f.cells j hj).2⟩
  · obtain ⟨a, b⟩ := F.f.bor y h1 h2
    exact ⟨updB_mono a, by rw [updW_other s (ne a)]; exact b⟩
  · by_cases e : y = k
    · subst e
      rw [updW_same, updW_same]
      exact ⟨okN, by have := (F.f.fin x F.x1 xr).2; omega⟩
    · have a := keep y h1 e h2
      rw [updW_other s e, updW_other rk e]
      exact ⟨(F.f.fin y h1 a).1, by have := (F.f.fin y h1 a).2; omega⟩
  · by_cases e : y = k
    · subst e
      exact ⟨x, F.x1, ⟨d, hd, h⟩, .inr rfl, by rw [updW_same, updW_other rk xk]; omega, by rw [updW_same, updW_other s xk]⟩
    · obtain ⟨p, p1, p2, p3, p4, p5⟩ := F.f.par y h1 (keep y h1 e h2) h3
      have pr := F.f.reach p p1 p3
      exact ⟨p, p1, p2, p3, by rw [updW_other rk e, updW_other rk (ne pr)]; exact p4, by rw [updW_other s e, updW_other s (ne pr)]; exact p5⟩
  · exact up y h1 (F.f.reach y h1 (.inl h2)) k' (F.f.don y h1 h2 k' hk)
  · by_cases e : y = k
    · subst e
      right
      exact (hs y).1 ⟨m, by omega, updW_same c m y⟩
    · rcases F.f.seen y h1 (keep y h1 e h2) with a | ⟨j, hj, q⟩
      · exact .inl a
      · right
        obtain ⟨i, hi, w⟩ := (hs (c j)).1 ⟨j, by omega, updW_other c (by omega)⟩
        exact ⟨i, hi, by rw [w]; exact q⟩
  · have yr := F.f.reach y h1 h2
    rw [updW_other s (ne yr)]
    have yx : vI (s y) ≤ vI (s x) := by
      rcases h2 with h2 | rfl
      · exact F.x2 y h1 h2
      · exact Int.le_refl _
    rcases mem i hi with e | ⟨j, hj, e⟩
    · rw [e, updW_same]; omega
    · rw [← e, updW_other s (ne (F.f.cells j hj).2)]
      exact F.f.low y h1 h2 j hj
  · have a := unr_upd k1 hr
    have b := F.f.cnt
    omega
  · rw [updW_other s (ne (F.f.reach y h1 (.inl h2))), updW_other s xk]; exact F.x2 y h1 h2
  · by_cases q : e = d
    · subst q
      rw [h] at hk
      have := Option.some.inj hk
      subst this
      exact ⟨updB_same R k, fun _ => by rw [updW_same, updW_other s xk]; exact Int.le_refl _⟩
    · exact up x F.x1 xr k' (F.upto e (he.resolve_right q) k' hk)

/-- A cell that has been done. -/
theorem doing_done {g : Gnd} {s : Nat → Nat} {R : Nat → Bool} {c : Nat → Nat} {m : Nat} {D : Nat → Prop} {rk : Nat → Nat} {t x : Nat} {P : Nat → Prop} (F : Doing g s R c m D rk t x P) (hP : ∀ e, e < 8 → ∀ k, g.nb x e = some k → P e) : Fil g s R c m (fun y => D y ∨ y = x) (fun y => D y ∨ y = x) rk t :=
  ⟨F.f.cells, F.f.bor, F.f.fin, F.f.par, F.f.reach, fun y h1 h2 k hk => by
    rcases h2 with h2 | rfl
    · exact F.f.don y h1 h2 k hk
    · obtain ⟨d, hd, e⟩ := hk
      exact F.upto d (hP d hd k e) k e, F.f.seen, F.f.low, F.f.heap, F.f.cnt⟩

/-- What filling comes to. -/
structure Spills (g : Gnd) (s : Nat → Nat) : Prop where
  bor : ∀ k, k < g.n → g.bd k = true → s k = g.h k
  fin : ∀ k, k < g.n → OkW 65536 (s k)
  par : ∃ rk : Nat → Nat, ∀ k, k < g.n → g.bd k = false → ∃ p, p < g.n ∧ gnb g p k ∧ rk p < rk k ∧ s k = stepW g.sl (s p) (g.h k)
  least : ∀ x, x < g.n → ∀ k, gnb g x k → g.bd k = false → vI (s k) ≤ vI (stepW g.sl (s x) (g.h k))

/-- From each cell a way leads to the border. -/
def Joined (g : Gnd) : Prop := ∃ far : Nat → Nat, ∀ k, k < g.n → g.bd k = false → ∃ p, p < g.n ∧ gnb g p k ∧ far p < far k

theorem fil_end {g : Gnd} (G : GndOk g) (J : Joined g) {s : Nat → Nat} {R : Nat → Bool} {c : Nat → Nat} {D : Nat → Prop} {rk : Nat → Nat} {t : Nat} (F : Fil g s R c 0 D D rk t) : Spills g s := by
  obtain ⟨far, hf⟩ := J
  have all : ∀ f k, k < g.n → far k ≤ f → R k = true := by
    intro f
    induction f with
    | zero =>
      intro k hk h0
      cases e : g.bd k with
      | true => exact (F.bor k hk e).1
      | false => obtain ⟨p, _, _, p3⟩ := hf k hk e; omega
    | succ f ih =>
      intro k hk h0
      cases e : g.bd k with
      | true => exact (F.bor k hk e).1
      | false =>
        obtain ⟨p, p1, p2, p3⟩ := hf k hk e
        have pr := ih p p1 (by omega)
        rcases F.seen p p1 pr with a | ⟨i, hi, _⟩
        · exact (F.don p p1 a k p2).1
        · omega
  have allD : ∀ k, k < g.n → D k := fun k hk => by
    rcases F.seen k hk (all _ k hk (Nat.le_refl _)) with a | ⟨i, hi, _⟩
    · exact a
    · omega
  refine ⟨fun k h1 h2 => (F.bor k h1 h2).2, fun k h1 => ?_, ⟨rk, fun k h1 h2 => ?_⟩, fun x h1 k h2 h3 => (F.don x h1 (allD x h1) k h2).2 h3⟩
  · obtain ⟨a, b⟩ := F.fin k h1 (all _ k h1 (Nat.le_refl _))
    exact a.mono (by have := F.cnt; have := G.n2; omega)
  · obtain ⟨p, p1, p2, _, p4, p5⟩ := F.par k h1 (all _ k h1 (Nat.le_refl _)) h2
    exact ⟨p, p1, p2, p4, p5⟩
end Go.Proofs.Ytkcehbnmcdppkaa

/- Plain mathematics of a region's cells: numbers, directions, neighbours, the border. -/
namespace Go.Proofs.Ytkcehbnmcdppkaa
open Go.RowKit Fl
set_option linter.unusedVariables false

/-- The step of a direction. -/
def dxI (d : Nat) : Int := if d = 0 ∨ d = 1 ∨ d = 7 then 1 else if d = 3 ∨ d = 4 ∨ d = 5 then -1 else 0
def dyI (d : Nat) : Int := if d = 1 ∨ d = 2 ∨ d = 3 then 1 else if d = 5 ∨ d = 6 ∨ d = 7 then -1 else 0
theorem dx_in (d : Nat) : -1 ≤ dxI d ∧ dxI d ≤ 1 := by unfold dxI; split <;> (try split) <;> omega
theorem dy_in (d : Nat) : -1 ≤ dyI d ∧ dyI d ≤ 1 := by unfold dyI; split <;> (try split) <;> omega

/-- The neighbour of the cell k in the direction d. -/
def nbI (W H : Nat) (k d : Nat) : Option Nat :=
  if 0 ≤ ((k % W : Nat) : Int) + dxI d ∧ ((k % W : Nat) : Int) + dxI d < W ∧ 0 ≤ ((k / W : Nat) : Int) + dyI d ∧ ((k / W : Nat) : Int) + dyI d < H
  then some ((((k / W : Nat) : Int) + dyI d) * W + (((k % W : Nat) : Int) + dxI d)).toNat else none
def bdB (W H : Nat) (k : Nat) : Bool := decide (k % W = 0 ∨ k / W = 0 ∨ k % W + 1 = W ∨ k / W + 1 = H)

theorem cell_parts {W H k : Nat} (hk : k < W * H) : 1 ≤ W ∧ k % W < W ∧ k / W < H ∧ k = k / W * W + k % W := by
  have hW : 0 < W := by
    rcases Nat.eq_zero_or_pos W with e | e
    · subst e; rw [Nat.zero_mul] at hk; omega
    · exact e
  refine ⟨hW, Nat.mod_lt _ hW, Nat.div_lt_of_lt_mul hk, ?_⟩
  have := Nat.div_add_mod k W
  rw [Nat.mul_comm] at this; omega
theorem cell_mk {W x y : Nat} (hx : x < W) : (y * W + x) % W = x ∧ (y * W + x) / W = y := by
  constructor
  · rw [Nat.mul_comm, Nat.mul_add_mod, Nat.mod_eq_of_lt hx]
  · rw [Nat.mul_comm, Nat.mul_add_div (by omega), Nat.div_eq_of_lt hx, Nat.add_zero]
theorem cell_lt {W H x y : Nat} (hx : x < W) (hy : y < H) : y * W + x < W * H := by
  have : (y + 1) * W ≤ H * W := Nat.mul_le_mul_right _ hy
  rw [Nat.succ_mul, Nat.mul_comm H W] at this; omega

/-- A neighbour, by its column and its row. -/
theorem nbI_some {W H k d m : Nat} (h : nbI W H k d = some m) : ∃ x y : Nat, (x : Int) = ((k % W : Nat) : Int) + dxI d ∧ (y : Int) = ((k / W : Nat) : Int) + dyI d ∧ x < W ∧ y < H ∧ m = y * W + x := by
  unfold nbI at h
  split at h
  · rename_i c
    obtain ⟨c1, c2, c3, c4⟩ := c
    have e := Option.some.inj h
    obtain ⟨x, hx⟩ : ∃ x : Nat, (x : Int) = ((k % W : Nat) : Int) + dxI d := ⟨_, Int.toNat_of_nonneg c1⟩
    obtain ⟨y, hy⟩ : ∃ y : Nat, (y : Int) = ((k / W : Nat) : Int) + dyI d := ⟨_, Int.toNat_of_nonneg c3⟩
    refine ⟨x, y, hx, hy, by omega, by omega, ?_⟩
    rw [← hx, ← hy] at e
    rw [← e, show ((y : Int) * (W : Int) + (x : Int)) = ((y * W + x : Nat) : Int) by simp]
    rfl
  · cases h
theorem nbI_mk {W H k d x y : Nat} (hx : (x : Int) = ((k % W : Nat) : Int) + dxI d) (hy : (y : Int) = ((k / W : Nat) : Int) + dyI d) (h1 : x < W) (h2 : y < H) : nbI W H k d = some (y * W + x) := by
  unfold nbI
  rw [← hx, ← hy, if_pos ⟨by omega, by omega, by omega, by omega⟩, show ((y : Int) * (W : Int) + (x : Int)) = ((y * W + x : Nat) : Int) by simp]
  rfl
theorem nbI_lt {W H k d m : Nat} (h : nbI W H k d = some m) : m < W * H := by
  obtain ⟨x, y, _, _, h1, h2, rfl⟩ := nbI_some h
  exact cell_lt h1 h2
theorem nbI_back {W H k d m : Nat} (hk : k < W * H) (hd : d < 8) (h : nbI W H k d = some m) : ∃ e, e < 8 ∧ nbI W H m e = some k := by
  obtain ⟨x, y, hx, hy, h1, h2, rfl⟩ := nbI_some h
  obtain ⟨_, a, b, c⟩ := cell_parts hk
  obtain ⟨q1, q2⟩ := cell_mk (y := y) h1
  have opp : ∃ e, e < 8 ∧ dxI e = - dxI d ∧ dyI e = - dyI d := by
    have : d = 0 ∨ d = 1 ∨ d = 2 ∨ d = 3 ∨ d = 4 ∨ d = 5 ∨ d = 6 ∨ d = 7 := by omega
    rcases this with rfl | rfl | rfl | rfl | rfl | rfl | rfl | rfl
    · exact ⟨4, by decide, by decide, by decide⟩
    · exact ⟨5, by decide, by decide, by decide⟩
    · exact ⟨6, by decide, by decide, by decide⟩
    · exact ⟨7, by decide, by decide, by decide⟩
    · exact ⟨0, by decide, by decide, by decide⟩
    · exact ⟨1, by decide, by decide, by decide⟩
    · exact ⟨2, by decide, by decide, by decide⟩
    · exact ⟨3, by decide, by decide, by decide⟩
  obtain ⟨e, e8, ex, ey⟩ := opp
  refine ⟨e, e8, ?_⟩
  have := nbI_mk (W := W) (H := H) (k := y * W + x) (d := e) (x := k % W) (y := k / W) (by rw [q1, ex]; omega) (by rw [q2, ey]; omega) a b
  rw [this, ← c]
theorem bdB_iff {W H k : Nat} : bdB W H k = true ↔ (k % W = 0 ∨ k / W = 0 ∨ k % W + 1 = W ∨ k / W + 1 = H) := by unfold bdB; simp
/-- A cell that is not of the border has all eight neighbours. -/
theorem nbI_inner {W H k d : Nat} (hk : k < W * H) (hb : bdB W H k = false) : ∃ m, nbI W H k d = some m := by
  obtain ⟨_, a, b, c⟩ := cell_parts hk
  have nb : ¬ (k % W = 0 ∨ k / W = 0 ∨ k % W + 1 = W ∨ k / W + 1 = H) := fun h => by rw [bdB_iff.2 h] at hb; cases hb
  obtain ⟨x1, x2⟩ := dx_in d
  obtain ⟨y1, y2⟩ := dy_in d
  have mk := fun x y => nbI_mk (W := W) (H := H) (k := k) (d := d) (x := x) (y := y)
  clear c
  generalize k % W = p at *
  generalize k / W = q at *
  exact ⟨_, mk ((p : Int) + dxI d).toNat ((q : Int) + dyI d).toNat (by omega) (by omega) (by omega) (by omega)⟩

/-- The ground of a field. -/
def gndOf (W H : Nat) (v : Nat → Nat) (sl : Nat) : Gnd := ⟨W * H, nbI W H, bdB W H, v, sl⟩
theorem gnd_ok {W H sl : Nat} {v : Nat → Nat} (h1 : 1 ≤ W * H) (h2 : W * H ≤ 65536) (hv : ∀ k, k < W * H → hgtB (v k) = true) (hs : SlW sl) : GndOk (gndOf W H v sl) :=
  ⟨h1, h2, fun _ _ _ h => nbI_lt h, hv, hs, fun _ _ _ hx hd h => nbI_back hx hd h⟩
theorem gnd_joined (W H sl : Nat) (v : Nat → Nat) : Joined (gndOf W H v sl) := by
  refine ⟨fun k => k % W, fun k hk hb => ?_⟩
  have hk' : k < W * H := hk
  obtain ⟨_, a, b, c⟩ := cell_parts hk'
  have nb : ¬ (k % W = 0 ∨ k / W = 0 ∨ k % W + 1 = W ∨ k / W + 1 = H) := fun h => by
    have : bdB W H k = true := bdB_iff.2 h
    have hb' : bdB W H k = false := hb
    rw [this] at hb'; cases hb'
  have hx : k % W - 1 < W := by omega
  obtain ⟨q1, q2⟩ := cell_mk (y := k / W) hx
  refine ⟨k / W * W + (k % W - 1), cell_lt hx b, ⟨0, by omega, ?_⟩, ?_⟩
  · show nbI W H (k / W * W + (k % W - 1)) 0 = some k
    rw [nbI_mk (x := k % W) (y := k / W) (by rw [q1]; have : dxI 0 = 1 := rfl; omega) (by rw [q2]; have : dyI 0 = 0 := rfl; omega) a b, ← c]
  · show (k / W * W + (k % W - 1)) % W < k % W
    rw [q1]; omega
end Go.Proofs.Ytkcehbnmcdppkaa

/- Contracts: the places and the neighbours of cells, as water reckons them. -/
namespace Go.Proofs.Ytkcehbnmcdppkaa
open Go.RowKit Fl
set_option linter.unusedVariables false

abbrev ptV (x y : Int) : Value := .agg #[.int .i64 x, .int .i64 y]
abbrev ptO (x y : Int) : Obj := .cells #[.int .i64 x, .int .i64 y] 73

set_option maxHeartbeats 1000000 in
theorem place_any (X Y : Int) (W H i : Nat) (w : World) (hX1 : -4194304 ≤ X) (hX2 : X ≤ 4194304) (hY1 : -4194304 ≤ Y) (hY2 : Y ≤ 4194304) (hW1 : 1 ≤ W) (hW2 : W ≤ 512) (hi : i < 65536) :
    Calls Try.prog 159 #[reg X Y W H, .int .i64 i] w fun e w' => e = .returned (ptV (X + ((i % W : Nat) : Int)) (Y + ((i / W : Nat) : Int))) ∧ Below w.heap.size w w' := by
  obtain ⟨a, ha⟩ : ∃ a : Nat, a = i % W := ⟨_, rfl⟩
  obtain ⟨b, hb'⟩ : ∃ b : Nat, b = i / W := ⟨_, rfl⟩
  have b1 : (a : Int) < 512 := by have := Nat.mod_lt i (show 0 < W by omega); omega
  have b2 : (b : Int) < 65536 := by have := Nat.div_le_self i W; omega
  have t1 : (i : Int).tmod (W : Int) = (a : Int) := by rw [ha]; rw [Int.tmod_eq_emod_of_nonneg (by omega)]; simp
  have t2 : (i : Int).tdiv (W : Int) = (b : Int) := by rw [hb']; rw [Int.tdiv_eq_ediv_of_nonneg (by omega)]; simp
  have t3 : (i : Int) % (W : Int) = (a : Int) := by rw [ha]; simp
  have t4 : (i : Int) / (W : Int) = (b : Int) := by rw [hb']; simp
  have u1 : IntKind.i64.wrap (X + (a : Int)) = X + a := IntWalk.i64_in _ (by omega)
  have u2 : IntKind.i64.wrap (Y + (b : Int)) = Y + b := IntWalk.i64_in _ (by omega)
  have u3 : IntKind.i64.wrap (b : Int) = b := IntWalk.i64_in _ (by omega)
  have w0 : ¬ ((W : Int) = 0) := by omega
  have w0' : ¬ (W = 0) := by omega
  have t6 : i % W = a := ha.symm
  have t7 : i / W = b := hb'.symm
  have w1 : (1 : Int) ≤ (W : Int) := by omega
  have i0 : (0 : Int) ≤ (i : Int) := by omega
  rw [t6, t7]
  clear ha hb'
  go_enter Try.func159, Try.ntmps159
  go_wp2
  go_region
  all_goals go_wp2
  all_goals refine bodyPost_ret (v := ptV (X + (a : Int)) (Y + (b : Int))) (by simp [results, Try.results159, go_sem]) rfl ?_
  all_goals exact ⟨rfl, by repeat (first | exact Below.refl _ _ | refine Below.drew ?_ | refine Below.alloc ?_ (by simp; try omega) _ | refine Below.setCell ?_ (by simp; try omega) _)⟩

/-- Whether a region has a place. -/
def hasB (X Y W H x y : Int) : Bool := withinB x X (X + W - 1) && withinB y Y (Y + H - 1)

set_option maxHeartbeats 1000000 in
theorem has_any (X Y W H x y : Int) (w : World) (hX1 : -16777216 ≤ X) (hX2 : X ≤ 16777216) (hY1 : -16777216 ≤ Y) (hY2 : Y ≤ 16777216) (hW1 : 0 ≤ W) (hW2 : W ≤ 512) (hH1 : 0 ≤ H) (hH2 : H ≤ 512) :
    Calls Try.prog 177 #[reg X Y W H, .int .i64 x, .int .i64 y] w fun e w' => e = .returned (.bool (hasB X Y W H x y)) ∧ w.alloc (regObj X Y W H) = w' := by
  unfold hasB
  have W1 := Lib.hid (fun w => within_any x X (X + W - 1) w)
  have W2 := Lib.hid (fun w => within_any y Y (Y + H - 1) w)
  generalize withinB x X (X + W - 1) = a at *
  generalize withinB y Y (Y + H - 1) = b at *
  cases a with
  | false =>
    go_enter Try.func177, Try.ntmps177
    go_wp2_with (first | (go_at_call 79; (with_reducible refine (W1.out _).mono ?_); rintro e w' ⟨rfl, rfl⟩) | (go_at_call 79; (with_reducible refine (W2.out _).mono ?_); rintro e w' ⟨rfl, rfl⟩))
    go_ret
    exact ⟨by simp, rfl⟩
  | true =>
    go_enter Try.func177, Try.ntmps177
    go_wp2_with (first | (go_at_call 79; (with_reducible refine (W1.out _).mono ?_); rintro e w' ⟨rfl, rfl⟩) | (go_at_call 79; (with_reducible refine (W2.out _).mono ?_); rintro e w' ⟨rfl, rfl⟩))
    go_ret
    exact ⟨by simp, rfl⟩

set_option maxHeartbeats 1000000 in
theorem indexI_any (X Y W H x y : Int) (w : World) (hX1 : -16777216 ≤ X) (hX2 : X ≤ 16777216) (hY1 : -16777216 ≤ Y) (hY2 : Y ≤ 16777216) (hW1 : 0 ≤ W) (hW2 : W ≤ 512)
    (h1 : -16777216 ≤ x) (h2 : x ≤ 16777216) (h3 : -16777216 ≤ y) (h4 : y ≤ 16777216) :
    Calls Try.prog 112 #[reg X Y W H, .int .i64 x, .int .i64 y] w fun e w' => e = .returned (.int .i64 ((y - Y) * W + (x - X))) ∧ w.alloc (regObj X Y W H) = w' := by
  have q1 : (y - Y) * W ≤ 33554432 * W := Int.mul_le_mul_of_nonneg_right (by omega) hW1
  have q2 : (-33554432) * W ≤ (y - Y) * W := Int.mul_le_mul_of_nonneg_right (by omega) hW1
  have e2 : wrap64 ((y - Y) * W) = (y - Y) * W := IntWalk.wrap64_in _ ⟨by omega, by omega⟩
  have e3 : wrap64 ((y - Y) * W + x) = (y - Y) * W + x := IntWalk.wrap64_in _ ⟨by omega, by omega⟩
  have e4 : wrap64 ((y - Y) * W + x - X) = (y - Y) * W + (x - X) := by rw [IntWalk.wrap64_in _ ⟨by omega, by omega⟩]; omega
  clear q1 q2
  go_enter Try.func112, Try.ntmps112
  go_wp2
  go_ret
  exact ⟨ret_int e4, rfl⟩

/-- A neighbour of the cell k, as water reckons it. -/
theorem bes_some {X Y : Int} {W H k d m : Nat} (hk : k < W * H) (h : nbI W H k d = some m) :
    (Y + ((k / W : Nat) : Int) + dyI d - Y) * (W : Int) + (X + ((k % W : Nat) : Int) + dxI d - X) = (m : Int) ∧ hasB X Y W H (X + ((k % W : Nat) : Int) + dxI d) (Y + ((k / W : Nat) : Int) + dyI d) = true := by
  obtain ⟨x, y, hx, hy, h1, h2, rfl⟩ := nbI_some h
  constructor
  · rw [show Y + ((k / W : Nat) : Int) + dyI d - Y = (y : Int) by omega, show X + ((k % W : Nat) : Int) + dxI d - X = (x : Int) by omega]; simp
  · unfold hasB; rw [Bool.and_eq_true, withinB_iff, withinB_iff]; omega
theorem bes_none {X Y : Int} {W H k d : Nat} (h : nbI W H k d = none) : hasB X Y W H (X + ((k % W : Nat) : Int) + dxI d) (Y + ((k / W : Nat) : Int) + dyI d) = false := by
  cases e : hasB X Y W H (X + ((k % W : Nat) : Int) + dxI d) (Y + ((k / W : Nat) : Int) + dyI d) with
  | false => rfl
  | true =>
    unfold hasB at e
    rw [Bool.and_eq_true, withinB_iff, withinB_iff] at e
    generalize hp : k % W = p at *
    generalize hq : k / W = q at *
    have := nbI_mk (W := W) (H := H) (k := k) (d := d) (x := ((p : Int) + dxI d).toNat) (y := ((q : Int) + dyI d).toNat) (by rw [hp]; omega) (by rw [hq]; omega) (by omega) (by omega)
    rw [h] at this; cases this
end Go.Proofs.Ytkcehbnmcdppkaa

/- Contracts: the laws' within, when, first (of two, of three). -/
namespace Go.Proofs.Ytkcehbnmcdppkaa
open Go.RowKit
set_option linter.unusedVariables false

set_option maxHeartbeats 400000 in
theorem mWithin_any (n a b : Int) (w : World) :
    Calls Try.prog 29 #[.int .i64 n, .int .i64 a, .int .i64 b] w fun e w' => e = .returned (.bool (withinB n a b)) ∧ w = w' := by
  go_enter Try.func29, Try.ntmps29
  go_wp2
  all_goals go_ret
  all_goals exact ⟨ret_bool (by rw [Bool.eq_iff_iff, withinB_iff]; simp; omega), rfl⟩

def whenE (c : Bool) (k : Int) : Int := if c = true then k else 0
set_option maxHeartbeats 400000 in
theorem when_any (c : Bool) (k : Int) (w : World) :
    Calls Try.prog 28 #[.bool c, .int .i64 k] w fun e w' => e = .returned (.int .i64 (whenE c k)) ∧ w = w' := by
  unfold whenE
  cases c
  all_goals
    go_enter Try.func28, Try.ntmps28
    go_wp2
    go_ret
    exact ⟨rfl, rfl⟩

inductive FirstAt (a b : Int) : Value → Prop where
  | z : FirstAt a b (.int .i64 0)
  | a (h : a = 0) : FirstAt a b (.int .i64 1)
  | b (h : a = 0) (h' : b = 0) : FirstAt a b (.int .i64 2)
def firstE (a b : Int) : Int := if a = 0 then b else a
set_option maxHeartbeats 1000000 in
theorem first2_any (a b : Int) (p : Nat) (w : World) (h : w.heap[p]? = some (.cells #[.int .i64 a, .int .i64 b] 25)) :
    Calls Try.prog 22 #[.slice (some ⟨p, 0, none⟩) 2 2] w fun e w' => e = .returned (.int .i64 (firstE a b)) ∧ w = w' := by
  unfold firstE
  obtain ⟨c, f, z⟩ := blkC h
  clear h
  go_enter Try.func22, Try.ntmps22
  go_wp2
  go_loop [7] (fun i => FirstAt a b i) (fun i => 2 - (intOf i).toNat)
  case atStart => exact .z
  case round =>
    rcases hrel with _ | ha | ⟨ha, hb⟩
    · by_cases h0 : a = 0
      · subst h0
        go_wp2
        go_round
        case rel => exact .a rfl
        case measure => simp [intOf]
      · go_wp2
        go_ret
        exact ⟨by simp, rfl⟩
    · subst ha
      by_cases h0 : b = 0
      · subst h0
        go_wp2
        go_round
        case rel => exact .b rfl rfl
        case measure => simp [intOf]
      · go_wp2
        go_ret
        exact ⟨rfl, rfl⟩
    · subst ha hb
      go_wp2
      go_ret
      exact ⟨rfl, rfl⟩

theorem firstE_zero {a b : Int} (h : firstE a b = 0) : a = 0 ∧ b = 0 := by
  unfold firstE at h
  by_cases q : a = 0
  · rw [if_pos q] at h; exact ⟨q, h⟩
  · rw [if_neg q] at h; exact absurd h q
theorem whenE_zero {c : Bool} {k : Int} (hk : k ≠ 0) (h : whenE c k = 0) : c = false := by
  unfold whenE at h
  cases c with
  | false => rfl
  | true => rw [if_pos rfl] at h; exact absurd h hk

inductive First3At (a b c : Int) : Value → Prop where
  | z : First3At a b c (.int .i64 0)
  | a (h : a = 0) : First3At a b c (.int .i64 1)
  | b (h : a = 0) (h' : b = 0) : First3At a b c (.int .i64 2)
  | c (h : a = 0) (h' : b = 0) (h'' : c = 0) : First3At a b c (.int .i64 3)
set_option maxHeartbeats 1000000 in
theorem first3_any (a b c : Int) (p : Nat) (w : World) (h : w.heap[p]? = some (.cells #[.int .i64 a, .int .i64 b, .int .i64 c] 25)) :
    Calls Try.prog 22 #[.slice (some ⟨p, 0, none⟩) 3 3] w fun e w' => e = .returned (.int .i64 (firstE (firstE a b) c)) ∧ w = w' := by
  unfold firstE
  obtain ⟨cc, f, z⟩ := blkC h
  clear h
  go_enter Try.func22, Try.ntmps22
  go_wp2
  go_loop [7] (fun i => First3At a b c i) (fun i => 3 - (intOf i).toNat)
  case atStart => exact .z
  case round =>
    rcases hrel with _ | ha | ⟨ha, hb⟩ | ⟨ha, hb, hc⟩
    · by_cases h0 : a = 0
      · subst h0
        go_wp2
        go_round
        case rel => exact .a rfl
        case measure => simp [intOf]
      · go_wp2
        go_ret
        exact ⟨by first | (simp; done) | simp [h0], rfl⟩
    · subst ha
      by_cases h0 : b = 0
      · subst h0
        go_wp2
        go_round
        case rel => exact .b rfl rfl
        case measure => simp [intOf]
      · go_wp2
        go_ret
        exact ⟨by first | (simp; done) | simp [h0], rfl⟩
    · subst ha hb
      by_cases h0 : c = 0
      · subst h0
        go_wp2
        go_round
        case rel => exact .c rfl rfl rfl
        case measure => simp [intOf]
      · go_wp2
        go_ret
        exact ⟨by first | (simp; done) | simp [h0], rfl⟩
    · subst ha hb hc
      go_wp2
      go_ret
      exact ⟨rfl, rfl⟩
end Go.Proofs.Ytkcehbnmcdppkaa

/- Contracts: the reference's RegionError, Place, Mixed; the law's within, when, first (of two). -/
namespace Go.Proofs.Ytkcehbnmcdppkaa
open Go.RowKit Fl
set_option linter.unusedVariables false

set_option maxHeartbeats 400000 in
theorem qRegionError_any (x y ww hh : Int) (w : World) :
    Calls Try.prog 83 #[reg x y ww hh] w fun e w' => e = .returned (.int .i64 (checkR x y ww hh)) ∧ w' = w.alloc (regObj x y ww hh) := by
  go_enter Try.func83, Try.ntmps83
  go_wp2
  all_goals go_ret
  all_goals refine ⟨ret_int (Eq.symm ?_), rfl⟩
  all_goals first
    | exact checkR_range (by simp only [withinB_no]; omega)
    | exact checkR_large (by simp only [withinB_iff]; omega) (by simp only [withinB_iff]; omega) (by omega)
    | exact checkR_place (by simp only [withinB_iff]; omega) (by simp only [withinB_iff]; omega) (by omega) (by simp only [withinB_no]; omega)
    | exact checkR_ok (by simp only [withinB_iff]; omega) (by simp only [withinB_iff]; omega) (by omega) (by simp only [withinB_iff]; omega) (by simp only [withinB_iff]; omega)

end Go.Proofs.Ytkcehbnmcdppkaa

/- Contracts: Check of any field, and the references' FieldError: one answer. -/
namespace Go.Proofs.Ytkcehbnmcdppkaa
open Go.RowKit Fl
set_option linter.unusedVariables false

/-- The error of a field whose numbers have the error er. -/
def fldChk (X Y W H : Int) (n : Nat) (er : Int) : Int := if checkR X Y W H ≠ 0 then checkR X Y W H else if (n : Int) ≠ W * H then 2 else er

set_option maxHeartbeats 1000000 in
theorem checkA_any (X Y W H : Int) (a : Option Addr) (n cap : Nat) (er : Int) (w : World) (CH0 : ∀ W', Below w.heap.size w W' → Calls Try.prog 76 #[.slice a n cap] W' fun e w' => e = .returned (.int .i64 er) ∧ W' = w') :
    Calls Try.prog 87 #[fldV X Y W H (.slice a n cap)] w fun e w' => e = .returned (.int .i64 (fldChk X Y W H n er)) ∧ Below w.heap.size w w' := by
  have CH := Lib.hid CH0
  clear CH0
  have RC := Lib.hid (fun w => checkRegion_any X Y W H w)
  unfold fldChk
  by_cases h0 : checkR X Y W H = 0
  · obtain ⟨b1, b2, b3, b4, b5, _⟩ := checkR_zero h0
    rw [if_neg (by simp [h0])]
    rw [h0] at RC
    have en : wrap64 (W * H) = W * H := IntWalk.wrap64_in _ ⟨by have := (mul_side b1 b2 b3 b4).1; omega, by omega⟩
    by_cases hl : (n : Int) = W * H
    · rw [if_neg (by simp [hl])]
      have en : wrap64 (W * H) = (n : Int) := by rw [en, hl]
      clear h0 b1 b2 b3 b4 b5 hl
      go_enter Try.func87, Try.ntmps87
      go_wp2_with (first | (go_at_call 84; refine (RC.out _).mono ?_; rintro e w' ⟨rfl, rfl⟩) | (go_at_call 76; refine (CH.out _ (by repeat (first | exact Below.refl _ _ | refine Below.alloc ?_ (by first | omega | (simp; done) | (simp; omega)) _ | refine Below.setCell ?_ (by first | omega | (simp; done) | (simp; omega)) _ | refine Below.drew ?_))).mono ?_; rintro e w' ⟨rfl, rfl⟩))
      go_ret
      exact ⟨rfl, (by repeat (first | exact Below.refl _ _ | refine Below.alloc ?_ (by first | omega | (simp; done) | (simp; omega)) _ | refine Below.setCell ?_ (by first | omega | (simp; done) | (simp; omega)) _ | refine Below.drew ?_))⟩
    · rw [if_pos hl]
      have hl' : ((n : Int) != W * H) = true := by simpa using hl
      clear h0 b1 b2 b3 b4 b5 hl CH
      go_enter Try.func87, Try.ntmps87
      go_wp2_with (first | (go_at_call 84; refine (RC.out _).mono ?_; rintro e w' ⟨rfl, rfl⟩))
      go_ret
      exact ⟨rfl, (by repeat (first | exact Below.refl _ _ | refine Below.alloc ?_ (by first | omega | (simp; done) | (simp; omega)) _ | refine Below.setCell ?_ (by first | omega | (simp; done) | (simp; omega)) _ | refine Below.drew ?_))⟩
  · rw [if_pos h0]
    generalize checkR X Y W H = r at *
    have h1 : (r != 0) = true := by simpa using h0
    clear h0 CH
    go_enter Try.func87, Try.ntmps87
    go_wp2_with (first | (go_at_call 84; refine (RC.out _).mono ?_; rintro e w' ⟨rfl, rfl⟩))
    go_ret
    exact ⟨rfl, (by repeat (first | exact Below.refl _ _ | refine Below.alloc ?_ (by first | omega | (simp; done) | (simp; omega)) _ | refine Below.setCell ?_ (by first | omega | (simp; done) | (simp; omega)) _ | refine Below.drew ?_))⟩

set_option maxHeartbeats 1000000 in
theorem qFieldError_any (X Y W H : Int) (a : Option Addr) (n cap : Nat) (er : Int) (w : World) (CH0 : ∀ W', Below w.heap.size w W' → Calls Try.prog 24 #[.slice a n cap] W' fun e w' => e = .returned (.int .i64 er) ∧ W' = w') :
    Calls Try.prog 32 #[fldV X Y W H (.slice a n cap)] w fun e w' => e = .returned (.int .i64 (fldChk X Y W H n er)) ∧ Below w.heap.size w w' := by
  have CH := Lib.hid CH0
  clear CH0
  have RC := Lib.hid (fun w => qRegionError_any X Y W H w)
  unfold fldChk
  by_cases h0 : checkR X Y W H = 0
  · obtain ⟨b1, b2, b3, b4, b5, _⟩ := checkR_zero h0
    rw [if_neg (by simp [h0])]
    rw [h0] at RC
    have en : wrap64 (W * H) = W * H := IntWalk.wrap64_in _ ⟨by have := (mul_side b1 b2 b3 b4).1; omega, by omega⟩
    by_cases hl : (n : Int) = W * H
    · rw [if_neg (by simp [hl])]
      have en : wrap64 (W * H) = (n : Int) := by rw [en, hl]
      clear h0 b1 b2 b3 b4 b5 hl
      go_enter Try.func32, Try.ntmps32
      go_wp2_with (first | (go_at_call 83; refine (RC.out _).mono ?_; rintro e w' ⟨rfl, rfl⟩) | (go_at_call 24; refine (CH.out _ (by repeat (first | exact Below.refl _ _ | refine Below.alloc ?_ (by first | omega | (simp; done) | (simp; omega)) _ | refine Below.setCell ?_ (by first | omega | (simp; done) | (simp; omega)) _ | refine Below.drew ?_))).mono ?_; rintro e w' ⟨rfl, rfl⟩))
      go_ret
      exact ⟨rfl, (by repeat (first | exact Below.refl _ _ | refine Below.alloc ?_ (by first | omega | (simp; done) | (simp; omega)) _ | refine Below.setCell ?_ (by first | omega | (simp; done) | (simp; omega)) _ | refine Below.drew ?_))⟩
    · rw [if_pos hl]
      have hl' : ((n : Int) != W * H) = true := by simpa using hl
      clear h0 b1 b2 b3 b4 b5 hl CH
      go_enter Try.func32, Try.ntmps32
      go_wp2_with (first | (go_at_call 83; refine (RC.out _).mono ?_; rintro e w' ⟨rfl, rfl⟩))
      go_ret
      exact ⟨rfl, (by repeat (first | exact Below.refl _ _ | refine Below.alloc ?_ (by first | omega | (simp; done) | (simp; omega)) _ | refine Below.setCell ?_ (by first | omega | (simp; done) | (simp; omega)) _ | refine Below.drew ?_))⟩
  · rw [if_pos h0]
    generalize checkR X Y W H = r at *
    have h1 : (r != 0) = true := by simpa using h0
    clear h0 CH
    go_enter Try.func32, Try.ntmps32
    go_wp2_with (first | (go_at_call 83; refine (RC.out _).mono ?_; rintro e w' ⟨rfl, rfl⟩))
    go_ret
    exact ⟨rfl, (by repeat (first | exact Below.refl _ _ | refine Below.alloc ?_ (by first | omega | (simp; done) | (simp; omega)) _ | refine Below.setCell ?_ (by first | omega | (simp; done) | (simp; omega)) _ | refine Below.drew ?_))⟩

set_option maxHeartbeats 400000 in
theorem empty_no (w : World) : Calls Try.prog 51 #[fldV 0 0 0 0 (.slice none 0 0)] w fun e w' => e = .returned (.bool true) ∧ Below w.heap.size w w' := by
  go_enter Try.func51, Try.ntmps51
  go_wp2
  go_ret
  exact ⟨rfl, (by repeat (first | exact Below.refl _ _ | refine Below.alloc ?_ (by first | omega | (simp; done) | (simp; omega)) _ | refine Below.setCell ?_ (by first | omega | (simp; done) | (simp; omega)) _ | refine Below.drew ?_))⟩
end Go.Proofs.Ytkcehbnmcdppkaa

/- Contract: Encode in the format of whole singles; the law's writes. -/
namespace Go.Proofs.Ytkcehbnmcdppkaa
open Go.RowKit Fl Go.Maps Go.ChangeMaps
set_option linter.unusedVariables false

/-- Bytes as a text. -/
def txB (L : List Int) : ByteArray := ⟨(L.map fun x => UInt8.ofNat x.toNat).toArray⟩
theorem txB_size (L : List Int) : (txB L).size = L.length := by simp [txB, ByteArray.size]
def isB (L : List Int) : Prop := ∀ x ∈ L, 0 ≤ x ∧ x < 256
theorem byteL_isB (n : Nat) : ∀ k, isB (byteL n k)
  | 0 => fun x hx => by cases hx
  | k + 1 => fun x hx => by
    rcases List.mem_cons.1 hx with rfl | hx
    · omega
    · exact byteL_isB n k x hx
theorem fullL_isB (v : Nat → Nat) : ∀ k, isB (fullL v k)
  | 0 => fun x hx => by cases hx
  | k + 1 => fun x hx => by
    rcases List.mem_append.1 hx with hx | hx
    · exact fullL_isB v k x hx
    · exact byteL_isB _ _ x hx
theorem isB_app {L M : List Int} (h : isB L) (h2 : isB M) : isB (L ++ M) := fun x hx => by
  rcases List.mem_append.1 hx with hx | hx
  · exact h x hx
  · exact h2 x hx

/-- The text of bytes of one's own. -/
theorem text_of {w : World} {base g cap : Nat} {L : List Int} (h : w.ownsRow base 5 1 (.slice (some ⟨g, 0, none⟩) L.length cap) L.length (btL L)) (hB : isB L) :
    (convert 153 9 (.slice (some ⟨g, 0, none⟩) L.length cap)).run Try.prog w = .ok (.string (txB L)) w := by
  have hc := h.cells (g := g) rfl
  have := run_convert_bytes_back (P := Try.prog) w 153 9 5 ⟨g, 0, none⟩ cap (L.map fun x => UInt8.ofNat x.toNat) Try.underlying153 Try.underlying5 Try.underlying9 (fun j hj => by
    rw [List.length_map] at hj
    refine hc j _ ?_
    have hm := hB L[j] (List.getElem_mem hj)
    simp [btL, List.getElem?_eq_getElem hj]
    omega)
  rw [List.length_map] at this
  exact this

/-- A number modulo 2 ^ 32. -/
def u32N (x : Int) : Nat := (x % 4294967296).toNat
theorem u32N_lt (x : Int) : u32N x < 4294967296 := by unfold u32N; omega
theorem u32N_eq (x : Int) : (u32N x : Int) = x % 4294967296 := by unfold u32N; omega

/-- The four numbers of a region. -/
def rgI (X Y W H : Int) (k : Nat) : Int := if k = 0 then X else if k = 1 then Y else if k = 2 then W else H
/-- What stands ahead of the values, when k numbers are written. -/
def headL (fmt X Y W H : Int) : Nat → List Int
  | 0 => [84, 65, 82, 78, fmt]
  | k + 1 => headL fmt X Y W H k ++ byteL (u32N (rgI X Y W H k)) 4
theorem headL_len (fmt X Y W H : Int) : ∀ k, (headL fmt X Y W H k).length = 5 + 4 * k
  | 0 => rfl
  | k + 1 => by simp [headL, headL_len fmt X Y W H k, byteL_len]; omega

/-- The text of a field in whole singles. -/
def encL (X Y W H : Int) (v : Nat → Nat) (n : Nat) : List Int := headL 1 X Y W H 4 ++ fullL v n
def encT (X Y W H : Int) (v : Nat → Nat) (n : Nat) : ByteArray := txB (encL X Y W H v n ++ byteL (u32N (sumI (txB (encL X Y W H v n)))) 4)

theorem headL_isB (fmt X Y W H : Int) (hf : 0 ≤ fmt ∧ fmt < 256) : ∀ k, isB (headL fmt X Y W H k)
  | 0 => fun x hx => by
    have : x = 84 ∨ x = 65 ∨ x = 82 ∨ x = 78 ∨ x = fmt := by simpa [headL] using hx
    omega
  | k + 1 => isB_app (headL_isB fmt X Y W H hf k) (byteL_isB _ 4)
theorem encL_isB (X Y W H : Int) (v : Nat → Nat) (n : Nat) : isB (encL X Y W H v n) := isB_app (headL_isB 1 X Y W H (by omega) 4) (fullL_isB v n)
theorem tx_of {w : World} {base g cap : Nat} {L M : List Int} (h : w.ownsRow base 5 1 (.slice (some ⟨g, 0, none⟩) (L.length + M.length) cap) (L ++ M).length (btL (L ++ M))) (h1 : isB L) (h2 : isB M) :
    (convert 153 9 (.slice (some ⟨g, 0, none⟩) (L.length + M.length) cap)).run Try.prog w = .ok (.string (txB (L ++ M))) w := by
  have := text_of (L := L ++ M) (w := w) (base := base) (g := g) (cap := cap) (by have h' := h; rw [List.length_append] at h' ⊢; exact h') (isB_app h1 h2)
  rwa [List.length_append] at this

set_option maxHeartbeats 400000 in
set_option maxRecDepth 100000 in
theorem checkScale_full (w : World) (p q r : Nat) :
    Calls Try.prog 129 #[.agg #[.bool false, .func (.func 178) #[] #[pt p, pt q, pt r], .func (.func 179) #[] #[pt p, pt r]], scV 0 0 0] w fun e w' => e = .returned (.int .i64 0) ∧ Below w.heap.size w w' := by
  have NE : ∀ W : World, (binOp .neq 36 (scV 0 0 0) (scV 0 0 0)).run Try.prog W = .ok (.bool false) W := fun W => by kernel_rfl
  go_enter Try.func129, Try.ntmps129
  go_wp2
  go_ret
  exact ⟨rfl, (by repeat (first | exact Below.refl _ _ | refine Below.alloc ?_ (by first | omega | (simp; done) | (simp; omega)) _ | refine Below.setCell ?_ (by first | omega | (simp; done) | (simp; omega)) _ | refine Below.drew ?_))⟩

theorem check_okay (X Y : Int) (W H n b off cap : Nat) (v : Nat → Nat) (w : World) (hr : FlAt w b off n v) (hh : ∀ i, i < n → hgtB (v i) = true) (h0 : checkR X Y W H = 0) (hn : n = W * H) :
    Calls Try.prog 87 #[fldV X Y W H (.slice (some ⟨b, off, none⟩) n cap)] w fun e w' => e = .returned (.int .i64 0) ∧ Below w.heap.size w w' := by
  obtain ⟨b1, b2, b3, b4, b5, _⟩ := checkR_zero h0
  have hn2 : (n : Int) = W * H := by rw [hn]; simp
  have e0 : fldE n v = 0 := fldE_zero.2 (allB_iff.2 hh)
  have := checkA_any X Y W H (some ⟨b, off, none⟩) n cap 0 w (fun W' hb => by
    have := CheckHeights_row b off cap n v (by omega) W' (flAt_stay hr hb)
    rwa [e0] at this)
  rwa [show fldChk X Y W H n 0 = 0 by unfold fldChk; rw [if_neg (by simp [h0]), if_neg (by simp [hn2])]] at this

theorem BtAt.on {w0 wr w6 : World} {base g' cap' : Nat} {o0 : Option Nat} {L : List Int} {ov : Value} {B : List Int} (h : BtAt w0 base o0 L ov wr)
    (hgrow : wr.grownBy w6 ov.ownBlock) (hat : ov.ownBlock = some g' ∨ g' = wr.heap.size) (hown : w6.ownsRow base 5 1 (.slice (some ⟨g', 0, none⟩) (L.length + B.length) cap') (L.length + B.length) (btL L ++ btL B)) :
    BtAt w0 base o0 (L ++ B) (.slice (some ⟨g', 0, none⟩) (L.length + B.length) cap') w6 := by
  refine ⟨?_, ?_, ?_, ?_⟩
  · rw [List.length_append, btL_app]; exact hown
  · cases hv : ov.ownBlock with
    | none =>
      rw [hv] at hgrow
      exact ⟨hgrow.os.trans h.gr.os, hgrow.tape.trans h.gr.tape, hgrow.output.trans h.gr.output, Nat.le_trans h.gr.size hgrow.size, fun i hi hne => (hgrow.block i (Nat.lt_of_lt_of_le hi h.gr.size) (by simp)).trans (h.gr.block i hi hne)⟩
    | some g =>
      rw [hv] at hgrow
      refine grownBy_on h.gr ?_ hgrow
      rcases h.seat with e | ⟨q, e, hq⟩
      · exact .inl (e.symm.trans hv)
      · rw [hv] at e; have := Option.some.inj e; exact .inr (by omega)
  · rcases hat with e | e
    · rcases h.seat with s | ⟨q, s, hq⟩
      · exact .inl (by rw [← s, e]; rfl)
      · exact .inr ⟨g', rfl, by rw [e] at s; have := Option.some.inj s; omega⟩
    · exact .inr ⟨g', rfl, by have := h.gr.size; omega⟩
  · have := hgrow.size
    have := h.size
    omega

theorem ownsRow_base {w : World} {b B : Nat} {e : TypeId} {size : Nat} {v : Value} {n : Nat} {xs : List Value} (h : w.ownsRow B e size v n xs) (hb : b ≤ B) : w.ownsRow b e size v n xs := by
  rcases h.2 with h2 | ⟨g, cap, cur, h2, h3, h4⟩
  · exact ⟨h.1, .inl h2⟩
  · exact ⟨h.1, .inr ⟨g, cap, cur, h2, Nat.le_trans hb h3, h4⟩⟩
/-- The mark's block: it is no longer to be written. -/
abbrev tarnO : Obj := .cells #[.int .u8 84, .int .u8 65, .int .u8 82, .int .u8 78] 5 (4, 5)
theorem tarn_cells (w : World) (o : Obj) (j : Nat) (u : Value) (h : (btL [84, 65, 82, 78])[j]? = some u) : ((w.alloc tarnO).alloc o).cell? ((⟨w.heap.size, 0, none⟩ : Addr).add j) = some u := by
  rw [Go.WideShapes.add_plain]
  have hb : ((w.alloc tarnO).alloc o).heap[w.heap.size]? = some tarnO := by (first | (rw [heap_alloc_get, if_pos rfl]; done) | ((simp only [heap_alloc_get, heap_size_alloc, if_true]) <;> ((repeat' split) <;> first | rfl | omega)))
  simp only [World.cell?, hb, Nat.zero_add]
  rw [if_neg (by simp), show (#[.int .u8 84, .int .u8 65, .int .u8 82, .int .u8 78] : Array Value) = (btL [84, 65, 82, 78]).toArray from rfl, List.getElem?_toArray]
  exact h
theorem index_rg (X Y W H : Int) (k : Nat) (hk : k < 4) (w : World) : (Instr.index 155 (.agg #[.int .i64 X, .int .i64 Y, .int .i64 W, .int .i64 H]) (.int .i64 (k : Int))).run Try.prog w = .ok (.int .i64 (rgI X Y W H k)) w := by
  have : k = 0 ∨ k = 1 ∨ k = 2 ∨ k = 3 := by omega
  rcases this with rfl | rfl | rfl | rfl
  · show _ = Result.ok (Value.int .i64 X) w; kernel_rfl
  · show _ = Result.ok (Value.int .i64 Y) w; kernel_rfl
  · show _ = Result.ok (Value.int .i64 W) w; kernel_rfl
  · show _ = Result.ok (Value.int .i64 H) w; kernel_rfl
theorem start_at {w5 w6 w7 : World} {v : Value} {L : List Int} (h : w7.ownsRow w6.heap.size 5 1 v L.length (btL L)) (hz : w5.heap.size ≤ w6.heap.size) (hg : w6.grownBy w7 none) : BtAt w7 w5.heap.size v.ownBlock L v w7 :=
  ⟨ownsRow_base h hz, ⟨rfl, rfl, rfl, Nat.le_refl _, fun _ _ _ => rfl⟩, .inl rfl, Nat.le_trans hz hg.size⟩

set_option maxHeartbeats 4000000 in
set_option maxRecDepth 100000 in
theorem encFull_any (X Y : Int) (W H n b off cap : Nat) (v : Nat → Nat) (w : World) (hr : FlAt w b off n v) (hw : wf32 n v) (hh : ∀ i, i < n → hgtB (v i) = true) (h0 : checkR X Y W H = 0) (hn : n = W * H) :
    Calls Try.prog 69 #[fldV X Y W H (.slice (some ⟨b, off, none⟩) n cap), .int .i64 1, scV 0 0 0] w fun e w' => e = .returned (.tuple #[.string (encT X Y W H v n), .int .i64 0]) ∧ Below w.heap.size w w' := by
  obtain ⟨b1, b2, b3, b4, b5, b6, b7, b8, b9⟩ := checkR_zero h0
  have n1 : 1 ≤ n := by rw [hn]; exact Nat.mul_pos (by omega) (by omega)
  have n2 : n ≤ 65536 := by have : (n : Int) = W * H := by rw [hn]; simp
                            omega
  have CK := Lib.hid (fun W' (hB : Below w.heap.size w W') => check_okay X Y W H n b off cap v W' (flAt_stay hr hB) hh h0 hn)
  have LY := Lib.hid layouts_any
  have CD := Lib.hid (fun (p q r : Nat) (V : Value) W' (hV : CodV W' 4 163 164 V p q r) (hB : Below w.heap.size w W') => codes_any b off n cap v 0 0 0 p q r V W' hV (flAt_stay hr hB) hw (fun i hi => hgt_fin (hh i hi)) n1 n2)
  have CS := Lib.hid checkScale_full
  have B1 := Lib.hid (show Below w.heap.size w ((w.alloc (fldO X Y W H (.slice (some ⟨b, off, none⟩) n cap))).alloc (.cells #[.float .f32 0, .float .f32 0, .int .i64 0] 36)) from (by repeat (first | exact Below.refl _ _ | refine Below.alloc ?_ (by first | omega | (simp; done) | (simp; omega)) _ | refine Below.setCell ?_ (by first | omega | (simp; done) | (simp; omega)) _ | refine Below.drew ?_)))
  have HF1 := Lib.hid (show ((w.alloc (fldO X Y W H (.slice (some ⟨b, off, none⟩) n cap))).alloc (.cells #[.float .f32 0, .float .f32 0, .int .i64 0] 36)).heap[w.heap.size]? = some (fldO X Y W H (.slice (some ⟨b, off, none⟩) n cap)) by (first | (rw [heap_alloc_get, if_pos rfl]; done) | ((simp only [heap_alloc_get, heap_size_alloc, if_true]) <;> ((repeat' split) <;> first | rfl | omega))))
  have HS1 := Lib.hid (show ((w.alloc (fldO X Y W H (.slice (some ⟨b, off, none⟩) n cap))).alloc (.cells #[.float .f32 0, .float .f32 0, .int .i64 0] 36)).heap[w.heap.size + 1]? = some (.cells #[.float .f32 0, .float .f32 0, .int .i64 0] 36) by (first | (rw [heap_alloc_get, if_pos rfl]; done) | ((simp only [heap_alloc_get, heap_size_alloc, if_true]) <;> ((repeat' split) <;> first | rfl | omega))))
  have N1 := Lib.hid n1
  have N2 := Lib.hid n2
  clear hr hw hh h0 hn b1 b2 b3 b4 b5 b6 b7 b8 b9 n1 n2
  have hinfo : (Try.prog.info? 5).map (fun i => (i.zero, i.size, i.bytes)) = some (some (.int .u8 0), 1, 1) := by kernel_rfl
  obtain ⟨ti, hi, hz0, hz1, hz2⟩ := info_parts hinfo
  have HTI := Lib.hid hi
  clear hinfo hi
  have RS := fun (w : World) (a : Addr) (m : Mode) f x y => run_store_func (P := Try.prog) (w := w) (a := a) (m := m) f x y
  have KC := fun (w : World) (C : Array Value) (n c : Nat) => Lib.run_convert_bytes_const (P := Try.prog) w 153 5 C n c Try.underlying153 Try.underlying5
  go_enter Try.func69, Try.ntmps69
  go_upto_region 1 with fail
  generalize (w.alloc (fldO X Y W H (.slice (some ⟨b, off, none⟩) n cap))).alloc (.cells #[.float .f32 0, .float .f32 0, .int .i64 0] 36) = w1 at *
  obtain ⟨cF, fF, zF⟩ := blkC HF1.out
  go_wp2_with (first
    | (go_at_call 87; refine (CK.out _ B1.out).mono ?_; rintro e w2 ⟨rfl, hb2⟩; have B2 := Lib.hid (B1.out.trans (hb2.mono B1.out.size)); have HF2 := Lib.hid (blkStay HF1.out hb2); have HS2 := Lib.hid (blkStay HS1.out hb2); clear hb2 cF fF zF)
    | (go_at_call 128; refine (LY.out _).mono ?_; rintro e w3 ⟨mb, V, p, q, r, rfl, hV, hp, hq, hr, hb3, LK⟩; obtain rfl := hV.val; have HV := Lib.hid hV; have B3 := Lib.hid (B2.out.trans (hb3.mono B2.out.size)); have HF3 := Lib.hid (blkStay HF2.out hb3); have HS3 := Lib.hid (blkStay HS2.out hb3); clear hV hp hq hr hb3; obtain ⟨cS, fS, zS⟩ := blkC HS3.out)
    | (go_at_call 129; (with_reducible refine (CS.out _ p q r).mono ?_); rintro e w4 ⟨rfl, hb4⟩; clear cS fS zS LK; have HL4 := Lib.hid (blkStay (b := w3.heap.size) (o := .cells #[.bool false, .func (.func 178) #[] #[pt p, pt q, pt r], .func (.func 179) #[] #[pt p, pt r]] 149) (by (first | (rw [heap_alloc_get, if_pos rfl]; done) | ((simp only [heap_alloc_get, heap_size_alloc, if_true]) <;> ((repeat' split) <;> first | rfl | omega)))) hb4); have hb4' : Below w3.heap.size w3 w4 := (((Below.refl _ _).alloc (Nat.le_refl _) _).trans (hb4.mono (by simp))); have B4 := Lib.hid (B3.out.trans (hb4'.mono B3.out.size)); have HF4 := Lib.hid (blkStay HF3.out hb4'); have HS4 := Lib.hid (blkStay HS3.out hb4'); have HV4 := Lib.hid (HV.out.stay hb4'); clear hb4 hb4'; obtain ⟨cS, fS, zS⟩ := blkC HS4.out; obtain ⟨cF, fF, zF⟩ := blkC HF4.out; obtain ⟨cL, fL, zL⟩ := blkC HL4.out)
    | (go_at_call 178; (with_reducible refine (CD.out p q r _ _ HV4.out B4.out).mono ?_); rintro e w5 ⟨ov, rfl, own5, hb5⟩; clear cF fF zF cS fS zS cL fL zL; have OW5 := Lib.hid own5; have HF5 := Lib.hid (blkStay HF4.out hb5); have B5 := Lib.hid (B4.out.trans (hb5.mono B4.out.size)); have B45 := Lib.hid hb5; obtain ⟨cF, fF, zF⟩ := blkC HF5.out; clear own5 hb5; obtain ⟨gv, cv, rfl, _, _⟩ := OW5.out.form (by rw [fullL_len]; have := N1.out; omega); have hi := HTI.out)
    | (at_builtin; go_loud (refine wpList_append_grows _ rfl _ _ _ rfl 5 ti _ 1 1 Try.underlying153 hi hz0 hz1 hz2 rfl (by omega) (some ⟨w5.heap.size, 0, none⟩) 4 4 (btL [84, 65, 82, 78]) (by rfl) (by simp) (by rfl) (fun b hb j u hu => by cases hb; exact tarn_cells w5 _ j u hu) ⟨w5.heap.size + 1, 0, none⟩ 1 1 [.int .u8 1] (by rfl) (by rfl) (World.news_of_block (cs := #[.int .u8 1]) (t := 5) (fr := (0, 0)) (by (first | (rw [heap_alloc_get, if_pos rfl]; done) | ((simp only [heap_alloc_get, heap_size_alloc, if_true]) <;> ((repeat' split) <;> first | rfl | omega))))) (by simp [Value.oneCell']) (by omega) (by unfold maxLen; omega) (by omega) ?_; intro v7 w7 hown7 hgrow; have A7 := Lib.hid (start_at (w5 := w5) (L := [84, 65, 82, 78, 1]) hown7 (by simp; omega) hgrow); have B57 := Lib.hid (show Below w5.heap.size w5 w7 from (((Below.refl _ _).alloc (Nat.le_refl _) _).alloc (by simp) _).trans ⟨hgrow.os, hgrow.tape, hgrow.output, hgrow.size, fun j hj => hgrow.block j (by simp; omega) (by simp)⟩); have HF7 := Lib.hid (blkStay HF5.out B57.out); have OW7 := Lib.hid (ownsRow_below OW5.out B57.out); obtain ⟨g7, c7, rfl, hg7, _⟩ := hown7.form (by omega); clear hown7 hgrow hi cF fF zF; obtain ⟨cF, fF, zF⟩ := blkC HF7.out)))
  have HG7 := Lib.hid (show w5.heap.size ≤ g7 by simp at hg7; omega)
  have B7 := Lib.hid (B5.out.trans (B57.out.mono B5.out.size))
  clear hg7 cF fF zF
  have IX := Lib.hid (fun (k : Nat) (hk : k < 4) (w : World) => index_rg X Y W H k hk w)
  have HN := Lib.hid (show 0 < (fullL v n).length ∧ (fullL v n).length ≤ 262144 by rw [fullL_len]; have := N1.out; have := N2.out; omega)
  go_loopw [14, 66] (fun t i wr => ∃ k : Nat, k ≤ 4 ∧ i = .int .i64 k ∧ BtAt w7 w5.heap.size (some g7) (headL 1 X Y W H k) t wr) (fun _ i _ => 4 - (intOf i).toNat)
  case atStart => exact ⟨0, by omega, rfl, A7.out⟩
  case round =>
    obtain ⟨k, hk, rfl, hA⟩ := hrel
    have HA := Lib.hid hA
    clear hA
    by_cases hlt : k < 4
    · have ix := IX.out k hlt
      have AB := Lib.hid (fun t wr h => appendBytes_any w7 w5.heap.size (some g7) (headL 1 X Y W H k) t (u32N (rgI X Y W H k)) 4 wr h (u32N_lt _) (by omega) (by rw [headL_len]; omega))
      rw [u32N_eq] at AB
      have HE := Lib.hid (show headL 1 X Y W H (k + 1) = headL 1 X Y W H k ++ byteL (u32N (rgI X Y W H k)) 4 from rfl)
      generalize rgI X Y W H k = x at *
      go_wp2_with (go_at_call 130; refine (AB.out _ _ HA.out).mono ?_; rintro e w8 ⟨ov', rfl, hA8⟩; have HA8 := Lib.hid hA8; clear hA8)
      go_roundw
      case rel => exact ⟨k + 1, by omega, by go_num, by rw [HE.out]; exact HA8.out⟩
      case measure => simp [intOf]; omega
    · obtain rfl : k = 4 := by omega
      have hi := HTI.out
      have OWr := Lib.hid (OW7.out.kept HA.out.gr (.inr (by have := OW5.out.lt gv rfl; have := HG7.out; simp [Value.ownBlock]; omega)))
      obtain ⟨l1, l2⟩ := HN.out
      have HC := Lib.hid (OWr.out.cells (g := gv) rfl)
      have HL1 := Lib.hid (btL_len (fullL v n))
      have hL5 := headL_len 1 X Y W H 4
      have SM := Lib.hid (fun w => sum_any (txB (encL X Y W H v n)) w (by rw [txB_size]; unfold encL; rw [List.length_append, fullL_len]; have := N2.out; omega))
      have AB := Lib.hid (fun t wr h => appendBytes_any w7 w5.heap.size (some g7) (encL X Y W H v n) t (u32N (sumI (txB (encL X Y W H v n)))) 4 wr h (u32N_lt _) (by omega) (by unfold encL; rw [List.length_append, fullL_len]; have := N2.out; omega))
      have HT := Lib.hid (show encT X Y W H v n = txB (encL X Y W H v n ++ byteL (u32N (sumI (txB (encL X Y W H v n)))) 4) from rfl)
      obtain ⟨s1, s2⟩ := sumI_in (txB (encL X Y W H v n))
      rw [u32N_eq, Int.emod_eq_of_lt s1 s2, show ((4 : Nat) : Int) = 4 from rfl] at AB
      go_wp2_with (first
        | (at_builtin; go_loud (refine wpList_append_lies _ rfl _ _ _ rfl w5.heap.size 5 ti _ 1 1 Try.underlying153 hi hz0 hz1 hz2 rfl (by omega) u14 (headL 1 X Y W H 4).length (btL (headL 1 X Y W H 4)) (by rfl) HA.out.own ⟨gv, 0, none⟩ (fullL v n).length cv (btL (fullL v n)) (by rfl) (by rw [btL_len]; omega) HC.out (by simp [btL, Value.oneCell']) l1 (by unfold maxLen; omega) (by omega) HA.out.size wr.heap.size rfl ?_; intro g8 c8 w8 hown8 hgrow hat hlt8; have A8 := Lib.hid (BtAt.on (B := fullL v n) HA.out hgrow hat hown8); have A8' := Lib.hid (show BtAt w7 w5.heap.size (some g7) (encL X Y W H v n) _ w8 from A8.out); have TX := tx_of A8.out.own (headL_isB 1 X Y W H (by omega) 4) (fullL_isB v n); rw [show headL 1 X Y W H 4 ++ fullL v n = encL X Y W H v n from rfl] at TX; clear hown8 hgrow hat hlt8 hi l1 l2 hL5))
        | (go_at_call 131; (with_reducible refine (SM.out _).mono ?_); rintro e w' ⟨rfl, rfl⟩)
        | (go_at_call 130; (with_reducible refine (AB.out _ _ A8'.out).mono ?_); rintro e w9 ⟨ov', rfl, hA9⟩; obtain ⟨g9, c9, rfl, _, _⟩ := hA9.own.form (by simp [byteL_len]); have HA9 := Lib.hid hA9; have TX2 := text_of hA9.own (isB_app (encL_isB X Y W H v n) (byteL_isB _ 4)); generalize (encL X Y W H v n ++ byteL (u32N (sumI (txB (encL X Y W H v n)))) 4).length = N9 at TX2 ⊢; rw [← HT.out] at TX2; clear hA9 TX))
      go_ret2
      exact ⟨rfl, B7.out.trans (grownBy_far HA9.out.gr (by have := HG7.out; have := B5.out.size; omega) B7.out.size)⟩
end Go.Proofs.Ytkcehbnmcdppkaa

/- Contracts: math.Floor, and the floors of both sides. -/
namespace Go.Proofs.Ytkcehbnmcdppkaa
open Go.RowKit Fl
set_option linter.unusedVariables false

theorem toIntegral_num (X : Nat) (d : Ieee.Datum) (h : FloatKind.f64.decode X = d) (hd : ∃ s M I, d = .number s M I) :
    Extern.MathFloor.toIntegral "math.archFloor" .down #[.float .f64 X] = pure (.float .f64 (FloatKind.f64.encode (d.integral .down))) := by
  obtain ⟨s, M, I, rfl⟩ := hd
  conv => lhs; whnf
  rw [h]

theorem archFloor_num (X : Nat) (s : Bool) (M : Nat) (I : Int) (h : Ieee.double.read X = .number s M I) (w : World) :
    (callFunc 186 #[.float .f64 X]).run Try.prog w = .ok (.value (.float .f64 (Ieee.double.write ((Ieee.double.read X).integral .down)))) w := by
  rw [run_callFunc_extern Try.func186 (by kernel_rfl) (by kernel_rfl) (by kernel_rfl) (e := Extern.MathFloor.toIntegral "math.archFloor" .down) (by kernel_rfl), toIntegral_num X _ rfl ⟨s, M, I, h⟩]
  rfl

set_option maxHeartbeats 400000 in
theorem mathFloor_num (X F : Nat) (s : Bool) (M : Nat) (I : Int) (h : Ieee.double.read X = .number s M I) (hF : Ieee.double.write ((Ieee.double.read X).integral .down) = F) (w : World) :
    Calls Try.prog 171 #[.float .f64 X] w fun e w' => e = .returned (.float .f64 F) ∧ w = w' := by
  have a1 := archFloor_num X s M I h
  rw [hF] at a1
  clear h hF
  go_enter Try.func171, Try.ntmps171
  go_wp2
  go_ret
  exact ⟨rfl, rfl⟩

set_option maxHeartbeats 400000 in
theorem floor_any (x k : Nat) (a : Int) (h : vS x = some a) (hb : Bd k x) (hk : k ≤ 50) (w : World) :
    Calls Try.prog 137 #[.float .f32 x] w fun e w' => e = .returned (.float .f32 (flW x)) ∧ w = w' := by
  obtain ⟨X, s, M, I, F, c1, c2, c3, c4, _⟩ := floor_parts h hb hk
  have d1 := fun (W : World) => run_convert_float_float (P := Try.prog) W 22 32 .f32 .f64 x X (by kernel_rfl) Try.underlying32 c1
  have d2 := fun (W : World) => run_convert_float_float (P := Try.prog) W 32 22 .f64 .f32 F (flW x) (by kernel_rfl) Try.underlying22 c4
  have MF := Lib.hid (fun w => mathFloor_num X F s M I c2 c3 w)
  clear c1 c2 c3 c4 h hb
  go_enter Try.func137, Try.ntmps137
  go_wp2_with (go_at_call 171; refine (MF.out _).mono ?_; rintro e w' ⟨rfl, rfl⟩)
  go_ret
  exact ⟨rfl, rfl⟩

end Go.Proofs.Ytkcehbnmcdppkaa

/- Dither and Speckle of one cell, as words; what the steps come to. -/
namespace Go.Proofs.Ytkcehbnmcdppkaa
open Go.RowKit Fl
set_option linter.unusedVariables false

theorem div_val {x y k : Nat} {a b : Int} (hx : vS x = some a) (hy : vS y = some b) (hb : b ≠ 0) (hk : k ≤ 120) (h : a.natAbs ≤ b.natAbs * 2 ^ k) : Same2 .quo k x y := by
  obtain ⟨s, m, i, e1, rfl⟩ := vS_some hx
  obtain ⟨t, n, j, e2, rfl⟩ := vS_some hy
  have n1 : (vOf s m i).natAbs = m * 2 ^ (i + 1074).toNat := by unfold vOf; rw [signed_eq, Int.natAbs_mul, Int.natAbs_natCast]; cases s <;> simp
  have n2 : (vOf t n j).natAbs = n * 2 ^ (j + 1074).toNat := by unfold vOf; rw [signed_eq, Int.natAbs_mul, Int.natAbs_natCast]; cases t <;> simp
  refine div_same hk e1 e2 ?_ (by rw [← n1, ← n2]; exact h)
  rcases Nat.eq_zero_or_pos n with z | z
  · exfalso; apply hb; subst z
    have : (vOf t 0 j).natAbs = 0 := by rw [n2]; simp
    omega
  · exact z

theorem vS_lo {j : Nat} (hj : j = 1064) : vS 981467136 = some ((2 ^ j : Nat) : Int) := by
  have h : Ieee.single.read 981467136 = .number false 8388608 (-33) := by decide
  rw [vS_lit (t := 1) (k := 23) (j := j) h (by decide) (by rw [hj]; decide)]; simp
theorem vS_hi {j : Nat} (hj : j = 1084) : vS 1149239296 = some ((2 ^ j : Nat) : Int) := by
  have h : Ieee.single.read 1149239296 = .number false 8388608 (-13) := by decide
  rw [vS_lit (t := 1) (k := 23) (j := j) h (by decide) (by rw [hj]; decide)]; simp

/-- A right step: its value is from 2 ^ -10 to 2 ^ 10. -/
def StepOk (st : Nat) : Prop := ∃ b, vS st = some b ∧ (one : Int) ≤ 1024 * b ∧ b ≤ 1024 * (one : Int)
theorem step_ok {st : Nat} (h : wiE st 981467136 1149239296 = 0) : StepOk st := by
  unfold wiE at h
  by_cases hf : finB st = false
  · rw [if_pos hf] at h; cases h
  · rw [if_neg hf] at h
    split at h
    · cases h
    · rename_i c
      obtain ⟨a, ha⟩ := Option.isSome_iff_exists.1 (show (vS st).isSome = true by simpa [finB, Option.isSome_iff_ne_none] using hf)
      obtain ⟨j, hj⟩ : ∃ j : Nat, j = 1064 := ⟨_, rfl⟩
      have hj' : j + 20 = 1084 := by omega
      rw [show FloatKind.f32.format = Ieee.single from rfl, lss_val ha (vS_lo hj), gtr_val ha (vS_hi hj')] at c
      refine ⟨a, ha, ?_⟩
      have e1 : one = 1024 * 2 ^ j := by rw [one_split (a := 10) (j := j) (by omega)]
      have e2 : 2 ^ (j + 20) = 1048576 * 2 ^ j := by rw [Nat.pow_add, Nat.mul_comm]
      rw [e2] at c
      rw [e1]
      generalize 2 ^ j = U at *
      simp at c
      omega
theorem step_bd {st : Nat} (h : StepOk st) : Bd 11 st := by
  obtain ⟨b, hb, h1, h2⟩ := h
  obtain ⟨J, hJ⟩ : ∃ J : Nat, J = 1074 := ⟨_, rfl⟩
  refine bd_val' (j := 11 + J) hb (by omega) ?_
  have e : 2 ^ (11 + J) = 2048 * one := by rw [one_pow hJ, Nat.pow_add]
  have := one_pos
  rw [e]
  generalize one = O at *
  omega

theorem hgt_val {x : Nat} (h : hgtB x = true) : ∃ a, vS x = some a ∧ a.natAbs ≤ 1048576 * one := by
  obtain ⟨a, ha, hb⟩ := val_bd (hgt_bd h)
  refine ⟨a, ha, ?_⟩
  obtain ⟨J, hJ⟩ : ∃ J : Nat, J = 1074 := ⟨_, rfl⟩
  have e : 2 ^ (1074 + 20) = 1048576 * one := by
    rw [one_pow hJ, show 1074 + 20 = 20 + J by omega, Nat.pow_add]
  rwa [e] at hb

theorem flV_near (a : Int) : flV a ≤ a ∧ a < flV a + (one : Int) := by
  have hp : (0 : Int) < (one : Int) := Int.natCast_pos.2 one_pos
  unfold flV
  have h1 := Int.ediv_mul_le a (Int.ne_of_gt hp)
  have h2 := Int.lt_ediv_add_one_mul_self a hp
  rw [Int.add_mul, Int.one_mul] at h2
  exact ⟨h1, h2⟩

/-- The quotient that Dither makes. -/
def dthQ (v st : Nat) : Nat := (floatBits .quo .f32 v st).getD 0
/-- What Dither makes of a cell, by the word of its hash. -/
def dthW (v st : Nat) (h : Int) : Nat :=
  (floatBits .mul .f32 (if (FloatKind.f32.format.order (unitW h) ((floatBits .sub .f32 (dthQ v st) (flW (dthQ v st))).getD 0) == some .lt) = true then (floatBits .add .f32 (flW (dthQ v st)) 1065353216).getD 0 else flW (dthQ v st)) st).getD 0

structure DthAt (v st : Nat) (h : Int) (q d : Nat) (c : Bool) (j r : Nat) : Prop where
  q1 : floatBits .quo .f32 v st = some q
  q2 : Same2 .quo 30 v st
  fq : ∃ a, vS q = some a
  bq : Bd 30 q
  d1 : floatBits .sub .f32 q (flW q) = some d
  d2 : Same2 .sub 32 q (flW q)
  c1 : (FloatKind.f32.format.order (unitW h) d == some .lt) = c
  j1 : c = true → floatBits .add .f32 (flW q) 1065353216 = some j
  j2 : c = true → Same2 .add 32 (flW q) 1065353216
  j3 : c = false → j = flW q
  r1 : floatBits .mul .f32 j st = some r
  r2 : Same2 .mul 43 j st
  w : dthW v st h = r
  lt : r < 4294967296

theorem fl_bd {q k : Nat} (h : Bd k q) (hk : k ≤ 50) : Bd (k + 1) (flW q) := by
  obtain ⟨a, ha, hb⟩ := val_bd h
  obtain ⟨_, _, _, _, _, _, _, _, _, hv⟩ := floor_parts ha h hk
  refine bd_val hv ?_
  obtain ⟨h1, h2⟩ := flV_near a
  obtain ⟨J, hJ⟩ : ∃ J : Nat, J = 1074 := ⟨_, rfl⟩
  have e : one ≤ 2 ^ (1074 + k) := by rw [one_pow hJ]; exact Nat.pow_le_pow_right (by omega) (by omega)
  rw [show 1074 + (k + 1) = 1074 + k + 1 by omega, Nat.pow_succ]
  generalize 2 ^ (1074 + k) = T at *
  generalize one = O at *
  omega

theorem bd_one (k : Nat) : Bd k 1065353216 := by
  obtain ⟨J, hJ⟩ : ∃ J : Nat, J = 1074 := ⟨_, rfl⟩
  refine bd_val vS_one ?_
  rw [Int.natAbs_natCast, one_pow hJ]; exact Nat.pow_le_pow_right (by omega) (by omega)

theorem dth_parts {v st : Nat} (h : Int) (hv : hgtB v = true) (hs : StepOk st) : ∃ q d c j r, DthAt v st h q d c j r := by
  obtain ⟨a, ha, hab⟩ := hgt_val hv
  have hs' := hs
  obtain ⟨b, hb, hb1, hb2⟩ := hs'
  have op := one_pos
  have q2 : Same2 .quo 30 v st := by
    refine div_val ha hb ?_ (by omega) ?_
    · generalize one = O at *; omega
    · rw [show (2 : Nat) ^ 30 = 1073741824 by decide]; generalize one = O at *; omega
  obtain ⟨_, _, _, q, _, _, _, _, q1, bq⟩ := q2.ex
  obtain ⟨aq, haq, _⟩ := val_bd bq
  have bf := fl_bd bq (by omega)
  have d2 : Same2 .sub 32 q (flW q) := sub_same (k := 31) (by omega) (bd_up bq (by omega)) bf
  obtain ⟨_, _, _, d, _, _, _, _, d1, _⟩ := d2.ex
  have j2 : Same2 .add 32 (flW q) 1065353216 := add_same (k := 31) (by omega) bf (bd_one 31)
  obtain ⟨_, _, _, j, _, _, _, _, j1, bj⟩ := j2.ex
  have eq : dthQ v st = q := by unfold dthQ; rw [q1]; rfl
  cases hc : (FloatKind.f32.format.order (unitW h) d == some .lt) with
  | true =>
    have r2 : Same2 .mul (32 + 11) j st := mul_same (by omega) bj (step_bd hs)
    obtain ⟨_, _, _, r, _, _, _, _, r1, _⟩ := r2.ex
    refine ⟨q, d, true, j, r, q1, q2, ⟨aq, haq⟩, bq, d1, d2, hc, fun _ => j1, fun _ => j2, (fun h => by cases h), r1, r2, ?_, opt_lt (d := (Ieee.single.read j).product (Ieee.single.read st)) r1⟩
    unfold dthW
    rw [eq, d1]
    show (floatBits .mul .f32 (if (FloatKind.f32.format.order (unitW h) d == some .lt) = true then (floatBits .add .f32 (flW q) 1065353216).getD 0 else flW q) st).getD 0 = r
    rw [if_pos hc, j1]
    show (floatBits .mul .f32 j st).getD 0 = r
    rw [r1]; rfl
  | false =>
    have r2 : Same2 .mul (32 + 11) (flW q) st := mul_same (by omega) (bd_up bf (by omega)) (step_bd hs)
    obtain ⟨_, _, _, r, _, _, _, _, r1, _⟩ := r2.ex
    refine ⟨q, d, false, flW q, r, q1, q2, ⟨aq, haq⟩, bq, d1, d2, hc, (fun h => by cases h), (fun h => by cases h), fun _ => rfl, r1, r2, ?_, opt_lt (d := (Ieee.single.read (flW q)).product (Ieee.single.read st)) r1⟩
    unfold dthW
    rw [eq, d1]
    show (floatBits .mul .f32 (if (FloatKind.f32.format.order (unitW h) d == some .lt) = true then (floatBits .add .f32 (flW q) 1065353216).getD 0 else flW q) st).getD 0 = r
    rw [if_neg (by rw [hc]; simp), r1]; rfl

/-- What Speckle makes of a cell. -/
def spkW (st : Nat) (h : Int) : Nat := if (FloatKind.f32.format.order (unitW h) st == some .lt) = true then 1065353216 else 0

/-- The place of a cell by its number. -/
theorem place_of {X Y x y : Int} {W i : Nat} (hW : 1 ≤ W) (h1 : X ≤ x) (h2 : x < X + W) (h3 : Y ≤ y) (hi : (i : Int) = (y - Y) * W + (x - X)) : X + ((i % W : Nat) : Int) = x ∧ Y + ((i / W : Nat) : Int) = y := by
  obtain ⟨a, ha⟩ := Int.eq_ofNat_of_zero_le (show 0 ≤ x - X by omega)
  obtain ⟨b, hb⟩ := Int.eq_ofNat_of_zero_le (show 0 ≤ y - Y by omega)
  rw [ha, hb, ← Int.natCast_mul, ← Int.natCast_add] at hi
  have hi' : i = b * W + a := Int.ofNat.inj hi
  have ha' : a < W := by omega
  have e1 : i % W = a := by rw [hi', Nat.mul_comm, Nat.mul_add_mod, Nat.mod_eq_of_lt ha']
  have e2 : i / W = b := by rw [hi', Nat.mul_comm, Nat.mul_add_div (by omega), Nat.div_eq_of_lt ha']; rfl
  rw [e1, e2]; omega

set_option maxHeartbeats 400000 in
theorem refDiv_any (k x y r : Nat) (h : Same2 .quo k x y) (hr : floatBits .quo .f32 x y = some r) (w : World) :
    Calls Try.prog 101 #[.float .f32 x, .float .f32 y] w fun e w' => e = .returned (.float .f32 r) ∧ w = w' := by
  obtain ⟨X, Y, Z, r', h1, h2, h3, h4, h5, _⟩ := h.ex
  rw [hr] at h5
  have h5 := Option.some.inj h5
  subst h5
  have c1 := fun (W : World) => run_convert_float_float (P := Try.prog) W 22 32 .f32 .f64 x X (by kernel_rfl) Try.underlying32 h1
  have c2 := fun (W : World) => run_convert_float_float (P := Try.prog) W 22 32 .f32 .f64 y Y (by kernel_rfl) Try.underlying32 h2
  have c3 := fun (W : World) => run_float_arith (P := Try.prog) W .quo 32 .f64 X Y Z h3
  have c4 := fun (W : World) => run_convert_float_float (P := Try.prog) W 32 22 .f64 .f32 Z r (by kernel_rfl) Try.underlying22 h4
  clear h1 h2 h3 h4 hr h
  go_enter Try.func101, Try.ntmps101
  go_wp2
  go_ret
  exact ⟨rfl, rfl⟩

end Go.Proofs.Ytkcehbnmcdppkaa

/- The error of a single that should lie between two others, by the tests of the reference. -/
namespace Go.Proofs.Ytkcehbnmcdppkaa
open Go.RowKit Fl
set_option linter.unusedVariables false

/-- The error of a single that should be from lo to hi, told by the reference's tests. -/
def WithinCases (st lo hi : Nat) : Prop :=
    ((fldE 1 (fun _ => st) = 2 ∨ fldE 1 (fun _ => st) = 3) ∧ wiE st lo hi = fldE 1 (fun _ => st)) ∨
    (fldE 1 (fun _ => st) = 0 ∧ wiE st lo hi = 3 ∧ (FloatKind.f32.format.order st lo == some .lt) = true) ∨
    (fldE 1 (fun _ => st) = 0 ∧ wiE st lo hi = 3 ∧ (FloatKind.f32.format.order st lo == some .lt) = false ∧ (FloatKind.f32.format.order st hi == some .gt) = true) ∨
    (fldE 1 (fun _ => st) = 0 ∧ wiE st lo hi = 0 ∧ (FloatKind.f32.format.order st lo == some .lt) = false ∧ (FloatKind.f32.format.order st hi == some .gt) = false)
theorem within_cases {st lo hi : Nat} {l h : Int} (hl : vS lo = some l) (hh : vS hi = some h) (l1 : -vTop ≤ l) (h1 : h ≤ vTop) : WithinCases st lo hi := by
  unfold WithinCases
  cases hf : finB st with
  | false =>
    have e : fldE 1 (fun _ => st) = 2 := by simp [fldE, allB, List.range_succ, hf]
    exact .inl ⟨.inl e, by rw [e]; unfold wiE; rw [if_pos hf]⟩
  | true =>
    obtain ⟨a, ha⟩ := Option.isSome_iff_exists.1 (show (vS st).isSome = true from hf)
    have l0 := lss_val ha hl
    have g1 := gtr_val ha hh
    rw [← f32f] at l0 g1
    have hw : ((FloatKind.f32.format.order st lo == some .lt) = true ∨ (FloatKind.f32.format.order st hi == some .gt) = true) → wiE st lo hi = 3 := fun c => by
      unfold wiE; rw [if_neg (by rw [hf]; simp), if_pos c]
    cases hgt : hgtB st with
    | false =>
      have e : fldE 1 (fun _ => st) = 3 := by simp [fldE, hgtE, allB, List.range_succ, hf, hgt]
      refine .inl ⟨.inr e, ?_⟩
      rw [e]
      refine hw ?_
      unfold hgtB at hgt
      rw [ha] at hgt
      rw [l0, g1]
      simp at hgt ⊢
      omega
    | true =>
      have e : fldE 1 (fun _ => st) = 0 := fldE_one_ok hgt
      cases c1 : (FloatKind.f32.format.order st lo == some .lt) with
      | true => exact .inr (.inl ⟨e, hw (.inl c1), rfl⟩)
      | false =>
        cases c2 : (FloatKind.f32.format.order st hi == some .gt) with
        | true => exact .inr (.inr (.inl ⟨e, hw (.inr c2), rfl, rfl⟩))
        | false => exact .inr (.inr (.inr ⟨e, by unfold wiE; rw [if_neg (by rw [hf]; simp), if_neg (by rw [c1, c2]; simp)], rfl, rfl⟩))

theorem vTop_one : vTop = 1048576 * (one : Int) := by
  obtain ⟨J, hJ⟩ : ∃ J : Nat, J = 1074 := ⟨_, rfl⟩
  unfold vTop
  rw [one_pow hJ, Nat.one_mul, show ((20 : Int) + 1074).toNat = 20 + J by omega, Nat.pow_add, Int.natCast_mul]; rfl
theorem step_cases (st : Nat) : WithinCases st 981467136 1149239296 := by
  obtain ⟨j, hj⟩ : ∃ j : Nat, j = 1064 := ⟨_, rfl⟩
  have hj' : j + 20 = 1084 := by omega
  have e1 : one = 1024 * 2 ^ j := by rw [one_split (a := 10) (j := j) (by omega)]
  have e2 : 2 ^ (j + 20) = 1048576 * 2 ^ j := by rw [Nat.pow_add, Nat.mul_comm]
  have hp := Nat.two_pow_pos j
  exact within_cases (st := st) (vS_lo hj) (vS_hi hj') (by rw [vTop_one, e1]; generalize 2 ^ j = U at *; omega) (by rw [vTop_one, e1, e2]; generalize 2 ^ j = U at *; omega)

theorem flAt_one_of {w : World} {b x : Nat} (h : w.heap[b]? = some (flObj x)) : FlAt w b 0 1 (fun _ => x) := by
  intro i hi
  have : i = 0 := by omega
  subst this
  exact (blkC h).1 0
theorem refHeight_of (x : Nat) (hx : x < 4294967296) (bb : Nat) (w : World) (h : w.heap[bb]? = some (flObj x)) :
    Calls Try.prog 85 #[.slice (some ⟨bb, 0, none⟩) 1 1] w fun e w' => e = .returned (.int .i64 (fldE 1 (fun _ => x))) ∧ w = w' :=
  refHeight_row bb 0 1 1 (fun _ => x) (by omega) w (flAt_one_of h) (fun _ _ => hx)

end Go.Proofs.Ytkcehbnmcdppkaa

/- Contract: the law's writes. -/
namespace Go.Proofs.Ytkcehbnmcdppkaa
open Go.RowKit Fl
set_option linter.unusedVariables false

theorem encT_size (X Y W H : Int) (v : Nat → Nat) (n : Nat) : (encT X Y W H v n).size = 25 + 4 * n := by
  unfold encT; rw [txB_size, List.length_append, byteL_len]; unfold encL; rw [List.length_append, headL_len, fullL_len]; omega

set_option maxHeartbeats 1000000 in
set_option maxRecDepth 100000 in
theorem writes_any (w : World) : Calls Try.prog 15 #[] w fun e w' => e = .returned (.bool true) ∧ Below w.heap.size w w' := by
  have EN := Lib.hid (fun (b : Nat) (W : World) (hb : W.heap[b]? = some (.cells #[.float .f32 1065353216] 22)) => encFull_any 0 0 1 1 1 b 0 1 (fun _ => 1065353216) W (flAt_one_of hb) (fun _ _ => by show 1065353216 < 4294967296; omega) (fun _ _ => by show hgtB 1065353216 = true; kernel_rfl) (by decide) rfl)
  have HS := Lib.hid (encT_size 0 0 (1 : Nat) (1 : Nat) (fun _ => 1065353216) 1)
  generalize encT 0 0 (1 : Nat) (1 : Nat) (fun _ => 1065353216) 1 = s at *
  go_enter Try.func15, Try.ntmps15
  go_wp2_with (go_at_call 69; go_loud (refine (EN.out _ _ (by (first | (rw [heap_alloc_get, if_pos rfl]; done) | ((simp only [heap_alloc_get, heap_size_alloc, if_true]) <;> ((repeat' split) <;> first | rfl | omega))))).mono ?_; rintro e w2 ⟨rfl, hb2⟩; have B2 := Lib.hid (show Below w.heap.size w w2 from ((Below.refl _ _).alloc (Nat.le_refl _) _).trans (hb2.mono (by simp))); clear hb2; have hs := HS.out))
  go_ret
  exact ⟨rfl, B2.out⟩
end Go.Proofs.Ytkcehbnmcdppkaa

/- HalfNumbersMatch, walked. -/
namespace Go.Proofs.Ytkcehbnmcdppkaa
open Go.RowKit Fl
set_option linter.unusedVariables false

theorem bit_selfN (x : Nat) (w : World) : Calls Try.prog 18 #[.float .f32 x, .float .f32 x] w fun e w' => e = .returned (.bool true) ∧ w = w' := by
  have h1 := f32bits
  go_enter Try.func18, Try.ntmps18
  go_wp2
  go_ret
  exact ⟨rfl, rfl⟩

set_option maxHeartbeats 4000000 in
set_option maxRecDepth 100000 in
theorem hnLaw_of (x : Nat) (n : Int) (w : World) (h k : Int) (b : Bool) (y1 : Nat) (e1 : Int) (y2 : Nat) (e2 : Int)
    (hF : ∀ w, Calls Try.prog 9 #[.float .f32 x] w fun e w' => e = .returned (.tuple #[.int .i64 h, .bool b]) ∧ Below w.heap.size w w')
    (hO : ∀ w, Calls Try.prog 10 #[.float .f32 x] w fun e w' => e = .returned (.tuple #[.int .i64 h, .bool b]) ∧ w = w')
    (hW : ∀ w, Calls Try.prog 11 #[.int .i64 n] w fun en w' => en = .returned (.tuple #[.float .f32 y1, .int .i64 e1]) ∧ w = w')
    (hWO : ∀ w, Calls Try.prog 13 #[.int .i64 n] w fun en w' => en = .returned (.tuple #[.float .f32 y1, .int .i64 e1]) ∧ w = w')
    (hL : ∀ w, Calls Try.prog 12 #[.int .i64 n] w fun en w' => en = .returned (.tuple #[.float .f32 y2, .int .i64 e2]) ∧ w = w')
    (hLO : ∀ w, Calls Try.prog 14 #[.int .i64 n] w fun en w' => en = .returned (.tuple #[.float .f32 y2, .int .i64 e2]) ∧ w = w')
    (hS : ∀ w, Calls Try.prog 16 #[.float .f32 x] w fun e w' => e = .returned (.int .i64 k) ∧ Below w.heap.size w w')
    (hSO : ∀ w, Calls Try.prog 17 #[.float .f32 x] w fun e w' => e = .returned (.int .i64 k) ∧ w = w') :
    Calls Try.prog 3 #[.float .f32 x, .int .i64 n] w fun e w' => e = .returned (.bool true) ∧ Below w.heap.size w w' := by
  have HF := Lib.hid hF
  have HO := Lib.hid hO
  have HW := Lib.hid hW
  have HWO := Lib.hid hWO
  have HL := Lib.hid hL
  have HLO := Lib.hid hLO
  have HS := Lib.hid hS
  have HSO := Lib.hid hSO
  have WR := Lib.hid writes_any
  have BS := Lib.hid bit_selfN
  clear hF hO hW hWO hL hLO hS hSO
  cases b
  all_goals
    go_enter Try.func3, Try.ntmps3
    go_wp2_with (first
      | (go_at_call 9; (with_reducible refine (HF.out _).mono ?_); rintro en w1 ⟨rfl, hb1⟩; have HB1 := Lib.hid hb1; clear hb1)
      | (go_at_call 10; (with_reducible refine (HO.out _).mono ?_); rintro en w' ⟨rfl, rfl⟩)
      | (go_at_call 11; (with_reducible refine (HW.out _).mono ?_); rintro en w' ⟨rfl, rfl⟩)
      | (go_at_call 13; (with_reducible refine (HWO.out _).mono ?_); rintro en w' ⟨rfl, rfl⟩)
      | (go_at_call 12; (with_reducible refine (HL.out _).mono ?_); rintro en w' ⟨rfl, rfl⟩)
      | (go_at_call 14; (with_reducible refine (HLO.out _).mono ?_); rintro en w' ⟨rfl, rfl⟩)
      | (go_at_call 15; (with_reducible refine (WR.out _).mono ?_); rintro en w2 ⟨rfl, hb2⟩; have HB2 := Lib.hid (HB1.out.trans (hb2.mono HB1.out.size)); clear hb2)
      | (go_at_call 16; (with_reducible refine (HS.out _).mono ?_); rintro en w3 ⟨rfl, hb3⟩; have HB3 := Lib.hid (HB2.out.trans (hb3.mono HB2.out.size)); clear hb3)
      | (go_at_call 17; (with_reducible refine (HSO.out _).mono ?_); rintro en w' ⟨rfl, rfl⟩)
      | (go_at_call 18; (with_reducible refine Calls.mono (BS.out _ _) ?_); rintro e w' ⟨rfl, rfl⟩))
    go_ret
    exact ⟨rfl, HB3.out⟩

theorem halfNumbersLaw_any (x : Nat) (hx : x < 4294967296) (n : Int) (w : World) :
    Calls Try.prog 3 #[.float .f32 x, .int .i64 n] w fun e w' => e = .returned (.bool true) ∧ Below w.heap.size w w' := by
  obtain ⟨y1, e1, a1, a2⟩ := whole_ex n
  obtain ⟨y2, e2, b1, b2⟩ := long_ex n
  have num : ∀ (s : Bool) (r : Nat), r ≤ 2139095040 → ∀ w, Calls Try.prog 3 #[.float .f32 (sw s r), .int .i64 n] w fun e w' => e = .returned (.bool true) ∧ Below w.heap.size w w' := fun s r hr w => by
    have hlt : sw s r < 4294967296 := by unfold sw; cases s <;> simp <;> omega
    have hself : (FloatKind.f32.format.order (sw s r) (sw s r) == some .eq) = true := by rw [f32f, order_self (sw_sg (s := s) hr)]; rfl
    exact hnLaw_of (sw s r) n w _ _ _ y1 e1 y2 e2 (fun w => (half_full hr w).mono fun _ _ h => ⟨h.1, h.2 ▸ Below.refl _ _⟩) (fun w => halfOf_any hr w) a1 a2 b1 b2 (fun w => (short_any hr w).mono fun _ _ h => ⟨h.1, h.2 ▸ Below.refl _ _⟩) (fun w => shortOf_num hlt hself w)
  by_cases c : 2139095040 < x % 2147483648
  · have hn := read_nan c
    have hself : (FloatKind.f32.format.order x x == some .eq) = false := by rw [order_nan hn]; rfl
    exact hnLaw_of x n w 32256 32704 false y1 e1 y2 e2 (fun w => half_nan hn w) (fun w => halfOf_nan hn w) a1 a2 b1 b2 (fun w => short_nan hn w) (fun w => shortOf_nan hself w)
  · by_cases d : x < 2147483648
    · exact num false x (by omega) w
    · have := num true (x - 2147483648) (by omega) w
      rwa [show sw true (x - 2147483648) = x by unfold sw; simp; omega] at this
end Go.Proofs.Ytkcehbnmcdppkaa

/- A field that came in, opened: four integers, and a slice of singles that is empty or known cell by cell. -/
namespace Go.Proofs.Ytkcehbnmcdppkaa
open Go.ChangeShapes Go.WideShapes Go.ChangeAt Go.RowKit Go.Joins Fl

section
variable {H : Type} {enc : TypeId × Value → H} {w : World} {base : Nat} {spare : Nat → Bool} {held : Bool}

theorem trod_f32 {P : Program} {t : TypeId} {fuel : Nat} {v : Value} {y : DataW H × List MemPlace} (ht : P.underlying t = some (.float .f32)) (h : DataW.trod enc P w base spare held fuel t [v] = some y) : ∃ b, v = .float .f32 b ∧ b < 4294967296 := by
  cases fuel with
  | zero => simp [DataW.trod] at h
  | succ n =>
    unfold DataW.trod at h
    rw [ht] at h
    cases v <;> simp at h
    rename_i k b
    obtain ⟨⟨rfl, hw⟩, _⟩ := h
    exact ⟨b, rfl, by simpa [Lit.wf] using hw⟩

theorem array5 {α : Type} {cs : Array α} (h : cs.size = 5) : ∃ c0 c1 c2 c3 c4, cs = #[c0, c1, c2, c3, c4] := by
  obtain ⟨l⟩ := cs
  match l, h with
  | [c0, c1, c2, c3, c4], _ => exact ⟨c0, c1, c2, c3, c4, rfl⟩

theorem flAt_congr' {w w' : World} {b off n : Nat} {f : Nat → Nat} (h : FlAt w b off n f) (e : w'.heap[b]? = w.heap[b]?) : FlAt w' b off n f := fun i hi => by
  rw [← h i hi]; exact World.cell?_of_block (w := w) (a := ⟨b, off + i, none⟩) e

/-- What a slice of singles is: empty, or known cell by cell. -/
def SlF (w : World) (s : Value) : Prop :=
  (∃ a cap, s = .slice a 0 cap) ∨ ∃ b off len cap x, s = .slice (some ⟨b, off, none⟩) len cap ∧ 0 < len ∧ len ≤ 9223372036854775807 ∧ FlAt w b off len x ∧ wf32 len x

theorem open_singles {t e : TypeId} {fuel : Nat} {cs : List Value} {y : DataW H × List MemPlace} (ht : Try.prog.underlying t = some (.slice e)) (he : Try.prog.underlying e = some (.float .f32)) (hc : Try.prog.cellsOf e = 1)
    (h : DataW.trod enc Try.prog w base spare held fuel t cs = some y) : ∃ s, cs = [s] ∧ SlF w s := by
  rcases Go.Deep.open_slice1 ht hc h with ⟨rfl, _⟩ | ⟨a, len, cap, m, n, V, D, Pl, rfl, hb, hl, hm, hmm, _, hx⟩
  · exact ⟨_, rfl, .inl ⟨none, 0, rfl⟩⟩
  · refine ⟨_, rfl, ?_⟩
    rcases Nat.eq_zero_or_pos len with z | z
    · subst z; exact .inl ⟨_, _, rfl⟩
    · have hlm : len ≤ m := by rw [hmm]; split <;> omega
      have h0 := (hx 0 (by omega)).1
      obtain ⟨b, off, spot⟩ := a
      have hspot : spot = none := by simpa [Addr.add] using World.cell?_spot h0
      subst hspot
      have hv : ∀ i, i < len → ∃ x, V i = .float .f32 x ∧ x < 4294967296 := fun i hi => trod_f32 he (hx i (by omega)).2
      refine .inr ⟨b, off, len, cap, fun i => match V i with | .float _ x => x | _ => 0, rfl, z, ?_, fun i hi => ?_, fun i hi => ?_⟩
      · exact Nat.le_trans hl (Nat.le_trans hm (by decide))
      · have h1 := (hx i (by omega)).1
        obtain ⟨x, e1, _⟩ := hv i hi
        rw [← Go.WideShapes.add_plain, h1]
        simp only [e1]
      · obtain ⟨x, e1, e2⟩ := hv i hi
        simp only [e1]; exact e2

theorem cellsF : Try.prog.cellsOf 41 = 5 := by kernel_rfl
theorem cellsR : Try.prog.cellsOf 38 = 4 := by kernel_rfl
theorem cellsS : Try.prog.cellsOf 39 = 1 := by kernel_rfl
theorem cells1 : Try.prog.cellsOf 22 = 1 := by kernel_rfl
theorem cellsI : Try.prog.cellsOf 3 = 1 := by kernel_rfl

set_option maxRecDepth 100000 in
theorem open_field {r : Reach} {b0 : Nat} {v : Value} {d : DataW H} {p : List MemPlace} (hv : Value.okWide Try.prog w r b0 41 v) (h : DataW.Trod enc Try.prog w base spare held 41 v d p) :
    ∃ X Y W' H' : Int, ∃ s, v = fldV X Y W' H' s ∧ SlF w s := by
  obtain ⟨cs, rfl, hsz⟩ := okWide_struct Try.underlying41 hv
  obtain ⟨c0, c1, c2, c3, c4, rfl⟩ := array5 (hsz.trans cellsF)
  obtain ⟨fuel, hf⟩ := h
  obtain ⟨y0, y1, n, _, _, h0, h1⟩ := trod_struct2 Try.underlying41 hf
  rw [cellsR] at h0
  rw [cellsS] at h1
  obtain ⟨s, e4, hs⟩ := open_singles Try.underlying39 Try.underlying22 cells1 h1
  obtain ⟨z0, z1, z2, z3, n2, _, _, g0, g1, g2, g3⟩ := trod_struct4 Try.underlying38 h0
  rw [cellsI] at g0 g1 g2 g3
  obtain ⟨x0, e0, _, _⟩ := DataW.trod_int Try.underlying3 g0
  obtain ⟨x1, e1, _, _⟩ := DataW.trod_int Try.underlying3 g1
  obtain ⟨x2, e2, _, _⟩ := DataW.trod_int Try.underlying3 g2
  obtain ⟨x3, e3, _, _⟩ := DataW.trod_int Try.underlying3 g3
  simp [Value.cells] at e0 e1 e2 e3 e4
  subst e0 e1 e2 e3 e4
  exact ⟨x0, x1, x2, x3, _, rfl, hs⟩
end

theorem SlF.stay {w w' : World} {s : Value} (h : SlF w s) (hb : Below w.heap.size w w') : SlF w' s := by
  rcases h with h | ⟨b, off, len, cap, x, rfl, h1, h2, h3, h4⟩
  · exact .inl h
  · exact .inr ⟨b, off, len, cap, x, rfl, h1, h2, flAt_congr' h3 (hb.block _ (World.block_lt_of_cell? w _ (h3 0 h1))), h4⟩

/-- fit, of whatever slice. -/
theorem fit_any {X Y W H : Int} {s : Value} {w : World} (h : SlF w s) : Calls Try.prog 36 #[fldV X Y W H s] w (FitPost w) := by
  rcases h with ⟨a, cap, rfl⟩ | ⟨b, off, len, cap, x, rfl, h1, h2, h3, h4⟩
  · exact fit_none X Y W H a cap w
  · exact fit_some X Y W H b off len cap x w h1 h2 h3 h4

theorem laidOut : laidOutB Try.prog = true := by kernel_rfl
end Go.Proofs.Ytkcehbnmcdppkaa

/- min and max of singles that have values. -/
namespace Go.Proofs.Ytkcehbnmcdppkaa
open Go.RowKit Fl
set_option linter.unusedVariables false

theorem max2_val {x y : Nat} {a b : Int} (hx : vS x = some a) (hy : vS y = some b) : ∃ r, Builtin.max2 (.float .f32 x) (.float .f32 y) = pure (.float .f32 r) ∧ vS r = some (if a < b then b else a) ∧ (b < a → r = x) ∧ (a < b → r = y) ∧ (r = x ∨ r = y) := by
  have o : FloatKind.f32.format.order x y = some (compare a b) := order_val hx hy
  unfold Builtin.max2
  dsimp only
  rw [o]
  rcases h : compare a b with _ | _ | _
  · have : a < b := Int.compare_eq_lt.1 h
    exact ⟨y, rfl, by rw [if_pos this]; exact hy, fun q => by omega, fun _ => rfl, .inr rfl⟩
  · have : a = b := Int.compare_eq_eq.1 h
    subst this
    dsimp only
    split
    · exact ⟨y, rfl, by rw [if_neg (by omega)]; exact hy, fun q => by omega, fun q => by omega, .inr rfl⟩
    · exact ⟨x, rfl, by rw [if_neg (by omega)]; exact hx, fun q => by omega, fun q => by omega, .inl rfl⟩
  · have : b < a := Int.compare_eq_gt.1 h
    exact ⟨x, rfl, by rw [if_neg (by omega)]; exact hx, fun _ => rfl, fun q => by omega, .inl rfl⟩
theorem min2_val {x y : Nat} {a b : Int} (hx : vS x = some a) (hy : vS y = some b) : ∃ r, Builtin.min2 (.float .f32 x) (.float .f32 y) = pure (.float .f32 r) ∧ vS r = some (if b < a then b else a) := by
  have o : FloatKind.f32.format.order x y = some (compare a b) := order_val hx hy
  unfold Builtin.min2
  dsimp only
  rw [o]
  rcases h : compare a b with _ | _ | _
  · have : a < b := Int.compare_eq_lt.1 h
    exact ⟨x, rfl, by rw [if_neg (by omega)]; exact hx⟩
  · have : a = b := Int.compare_eq_eq.1 h
    subst this
    dsimp only
    split
    · exact ⟨x, rfl, by rw [if_neg (by omega)]; exact hx⟩
    · exact ⟨y, rfl, by rw [if_neg (by omega)]; exact hy⟩
  · have : b < a := Int.compare_eq_gt.1 h
    exact ⟨y, rfl, by rw [if_pos this]; exact hy⟩

/-- The builtin max of two. -/
theorem run_max_two (ts : Array TypeId) (t : TypeId) {x y : Nat} {a b : Int} (hx : vS x = some a) (hy : vS y = some b) : ∃ r, (∀ w : World, (Builtin.max_ ts t #[.float .f32 x, .float .f32 y]).run Try.prog w = .ok (.float .f32 r) w) ∧ vS r = some (if a < b then b else a) ∧ (b < a → r = x) ∧ (a < b → r = y) ∧ (r = x ∨ r = y) := by
  obtain ⟨r, m, v⟩ := max2_val hx hy
  refine ⟨r, fun w => ?_, v⟩
  show (([Value.float .f32 y]).foldlM Builtin.max2 (Value.float .f32 x)).run Try.prog w = _
  simp only [List.foldlM]
  rw [m]
  rfl

theorem min_fold : ∀ (l : List (Nat × Int)) (x : Nat) (a : Int), vS x = some a → (∀ q ∈ l, vS q.1 = some q.2) → ∃ r m, (∀ w : World, ((l.map fun q => Value.float .f32 q.1).foldlM Builtin.min2 (Value.float .f32 x)).run Try.prog w = .ok (.float .f32 r) w) ∧ vS r = some m ∧ (m < 0 ↔ a < 0 ∨ ∃ q ∈ l, q.2 < 0)
  | [], x, a, hx, _ => ⟨x, a, fun w => rfl, hx, by simp⟩
  | q :: l, x, a, hx, hl => by
    obtain ⟨r, m, v⟩ := min2_val hx (hl q (by simp))
    obtain ⟨r', m', h1, h2, h3⟩ := min_fold l r _ v (fun p hp => hl p (by simp [hp]))
    refine ⟨r', m', fun w => ?_, h2, ?_⟩
    · simp only [List.map_cons, List.foldlM]
      rw [m]
      exact h1 w
    · rw [h3]
      simp only [List.mem_cons, exists_eq_or_imp]
      split <;> constructor
      · rintro (h | h)
        · exact .inr (.inl h)
        · exact .inr (.inr h)
      · rintro (h | h | h)
        · exact .inl (by omega)
        · exact .inl h
        · exact .inr h
      · rintro (h | h)
        · exact .inl h
        · exact .inr (.inr h)
      · rintro (h | h | h)
        · exact .inl h
        · exact .inl (by omega)
        · exact .inr h

/-- The builtin min of seven. -/
theorem run_min_seven (ts : Array TypeId) (t : TypeId) {x1 x2 x3 x4 x5 x6 x7 : Nat} {a1 a2 a3 a4 a5 a6 a7 : Int} (h1 : vS x1 = some a1) (h2 : vS x2 = some a2) (h3 : vS x3 = some a3) (h4 : vS x4 = some a4) (h5 : vS x5 = some a5) (h6 : vS x6 = some a6) (h7 : vS x7 = some a7) :
    ∃ r m, (∀ w : World, (Builtin.min_ ts t #[.float .f32 x1, .float .f32 x2, .float .f32 x3, .float .f32 x4, .float .f32 x5, .float .f32 x6, .float .f32 x7]).run Try.prog w = .ok (.float .f32 r) w) ∧ vS r = some m ∧ (m < 0 ↔ a1 < 0 ∨ a2 < 0 ∨ a3 < 0 ∨ a4 < 0 ∨ a5 < 0 ∨ a6 < 0 ∨ a7 < 0) := by
  obtain ⟨r, m, e, v, i⟩ := min_fold [(x2, a2), (x3, a3), (x4, a4), (x5, a5), (x6, a6), (x7, a7)] x1 a1 h1 (by
    intro q hq
    simp only [List.mem_cons, List.not_mem_nil, or_false] at hq
    rcases hq with rfl | rfl | rfl | rfl | rfl | rfl <;> assumption)
  exact ⟨r, m, fun w => e w, v, by rw [i]; simp⟩
end Go.Proofs.Ytkcehbnmcdppkaa

/- A kind of plants: its cells, its error; CheckKind, on both sides. -/
namespace Go.Proofs.Ytkcehbnmcdppkaa
open Go.RowKit Fl
set_option linter.unusedVariables false

/-- The fields of a kind. -/
structure Knd where
  name : ByteArray
  lo : Nat
  hi : Nat
  so : Nat
  st : Nat
  dr : Nat
  da : Nat
  tp : Nat
  pa : Nat
  sh : Nat
  ba : Nat
  sp : Int
  th : Int
def kndZ : Knd := ⟨ByteArray.empty, 0, 0, 0, 0, 0, 0, 0, 0, 0, 0, 0, 0⟩
abbrev Knd.cells (k : Knd) : Array Value := #[.string k.name, .float .f32 k.lo, .float .f32 k.hi, .float .f32 k.so, .float .f32 k.st, .float .f32 k.dr, .float .f32 k.da, .float .f32 k.tp, .float .f32 k.pa, .float .f32 k.sh, .float .f32 k.ba, .int .i64 k.sp, .int .i64 k.th]
abbrev kndV (k : Knd) : Value := .agg k.cells
/-- Its singles, in order. -/
def Knd.f (k : Knd) (i : Nat) : Nat := match i with | 0 => k.lo | 1 => k.hi | 2 => k.so | 3 => k.st | 4 => k.dr | 5 => k.da | 6 => k.tp | 7 => k.pa | 8 => k.sh | _ => k.ba
abbrev tenO (k : Knd) : Obj := .cells #[.float .f32 k.lo, .float .f32 k.hi, .float .f32 k.so, .float .f32 k.st, .float .f32 k.dr, .float .f32 k.da, .float .f32 k.tp, .float .f32 k.pa, .float .f32 k.sh, .float .f32 k.ba] 22
theorem flAt_ten {w : World} {p : Nat} {k : Knd} (h : w.heap[p]? = some (tenO k)) : FlAt w p 0 10 k.f := by
  intro i hi
  rw [Nat.zero_add, (blkC h).1 i]
  have : i = 0 ∨ i = 1 ∨ i = 2 ∨ i = 3 ∨ i = 4 ∨ i = 5 ∨ i = 6 ∨ i = 7 ∨ i = 8 ∨ i = 9 := by omega
  rcases this with rfl | rfl | rfl | rfl | rfl | rfl | rfl | rfl | rfl | rfl <;> rfl

/-- A byte of a text, as a number. -/
def byt (s : ByteArray) (i : Nat) : Int := ((s[i]?.getD 0).toNat : Int)
/-- Whether all bytes of a text are small letters. -/
def ltrB (s : ByteArray) : Bool := allB s.size fun i => decide (97 ≤ byt s i ∧ byt s i ≤ 122)
/-- Whether a text is a name of a kind. -/
def namB (s : ByteArray) : Bool := ltrB s && withinB s.size 1 20

/-- Whether a kind's numbers are in order. -/
def Knd.rng (k : Knd) : Bool := !(ltB k.so 0 || ltB k.st 0 || ltB k.dr 0 || ltB k.tp 0 || ltB k.pa 0 || ltB k.sh 0 || FloatKind.f32.format.order k.sh 1065353216 == some .gt || ltB k.ba 0 || FloatKind.f32.format.order k.ba 1065353216 == some .gt)
/-- A kind's error. -/
def Knd.err (k : Knd) : Int :=
  if namB k.name = false then 6 else if fldE 10 k.f ≠ 0 then fldE 10 k.f else if ltB k.hi k.lo = true ∨ ltB k.da k.dr = true then 8 else if k.rng = false then 3
  else if withinB k.sp 0 32 = false ∨ withinB k.th 0 32 = false then 3 else 0

theorem byt_at {s : ByteArray} {i : Nat} (h : i < s.size) : ((s[i]'h).toNat : Int) = byt s i := by
  unfold byt
  rw [ByteArray.getElem?_lt' s i h]; rfl

end Go.Proofs.Ytkcehbnmcdppkaa

/- CheckKind of the program, KindError of the reference: a kind's error. -/
namespace Go.Proofs.Ytkcehbnmcdppkaa
open Go.RowKit Fl
set_option linter.unusedVariables false

theorem fld_ten {k : Knd} (h : fldE 10 k.f = 0) : hgtB k.lo = true ∧ hgtB k.hi = true ∧ hgtB k.so = true ∧ hgtB k.st = true ∧ hgtB k.dr = true ∧ hgtB k.da = true ∧ hgtB k.tp = true ∧ hgtB k.pa = true ∧ hgtB k.sh = true ∧ hgtB k.ba = true := by
  have := allB_iff.1 (fldE_zero.1 h)
  exact ⟨this 0 (by omega), this 1 (by omega), this 2 (by omega), this 3 (by omega), this 4 (by omega), this 5 (by omega), this 6 (by omega), this 7 (by omega), this 8 (by omega), this 9 (by omega)⟩

theorem err_name {k : Knd} (h : namB k.name = false) : k.err = 6 := by unfold Knd.err; rw [if_pos h]
theorem err_fld {k : Knd} (n : namB k.name = true) (h : fldE 10 k.f ≠ 0) : k.err = fldE 10 k.f := by unfold Knd.err; rw [if_neg (by simp [n]), if_pos h]
theorem err_ord {k : Knd} (n : namB k.name = true) (h : fldE 10 k.f = 0) (o : ltB k.hi k.lo = true ∨ ltB k.da k.dr = true) : k.err = 8 := by unfold Knd.err; rw [if_neg (by simp [n]), if_neg (by simp [h]), if_pos o]
theorem err_rest {k : Knd} (n : namB k.name = true) (h : fldE 10 k.f = 0) (o1 : ltB k.hi k.lo = false) (o2 : ltB k.da k.dr = false) : k.err = if k.rng = false then 3 else if withinB k.sp 0 32 = false ∨ withinB k.th 0 32 = false then 3 else 0 := by
  unfold Knd.err; rw [if_neg (by simp [n]), if_neg (by simp [h]), if_neg (by simp [o1, o2])]

end Go.Proofs.Ytkcehbnmcdppkaa

/- A list of kinds: named, CheckKinds of the program. -/
namespace Go.Proofs.Ytkcehbnmcdppkaa
open Go.RowKit Fl
set_option linter.unusedVariables false

/-- The kinds lie in a block, one after the other. -/
def KndsAt (w : World) (b off n : Nat) (K : Nat → Knd) : Prop := ∀ i, i < n → ∀ j, j < 13 → w.cell? ⟨b, off + i * 13 + j, none⟩ = (K i).cells[j]?
/-- .. or there is none. -/
def KndL (w : World) (a : Option Addr) (n : Nat) (K : Nat → Knd) : Prop := n = 0 ∨ ∃ b off, a = some ⟨b, off, none⟩ ∧ KndsAt w b off n K
theorem cells_get (k : Knd) (j : Nat) (hj : j < 13) : ∃ v, k.cells[j]? = some v := by
  have : j < k.cells.size := hj
  exact ⟨k.cells[j], Array.getElem?_eq_getElem this⟩
theorem KndsAt.stay {w w' : World} {b off n : Nat} {K : Nat → Knd} (L : KndsAt w b off n K) (hb : Below w.heap.size w w') : KndsAt w' b off n K := fun i hi j hj => by
  obtain ⟨v, hv⟩ := cells_get (K i) j hj
  have h := L i hi j hj
  rw [hv] at h
  have hlt := World.block_lt_of_cell? w _ h
  rw [hv, ← h]
  exact Below.cell hb hlt
theorem KndL.stay {w w' : World} {a : Option Addr} {n : Nat} {K : Nat → Knd} (L : KndL w a n K) (hb : Below w.heap.size w w') : KndL w' a n K :=
  L.imp_right fun ⟨b, off, e, h⟩ => ⟨b, off, e, h.stay hb⟩
structure KndAt (w : World) (b o : Nat) (k : Knd) : Prop where
  c0 : w.cell? ⟨b, o, none⟩ = some (.string k.name)
  c1 : w.cell? ⟨b, o + 1, none⟩ = some (.float .f32 k.lo)
  c2 : w.cell? ⟨b, o + 2, none⟩ = some (.float .f32 k.hi)
  c3 : w.cell? ⟨b, o + 3, none⟩ = some (.float .f32 k.so)
  c4 : w.cell? ⟨b, o + 4, none⟩ = some (.float .f32 k.st)
  c5 : w.cell? ⟨b, o + 5, none⟩ = some (.float .f32 k.dr)
  c6 : w.cell? ⟨b, o + 6, none⟩ = some (.float .f32 k.da)
  c7 : w.cell? ⟨b, o + 7, none⟩ = some (.float .f32 k.tp)
  c8 : w.cell? ⟨b, o + 8, none⟩ = some (.float .f32 k.pa)
  c9 : w.cell? ⟨b, o + 9, none⟩ = some (.float .f32 k.sh)
  c10 : w.cell? ⟨b, o + 10, none⟩ = some (.float .f32 k.ba)
  c11 : w.cell? ⟨b, o + 11, none⟩ = some (.int .i64 k.sp)
  c12 : w.cell? ⟨b, o + 12, none⟩ = some (.int .i64 k.th)
theorem KndsAt.at {w : World} {b off n : Nat} {K : Nat → Knd} (L : KndsAt w b off n K) {i : Nat} (hi : i < n) : KndAt w b (off + i * 13) (K i) :=
  ⟨L i hi 0 (by omega), L i hi 1 (by omega), L i hi 2 (by omega), L i hi 3 (by omega), L i hi 4 (by omega), L i hi 5 (by omega), L i hi 6 (by omega), L i hi 7 (by omega), L i hi 8 (by omega), L i hi 9 (by omega), L i hi 10 (by omega), L i hi 11 (by omega), L i hi 12 (by omega)⟩

/-- Whether two texts are the same. -/
def eqN (a b : ByteArray) : Bool := a.toList == b.toList
/-- The number of the first kind of that name, or -1. -/
def NamAt (n : Nat) (K : Nat → Knd) (s : ByteArray) (r : Int) : Prop := (r = -1 ∧ ∀ i, i < n → eqN (K i).name s = false) ∨ ∃ i : Nat, r = i ∧ i < n ∧ eqN (K i).name s = true ∧ ∀ j, j < i → eqN (K j).name s = false

end Go.Proofs.Ytkcehbnmcdppkaa

/- Kinds that came in, opened: one, and a list. -/
namespace Go.Proofs.Ytkcehbnmcdppkaa
open Go.ChangeShapes Go.WideShapes Go.ChangeAt Go.RowKit Go.Joins Go.Deep Fl

section
variable {H : Type} {enc : TypeId × Value → H} {w : World} {base : Nat} {spare : Nat → Bool} {held : Bool}

theorem cellsStr : Try.prog.cellsOf 9 = 1 := by kernel_rfl
theorem trod_fieldAt {P : Program} {t : TypeId} {fs : Array Go.Field} {fuel : Nat} {cs : List Value} {x : DataW H × List MemPlace} (ht : P.underlying t = some (.struct fs)) (h : DataW.trod enc P w base spare held fuel t cs = some x) :
    ∃ n, ∀ (i : Nat) (ty : TypeId) (off : Nat), (fs[i]?).map (fun (f : Go.Field) => (f.type, f.offset)) = some (ty, off) → ∃ y, DataW.trod enc P w base spare held n ty ((cs.drop off).take (P.cellsOf ty)) = some y := by
  obtain ⟨xs, n, _, rfl, _, hlen, hf⟩ := DataW.trod_struct ht h
  refine ⟨n, fun i ty off e => ?_⟩
  cases hfi : fs[i]? with
  | none => rw [hfi] at e; cases e
  | some f =>
    rw [hfi] at e
    simp only [Option.map_some, Option.some.injEq, Prod.mk.injEq] at e
    obtain ⟨rfl, rfl⟩ := e
    have hi : i < fs.size := by rw [Array.getElem?_eq_some_iff] at hfi; exact hfi.1
    have hx : i < xs.length := by omega
    exact ⟨xs[i], by rw [hf i f hfi, List.getElem?_eq_getElem hx]⟩
theorem trod_f32at {fuel i : Nat} {cs : List Value} {v : Value} {y : DataW H × List MemPlace} (h : DataW.trod enc Try.prog w base spare held fuel 22 ((cs.drop i).take 1) = some y) (hv : cs[i]? = some v) : ∃ s, v = .float .f32 s ∧ s < 4294967296 := by
  have e : (cs.drop i).take 1 = [v] := by
    have hi : i < cs.length := by rw [List.getElem?_eq_some_iff] at hv; exact hv.1
    rw [List.drop_eq_getElem_cons hi]
    rw [List.getElem?_eq_getElem hi] at hv
    simp only [List.take_succ_cons, List.take_zero, Option.some.inj hv]
  rw [e] at h
  exact trod_f32 Try.underlying22 h
theorem take_at {α : Type} {cs : List α} {i : Nat} {v : α} (hv : cs[i]? = some v) : (cs.drop i).take 1 = [v] := by
  have hi : i < cs.length := by rw [List.getElem?_eq_some_iff] at hv; exact hv.1
  rw [List.drop_eq_getElem_cons hi]
  rw [List.getElem?_eq_getElem hi] at hv
  simp only [List.take_succ_cons, List.take_zero, Option.some.inj hv]

/-- A right kind: its name is a text of the machine, its singles are words. -/
structure KndWf (k : Knd) : Prop where
  name : k.name.size ≤ 9223372036854775807
  f : wf32 10 k.f

end
end Go.Proofs.Ytkcehbnmcdppkaa
