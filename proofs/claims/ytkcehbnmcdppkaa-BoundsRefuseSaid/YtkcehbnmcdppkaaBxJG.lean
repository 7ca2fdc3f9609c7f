/- BoundsRefuse, for every field, every ray, every number of a box and every single: HitBounds refuses boxes that are not the field's, a changed one among them and too few of them. No condition. -/
import Derived.Test.YtkcehbnmcdppkaaBxJF
import Derived.BigQuiet
import Derived.Deep.RegionHeld3
import Derived.Deep.RegionLaw
import Derived.ProofKit
import Derived.OpenShut
import Derived.Lib.SmallJoins
import Derived.Laws.Cover2
import Derived.Deep.Slices
import Derived.WalkLawsBesides

/- Contract: the reference's BoxesOf: the same list of boxes by value. -/
namespace Go.Proofs.Ytkcehbnmcdppkaa
open Go.RowKit Fl
set_option linter.unusedVariables false

/-- What is known of a box that is being looked at: nothing was seen, or the least and the greatest value of what was seen. -/
def StB (v : Nat → Nat) (W F cw r c : Nat) (first : Bool) (lo hi : Nat) : Prop :=
  (first = true ∧ r = 0 ∧ c = 0) ∨ (first = false ∧ LoIn v (SeenI W F cw r c) lo ∧ HiIn v (SeenI W F cw r c) hi)
theorem StB.one {v : Nat → Nat} {W F cw : Nat} (hc : 0 < cw) (h : hgtB (v F) = true) : StB v W F cw 0 1 false (v F) (v F) := by
  have e : ∀ i, i = F ↔ SeenI W F cw 0 1 i := fun i => by
    constructor
    · rintro rfl; exact ⟨0, 0, by omega, hc, .inr ⟨rfl, by omega⟩⟩
    · rintro ⟨j, c, e, h1, h2⟩
      obtain ⟨rfl, rfl⟩ : j = 0 ∧ c = 0 := by omega
      omega
  exact .inr ⟨rfl, (LoIn.one h).congr e, (HiIn.one h).congr e⟩
theorem StB.step {v : Nat → Nat} {W F cw r c lo hi k : Nat} (hc : c < cw) (hk : k = F + r * W + c) (h1 : LoIn v (SeenI W F cw r c) lo) (h2 : HiIn v (SeenI W F cw r c) hi) (h : hgtB (v k) = true) : StB v W F cw r (c + 1) false (lesW lo (v k)) (grtW hi (v k)) := by
  refine .inr ⟨rfl, (h1.step h).congr fun i => ?_, (h2.step h).congr fun i => ?_⟩ <;> rw [hk] <;> exact (seen_next hc i).symm
theorem StB.row {v : Nat → Nat} {W F cw r lo hi : Nat} {first : Bool} (hc : 0 < cw) (h : StB v W F cw r cw first lo hi) : StB v W F cw (r + 1) 0 first lo hi := by
  rcases h with ⟨_, _, h⟩ | ⟨h, h1, h2⟩
  · omega
  · exact .inr ⟨h, h1.congr fun i => (seen_row i).symm, h2.congr fun i => (seen_row i).symm⟩

/-- What BoxesOf answers: as boundsOf; the list may be written. -/
def BdsF (w : World) (v : Nat → Nat) (W H : Nat) (e : Ending) (w' : World) : Prop :=
  ∃ g cap l T, e = .returned (.slice (some ⟨g, 0, none⟩) (ofN W H (l + 1)) cap) ∧ w.heap.size ≤ g ∧ l ≤ 9 ∧ lvN W H l = 1 ∧ (∀ l', l' < l → lvN W H l' ≠ 1) ∧ BxRow w' g (ofN W H (l + 1)) T ∧ BxsTo v W H (l + 1) 0 T ∧ Below w.heap.size w w' ∧ (∀ o, w'.frozen? ⟨g, o, none⟩ = false) ∧ ofN W H (l + 1) ≤ cap
theorem BsAt.frozen {w0 wr : World} {X Y W H : Int} {sl : Value} {base g cap k : Nat} {T : Nat → BxR} (h : BsAt w0 X Y W H sl base T k (.slice (some ⟨g, 0, none⟩) k cap) wr) (hk : 0 < k) : (∀ o, wr.frozen? ⟨g, o, none⟩ = false) ∧ k ≤ cap := by
  rcases h.own.2 with ⟨h0, _⟩ | ⟨g', cap', cur, hv, hg, hh, h1, h2, h3, h4⟩
  · cases h0
  · cases hv
    exact ⟨(blkC hh).2.1, h1⟩

set_option maxRecDepth 100000 in
set_option maxHeartbeats 4000000 in
theorem boxesOf_any (X Y : Int) (W H b off cap n : Nat) (v : Nat → Nat) (w : World) (h0 : checkR X Y W H = 0) (hn : n = W * H) (hr : FlAt w b off n v) (hh : allB n (fun i => hgtB (v i)) = true) :
    Calls Try.prog 46 #[fldV X Y W H (.slice (some ⟨b, off, none⟩) n cap)] w (BdsF w v W H) := by
  obtain ⟨b1, b2, b3, b4, b5, b6, b7, b8, b9⟩ := checkR_zero h0
  have W1 : 1 ≤ W := by omega
  have H1 : 1 ≤ H := by omega
  have hn1 : 1 ≤ n := by rw [hn]; exact Nat.mul_pos W1 H1
  have hn2 : n ≤ 65536 := by
    have : ((W : Int) * (H : Int)) = (n : Int) := by rw [hn]; simp
    omega
  have zb : b < w.heap.size := World.block_lt_of_cell? w _ (hr 0 hn1)
  have HWH := Lib.hid (show W * H ≤ 65536 from by rw [← hn]; exact hn2)
  have HR := Lib.hid hr
  have HGT := Lib.hid hh
  have HN := Lib.hid hn
  have hinfo : (Try.prog.info? 71).map (fun i => (i.zero, i.size, i.bytes)) = some (some (.agg #[.int .i64 0, .int .i64 0, .int .i64 0, .float .f32 0, .float .f32 0]), 5, 32) := by kernel_rfl
  obtain ⟨ti, hi, hz0, hz1, hz2⟩ := info_parts hinfo
  have HI := Lib.hid hi
  have RS := fun (w : World) (a : Addr) (m : Mode) k b => run_store_float (P := Try.prog) (w := w) (a := a) (m := m) k b
  clear h0 hn hr hh hinfo hi b5 b6 b7 b8 b9
  go_enter Try.func46, Try.ntmps46
  go_wp2_with fail
  have ST := Lib.hid (show BsAt w X Y W H (.slice (some ⟨b, off, none⟩) n cap) (w.heap.size + 1) (fun _ => ⟨0, 0, 0, 0, 0⟩) 0 (.slice none 0 0) (w.alloc (fldO X Y W H (.slice (some ⟨b, off, none⟩) n cap))) from by
    refine ⟨⟨by simp [bxsL], .inl ⟨rfl, rfl⟩⟩, ?_, ?_, by simp⟩
    · (first | (rw [heap_alloc_get, if_pos rfl]; done) | ((simp only [heap_alloc_get, heap_size_alloc, if_true]) <;> ((repeat' split) <;> first | rfl | omega)))
    · exact (by repeat (first | exact Below.refl _ _ | refine Below.alloc ?_ (by first | omega | (simp; done) | (simp; omega)) _ | refine Below.setCell ?_ (by first | omega | (simp; done) | (simp; omega)) _ | refine Below.drew ?_)))
  have NI := Lib.hid hn2
  have N1 := Lib.hid hn1
  have HW1 := Lib.hid (And.intro W1 H1)
  have HW2 := Lib.hid (show W ≤ 512 ∧ H ≤ 512 from ⟨by omega, by omega⟩)
  have ZB := Lib.hid zb
  clear zb hn1 hn2 W1 H1 b1 b3
  generalize (w.alloc (Obj.cells #[.int .i64 X, .int .i64 Y, .int .i64 W, .int .i64 H, .slice (some ⟨b, off, none⟩) n cap] 41)) = w3 at *
  go_loopw [3, 4] (fun s3 s4 wr => ∃ (k : Nat) (ov : Value) (T : Nat → BxR), k ≤ 9 ∧ s4 = .int .i64 k ∧ ov = s3 ∧ BsAt w X Y W H (.slice (some ⟨b, off, none⟩) n cap) (w.heap.size + 1) T (ofN W H k) ov wr ∧ BxsTo v W H k 0 T ∧ ∀ l', l' < k → lvN W H l' ≠ 1) (fun _ s4 _ => 10 - (intOf s4).toNat)
  case atStart => exact ⟨0, _, _, by omega, rfl, rfl, ST.out, fun l' i' c => by omega, fun l' c => by omega⟩
  case round =>
    clear ST
    obtain ⟨k, ov, T, hk9, rfl, rfl, hm, hto, hnot⟩ := hrel
    have HM := Lib.hid hm
    have HTO := Lib.hid hto
    have HNOT := Lib.hid hnot
    obtain ⟨cF, fF, zF⟩ := blkC hm.reg
    have HK9 := Lib.hid hk9
    obtain ⟨p, e1, e2, p1, p2⟩ := pw (l := k) (by omega)
    have sh3 : wrap64 ((2 : Int) ^ k) = (p : Int) := by rw [e1]; exact IntWalk.wrap64_in _ ⟨by omega, by omega⟩
    have HP := Lib.hid e2
    clear hm hto hnot e1 e2
    go_upto_region 5 with fail
    simp only [sh3]
    have bw1 : 1 ≤ bxN W k := bxN_pos HW1.out.1
    have bw2 : bxN W k ≤ 512 := Nat.le_trans (bxN_le HW1.out.1) HW2.out.1
    have bh2 : bxN H k ≤ 512 := Nat.le_trans (bxN_le HW1.out.2) HW2.out.2
    have bh1 : 1 ≤ bxN H k := bxN_pos HW1.out.2
    have q1 : IntKind.i64.wrap ((W : Int) + p) = (W : Int) + p := IntWalk.i64_in _ (by omega)
    have q2 : IntKind.i64.wrap ((W : Int) + p - 1) = (W : Int) + p - 1 := IntWalk.i64_in _ (by omega)
    have q3 : IntKind.i64.wrap ((H : Int) + p) = (H : Int) + p := IntWalk.i64_in _ (by omega)
    have q4 : IntKind.i64.wrap ((H : Int) + p - 1) = (H : Int) + p - 1 := IntWalk.i64_in _ (by omega)
    have eW : ((W : Int) + p - 1) / (p : Int) = (bxN W k : Int) := by
      unfold bxN
      rw [HP.out, show (W : Int) + p - 1 = ((W + p - 1 : Nat) : Int) from by omega]
      simp
    have eH : ((H : Int) + p - 1) / (p : Int) = (bxN H k : Int) := by
      unfold bxN
      rw [HP.out, show (H : Int) + p - 1 = ((H + p - 1 : Nat) : Int) from by omega]
      simp
    have tW : ((W : Int) + p - 1).tdiv (p : Int) = (bxN W k : Int) := by rw [Int.tdiv_eq_ediv_of_nonneg (by omega)]; exact eW
    have tH : ((H : Int) + p - 1).tdiv (p : Int) = (bxN H k : Int) := by rw [Int.tdiv_eq_ediv_of_nonneg (by omega)]; exact eH
    have p0 : ¬ ((p : Int) = 0) := by omega
    have p0' : ¬ (p = 0) := by omega
    have wI : (1 : Int) ≤ (W : Int) := by have := HW1.out.1; omega
    have hI : (1 : Int) ≤ (H : Int) := by have := HW1.out.2; omega
    go_quiet (fail)
    have HM4 := Lib.hid (HM.out.stay (below_drewN wr nq))
    have hm1 := (lvN_le (l := k) HW1.out.1 HW1.out.2)
    have hWH := HWH.out
    have hof := ofN_le HW1.out.1 HW1.out.2 k
    have hof2 : ofN W H k ≤ 589824 := Nat.le_trans hof (Nat.le_trans (Nat.mul_le_mul hk9 hWH) (by decide))
    have hLV := Lib.hid (show lvN W H k = bxN H k * bxN W k from Nat.mul_comm _ _)
    have HCX := Lib.hid (fun i (hi : i < bxN W k) => show i * p < W from by rw [← HP.out]; exact bxN_in hi)
    have HCY := Lib.hid (fun j (hj : j < bxN H k) => show j * p < H from by rw [← HP.out]; exact bxN_in hj)
    have HIS := Lib.hid (fun i j (hi : i < bxN W k) lo hi' (h1 : LoIn v (SeenI W (j * p * W + i * p) (min W (i * p + p) - i * p) (min H (j * p + p) - j * p) 0) lo) (h2 : HiIn v (SeenI W (j * p * W + i * p) (min W (i * p + p) - i * p) (min H (j * p + p) - j * p) 0) hi') => show BoxIs v W H k (j * bxN W k + i) ⟨k, i, j, lo, hi'⟩ from by
      have m1 : (j * bxN W k + i) % bxN W k = i := by rw [Nat.add_comm, Nat.add_mul_mod_self_right]; exact Nat.mod_eq_of_lt hi
      have m2 : (j * bxN W k + i) / bxN W k = j := by rw [Nat.add_comm, Nat.add_mul_div_right _ _ (by omega), Nat.div_eq_of_lt hi]; omega
      refine ⟨rfl, m1.symm, m2.symm, ?_, ?_⟩
      · unfold bxC; rw [HP.out]; exact h1
      · unfold bxC; rw [HP.out]; exact h2)
    rw [hLV.out] at hm1
    clear q1 q2 q3 q4 eW eH tW tH cF fF zF sh3 hof p0 p0' HM
    generalize wr.drewN nq = w4 at *
    generalize bxN W k = bw at *
    generalize bxN H k = bh at *
    obtain ⟨m, hmm⟩ : ∃ m, bh * bw = m := ⟨_, rfl⟩
    rw [hmm] at hm1 hLV
    have hmle : ∀ j, j ≤ bh → j * bw ≤ m := fun j hj => by rw [← hmm]; exact Nat.mul_le_mul_right _ hj
    have HML := Lib.hid hmle
    have HMM := Lib.hid hmm
    have HM1 := Lib.hid hm1
    have HOF := Lib.hid hof2
    have HB1 := Lib.hid (And.intro bw1 bh1)
    have kI : (k : Int) ≤ 9 := by omega
    have hWH2 := Lib.hid (show m ≤ 65536 from by omega)
    clear hmle hmm hm1 hof2 hWH bw1 bh1 hk9
    go_wp2_with fail
    go_loopw [3, 36] (fun s3 s36 wq => ∃ (j jb : Nat) (ov : Value) (T : Nat → BxR), j ≤ bh ∧ jb = j * bw ∧ s36 = .int .i64 j ∧ ov = s3 ∧ BsAt w X Y W H (.slice (some ⟨b, off, none⟩) n cap) (w.heap.size + 1) T (ofN W H k + jb) ov wq ∧ BxsTo v W H k jb T) (fun _ s36 _ => bh - (intOf s36).toNat)
    case atStart => exact ⟨0, 0, _, _, Nat.zero_le _, by simp, rfl, rfl, HM4.out, HTO.out⟩
    case round =>
      clear HM4 HTO
      obtain ⟨j, jb, ov, T, hj, hjb, rfl, rfl, hm, hto⟩ := hrel
      have HM := Lib.hid hm
      have HTO := Lib.hid hto
      have HJB := Lib.hid hjb
      have HJ := Lib.hid hj
      clear hto hjb
      by_cases hlt : j < bh
      · have HLT := Lib.hid hlt
        have hlt' : (j : Int) < (bh : Int) := by omega
        clear hm
        go_wp2_with fail
        go_loopw [3, 40] (fun s3 s40 wq => ∃ (i : Nat) (ov : Value) (T : Nat → BxR), i ≤ bw ∧ s40 = .int .i64 i ∧ ov = s3 ∧ BsAt w X Y W H (.slice (some ⟨b, off, none⟩) n cap) (w.heap.size + 1) T (ofN W H k + (jb + i)) ov wq ∧ BxsTo v W H k (jb + i) T) (fun _ s40 _ => bw - (intOf s40).toNat)
        case atStart => exact ⟨0, _, _, Nat.zero_le _, rfl, rfl, HM.out, HTO.out⟩
        case round =>
          clear HM HTO
          obtain ⟨i, ov, T, hi, rfl, rfl, hm, hto⟩ := hrel
          have HM := Lib.hid hm
          have HTO := Lib.hid hto
          have HI2 := Lib.hid hi
          clear hto
          by_cases hlti : i < bw
          · have HLTI := Lib.hid hlti
            have hlti' : (i : Int) < (bw : Int) := by omega
            have hx := HCX.out i hlti
            have hy := HCY.out j HLT.out
            have HISI := Lib.hid (HIS.out i j hlti)
            obtain ⟨qx, hqx⟩ : ∃ q, i * p = q := ⟨_, rfl⟩
            obtain ⟨qy, hqy⟩ : ∃ q, j * p = q := ⟨_, rfl⟩
            rw [hqx] at hx HISI
            rw [hqy] at hy HISI
            have sx : IntKind.i64.wrap ((i : Int) * (p : Int)) = (qx : Int) := by
              rw [show (i : Int) * (p : Int) = (qx : Int) from by rw [← hqx]; simp]
              exact IntWalk.i64_in _ (by omega)
            have sy : IntKind.i64.wrap ((j : Int) * (p : Int)) = (qy : Int) := by
              rw [show (j : Int) * (p : Int) = (qy : Int) from by rw [← hqy]; simp]
              exact IntWalk.i64_in _ (by omega)
            have sx1 : IntKind.i64.wrap (((i : Int) + 1) * (p : Int)) = ((qx + p : Nat) : Int) := by
              rw [show ((i : Int) + 1) * (p : Int) = ((qx + p : Nat) : Int) from by rw [← hqx, Int.add_mul]; simp]
              exact IntWalk.i64_in _ (by omega)
            have sy1 : IntKind.i64.wrap (((j : Int) + 1) * (p : Int)) = ((qy + p : Nat) : Int) := by
              rw [show ((j : Int) + 1) * (p : Int) = ((qy + p : Nat) : Int) from by rw [← hqy, Int.add_mul]; simp]
              exact IntWalk.i64_in _ (by omega)
            obtain ⟨W0, hW0⟩ : ∃ W0, W0 = wr := ⟨_, rfl⟩
            subst hW0
            have zq := hm.bel.size
            have HREG := Lib.hid hm.reg
            have HBEL := Lib.hid hm.bel
            have STAY := Lib.hid (fun W' (hb : Below W0.heap.size W0 W') => HM.out.stay hb)
            clear hm
            go_upto_region 13 with fail
            have HQ := Lib.hid (show (W0.alloc (.cells #[.int .i64 k, .int .i64 i, .int .i64 j, .float .f32 0, .float .f32 0] 71)).heap[W0.heap.size]? = some (.cells #[.int .i64 k, .int .i64 i, .int .i64 j, .float .f32 0, .float .f32 0] 71) from by (first | (rw [heap_alloc_get, if_pos rfl]; done) | ((simp only [heap_alloc_get, heap_size_alloc, if_true]) <;> ((repeat' split) <;> first | rfl | omega))))
            have HB5 := Lib.hid (show Below W0.heap.size W0 (W0.alloc (.cells #[.int .i64 k, .int .i64 i, .int .i64 j, .float .f32 0, .float .f32 0] 71)) from (by repeat (first | exact Below.refl _ _ | refine Below.alloc ?_ (by first | omega | (simp; done) | (simp; omega)) _ | refine Below.setCell ?_ (by first | omega | (simp; done) | (simp; omega)) _ | refine Below.drew ?_)))
            generalize W0.alloc (.cells #[.int .i64 k, .int .i64 i, .int .i64 j, .float .f32 0, .float .f32 0] 71) = w5 at *
            obtain ⟨pb, hpb⟩ : ∃ q, q = W0.heap.size := ⟨_, rfl⟩
            rw [← hpb] at HQ HB5 zq ⊢
            have HPB := Lib.hid hpb
            clear hpb
            obtain ⟨cw, hcw⟩ : ∃ q, min W (qx + p) - qx = q := ⟨_, rfl⟩
            obtain ⟨ch, hch⟩ : ∃ q, min H (qy + p) - qy = q := ⟨_, rfl⟩
            rw [hcw, hch] at HISI
            obtain ⟨F, hF⟩ : ∃ q, qy * W + qx = q := ⟨_, rfl⟩
            rw [hF] at HISI
            have hcw1 : 1 ≤ cw := by omega
            have hch1 : 1 ≤ ch := by omega
            have HIX := Lib.hid (show ∀ r c, r < ch → c < cw → (qy + r) * W + (qx + c) = F + r * W + c ∧ F + r * W + c < n from fun r c h1 h2 => by
              have q : (qy + r + 1) * W ≤ H * W := Nat.mul_le_mul_right _ (by omega)
              rw [HN.out, Nat.mul_comm W H, ← hF]
              rw [Nat.add_mul, Nat.add_mul, Nat.one_mul] at q
              rw [Nat.add_mul]
              omega)
            have hWI : (W : Int) ≤ 512 := by have := HW2.out.1; omega
            have hHI : (H : Int) ≤ 512 := by have := HW2.out.2; omega
            have hnI : (n : Int) ≤ 65536 := by have := NI.out; omega
            have mn1 : (if (qy : Int) + (p : Int) < (H : Int) then (qy : Int) + (p : Int) else (H : Int)) = (qy : Int) + (ch : Int) := by split <;> omega
            have mn2 : (if (qx : Int) + (p : Int) < (W : Int) then (qx : Int) + (p : Int) else (W : Int)) = (qx : Int) + (cw : Int) := by split <;> omega
            clear hF hqx hqy
            go_wp2_with fail
            go_loopw [11, 12] (fun s11 s12 wq => ∃ (r lo hi' : Nat) (fb : Bool), r ≤ ch ∧ s12 = .int .i64 ((qy + r : Nat) : Int) ∧ s11 = .bool fb ∧ StB v W F cw r 0 fb lo hi' ∧ wq.heap[pb]? = some (.cells #[.int .i64 k, .int .i64 i, .int .i64 j, .float .f32 lo, .float .f32 hi'] 71) ∧ Below pb W0 wq) (fun _ s12 _ => qy + ch - (intOf s12).toNat)
            case atStart => exact ⟨0, 0, 0, true, Nat.zero_le _, rfl, rfl, .inl ⟨rfl, rfl, rfl⟩, HQ.out, HB5.out⟩
            case round =>
              clear HQ HB5
              obtain ⟨r, lo, hi', fb, hr, rfl, rfl, hst, hq, hb⟩ := hrel
              have HST := Lib.hid hst
              have HQ := Lib.hid hq
              have HB := Lib.hid hb
              have HB0 := Lib.hid (show Below W0.heap.size W0 wr from by have := hb; rwa [HPB.out] at this)
              obtain ⟨cF, fF, zF⟩ := blkC (blkStay HREG.out HB0.out)
              clear hst hq hb
              by_cases hltr : r < ch
              · have HLTR := Lib.hid hltr
                go_upto_region 17 with fail
                clear cF fF zF
                go_wp2_with fail
                go_loopw [11, 13] (fun s11 s13 wq => ∃ (c lo hi' : Nat) (fb : Bool), c ≤ cw ∧ s13 = .int .i64 ((qx + c : Nat) : Int) ∧ s11 = .bool fb ∧ StB v W F cw r c fb lo hi' ∧ wq.heap[pb]? = some (.cells #[.int .i64 k, .int .i64 i, .int .i64 j, .float .f32 lo, .float .f32 hi'] 71) ∧ Below pb W0 wq) (fun _ s13 _ => qx + cw - (intOf s13).toNat)
                case atStart => exact ⟨0, lo, hi', fb, Nat.zero_le _, rfl, rfl, HST.out, HQ.out, HB.out⟩
                case round =>
                  clear HST HQ HB HB0
                  obtain ⟨c, lo, hi', fb, hc, rfl, rfl, hst, hq, hb⟩ := hrel
                  have HST := Lib.hid hst
                  have HQ := Lib.hid hq
                  have HB := Lib.hid hb
                  have hb0 : Below W0.heap.size W0 wr := by have := hb; rwa [HPB.out] at this
                  obtain ⟨cF, fF, zF⟩ := blkC (blkStay HREG.out hb0)
                  obtain ⟨cQ, fQ, zQ⟩ := blkC hq
                  have HBW := Lib.hid (HBEL.out.trans (hb0.mono HBEL.out.size))
                  clear hst hq hb hb0
                  by_cases hltc : c < cw
                  · have HLTC := Lib.hid hltc
                    obtain ⟨e1, e2⟩ := HIX.out r c HLTR.out hltc
                    have hcell := (flAt_congr HR.out (HBW.out.block b ZB.out)) (F + r * W + c) e2
                    have hgt := Lib.hid (allB_iff.1 HGT.out (F + r * W + c) e2)
                    obtain ⟨ix, hix⟩ : ∃ q, F + r * W + c = q := ⟨_, rfl⟩
                    have HIXE := Lib.hid hix
                    obtain ⟨rw', hrw⟩ : ∃ q, (qy + r) * W = q := ⟨_, rfl⟩
                    rw [hix] at e1 e2 hcell hgt
                    rw [hrw] at e1
                    have v1 : IntKind.i64.wrap (((qy : Int) + (r : Int)) * (W : Int)) = (rw' : Int) := by
                      rw [← Int.natCast_add, ← Int.natCast_mul, hrw]; exact IntWalk.i64_in _ (by omega)
                    have v2 : IntKind.i64.wrap ((rw' : Int) + ((qx : Int) + (c : Int))) = (ix : Int) := by
                      rw [← Int.natCast_add, ← Int.natCast_add, e1]; exact IntWalk.i64_in _ (by omega)
                    have hixI : (ix : Int) < (n : Int) := by omega
                    clear hix hrw e1
                    cases fb with
                    | true =>
                      have HZ := Lib.hid (show r = 0 ∧ c = 0 from by
                        rcases HST.out with ⟨_, h1, h2⟩ | ⟨h, _⟩
                        · exact ⟨h1, h2⟩
                        · cases h)
                      have HONE := Lib.hid (show StB v W F cw r (c + 1) false (v ix) (v ix) from by
                        have e : ix = F := by rw [← HIXE.out, HZ.out.1, HZ.out.2]; simp
                        rw [e, HZ.out.1, HZ.out.2]
                        exact StB.one (Nat.lt_of_lt_of_le Nat.zero_lt_one hcw1) (by have := hgt.out; rwa [e] at this))
                      generalize v ix = vx at *
                      have h3 := heap_setCell_same wr pb 3 _ _ (.float .f32 vx) HQ.out
                      have h4 := heap_setCell_same _ pb 4 _ _ (.float .f32 vx) h3
                      have H4 := Lib.hid h4
                      have HB6 := Lib.hid ((HB.out.setCell (p := ⟨pb, 3, none⟩) (Nat.le_refl _) (.float .f32 vx)).setCell (p := ⟨pb, 4, none⟩) (Nat.le_refl _) (.float .f32 vx))
                      clear h3 h4
                      go_wp2_with fail
                      go_roundw
                      case rel => exact ⟨c + 1, vx, vx, false, HLTC.out, by go_num, rfl, HONE.out, H4.out, HB6.out⟩
                      case measure => have := HLTC.out; simp [intOf]; omega
                    | false =>
                      obtain ⟨hlo, hhi⟩ : LoIn v (SeenI W F cw r c) lo ∧ HiIn v (SeenI W F cw r c) hi' := by
                        rcases HST.out with ⟨h, _⟩ | ⟨_, h1, h2⟩
                        · cases h
                        · exact ⟨h1, h2⟩
                      have HSTEP := Lib.hid (StB.step (r := r) HLTC.out HIXE.out.symm hlo hhi hgt.out)
                      clear hlo hhi HST
                      generalize v ix = vx at *
                      cases l1 : (FloatKind.f32.format.order vx lo == some .lt) <;> cases l2 : (FloatKind.f32.format.order vx hi' == some .gt)
                      all_goals
                        have e1 : lesW lo vx = if (FloatKind.f32.format.order vx lo == some .lt) = true then vx else lo := rfl
                        have e2 : grtW hi' vx = if (FloatKind.f32.format.order vx hi' == some .gt) = true then vx else hi' := rfl
                        rw [l1] at e1
                        rw [l2] at e2
                        simp at e1 e2
                        rw [e1, e2] at HSTEP
                        clear e1 e2
                      · go_wp2_with fail
                        go_roundw
                        case rel => exact ⟨c + 1, lo, hi', false, HLTC.out, by go_num, rfl, HSTEP.out, HQ.out, HB.out⟩
                        case measure => have := HLTC.out; simp [intOf]; omega
                      · have H4 := Lib.hid (heap_setCell_same wr pb 4 _ _ (.float .f32 vx) HQ.out)
                        have HB6 := Lib.hid (HB.out.setCell (p := ⟨pb, 4, none⟩) (Nat.le_refl _) (.float .f32 vx))
                        go_wp2_with fail
                        go_roundw
                        case rel => exact ⟨c + 1, lo, vx, false, HLTC.out, by go_num, rfl, HSTEP.out, H4.out, HB6.out⟩
                        case measure => have := HLTC.out; simp [intOf]; omega
                      · have H4 := Lib.hid (heap_setCell_same wr pb 3 _ _ (.float .f32 vx) HQ.out)
                        have HB6 := Lib.hid (HB.out.setCell (p := ⟨pb, 3, none⟩) (Nat.le_refl _) (.float .f32 vx))
                        go_wp2_with fail
                        go_roundw
                        case rel => exact ⟨c + 1, vx, hi', false, HLTC.out, by go_num, rfl, HSTEP.out, H4.out, HB6.out⟩
                        case measure => have := HLTC.out; simp [intOf]; omega
                      · have H4 := Lib.hid (heap_setCell_same _ pb 4 _ _ (.float .f32 vx) (heap_setCell_same wr pb 3 _ _ (.float .f32 vx) HQ.out))
                        have HB6 := Lib.hid ((HB.out.setCell (p := ⟨pb, 3, none⟩) (Nat.le_refl _) (.float .f32 vx)).setCell (p := ⟨pb, 4, none⟩) (Nat.le_refl _) (.float .f32 vx))
                        go_wp2_with fail
                        go_roundw
                        case rel => exact ⟨c + 1, vx, vx, false, HLTC.out, by go_num, rfl, HSTEP.out, H4.out, HB6.out⟩
                        case measure => have := HLTC.out; simp [intOf]; omega
                  · obtain rfl : c = cw := by omega
                    have HROW := Lib.hid (StB.row hcw1 HST.out)
                    have hcI : ¬ ((c : Int) < (c : Int)) := by omega
                    go_wp2_with fail
                    go_roundw
                    case rel => exact ⟨r + 1, lo, hi', fb, HLTR.out, by go_num, rfl, HROW.out, HQ.out, HB.out⟩
                    case measure => have := HLTR.out; simp [intOf]; omega
              · obtain rfl : r = ch := by omega
                obtain ⟨hlo, hhi⟩ : LoIn v (SeenI W F cw r 0) lo ∧ HiIn v (SeenI W F cw r 0) hi' := by
                  rcases HST.out with ⟨_, h, _⟩ | ⟨_, h1, h2⟩
                  · omega
                  · exact ⟨h1, h2⟩
                have HL := Lib.hid (HISI.out lo hi' hlo hhi)
                have HM5 := Lib.hid (STAY.out _ HB0.out)
                obtain ⟨cQ, fQ, zQ⟩ := blkC HQ.out
                clear hlo hhi HST HISI
                have hbnd : jb + i + 1 ≤ 65536 := by
                  have h1 := HML.out (j + 1) HLT.out
                  rw [Nat.add_mul, Nat.one_mul, ← HJB.out] at h1
                  have := hWH2.out
                  have := HLTI.out
                  omega
                have HBND := Lib.hid hbnd
                have hHL : BoxIs v W H k (jb + i) ⟨k, i, j, lo, hi'⟩ := by rw [HJB.out]; exact HL.out
                have TU := Lib.hid (HTO.out.push hHL)
                have hi := HI.out
                clear hbnd hHL
                go_wp2_with (at_builtin; go_loud (refine wpList_append_lies _ rfl _ _ _ rfl (w.heap.size + 1) 71 ti _ 5 32 Try.underlying68 hi hz0 hz1 hz2 rfl (by omega) ov (ofN W H k + (jb + i)) (bxsL T (ofN W H k + (jb + i))) (by rfl) (HM5.out.own.alloc _) ⟨wr.heap.size, 0, none⟩ 1 1 [.int .i64 k, .int .i64 i, .int .i64 j, .float .f32 lo, .float .f32 hi'] (by rfl) (by rfl) (World.news_of_block (cs := #[.int .i64 k, .int .i64 i, .int .i64 j, .float .f32 lo, .float .f32 hi']) (t := 71) (fr := (0, 0)) (by (first | (rw [heap_alloc_get, if_pos rfl]; done) | ((simp only [heap_alloc_get, heap_size_alloc, if_true]) <;> ((repeat' split) <;> first | rfl | omega))))) (by simp [Value.oneCell']) (by omega) (by have := HOF.out; have := HBND.out; unfold maxLen; omega) (by have := HOF.out; have := HBND.out; omega) (by have := HM5.out.size; simp; omega) (wr.heap.size + 1) (by simp) ?_; intro g' cap' w8 hown8 hgrow hat hlt8))
                have PU := Lib.hid (BsAt.push (f := ⟨k, i, j, lo, hi'⟩) HM5.out (by omega) hgrow hown8)
                clear hgrow hown8 hat hlt8 hi
                go_wp2_with fail
                go_roundw
                case rel => exact ⟨i + 1, _, _, HLTI.out, by go_num, rfl, PU.out, TU.out⟩
                case measure => have := HLTI.out; simp [intOf]; omega
          · have hie : i = bw := by omega
            have hiI : ¬ ((i : Int) < (bw : Int)) := by omega
            have HIE := Lib.hid hie
            clear hm hie hlti
            go_wp2_with fail
            go_roundw
            case rel => exact ⟨j + 1, jb + i, ov, T, HLT.out, by rw [HJB.out, HIE.out, Nat.add_mul, Nat.one_mul], by go_num, rfl, HM.out, HTO.out⟩
            case measure => have := HLT.out; simp [intOf]; omega
      · have hje : j = bh := by omega
        have hjI : ¬ ((j : Int) < (bh : Int)) := by omega
        have hjm : jb = m := by rw [HJB.out, hje]; exact HMM.out
        have hpos : 0 < ofN W H k + jb := by have := HM1.out; omega
        have HON := Lib.hid (show ofN W H (k + 1) = ofN W H k + jb from by show ofN W H k + lvN W H k = _; rw [hLV.out, hjm])
        obtain ⟨g, cap', rfl, _⟩ := hm.own.form hpos
        have HROW := Lib.hid (hm.row hpos)
        have HFRO := Lib.hid (hm.frozen hpos)
        have TN := Lib.hid (BxsTo.next (show BxsTo v W H k (lvN W H k) T from by rw [hLV.out, ← hjm]; exact HTO.out))
        have HLVM := Lib.hid (show lvN W H k = m from hLV.out)
        clear hm hjm hpos hje
        by_cases hone : bw = 1 ∧ bh = 1
        · have o1 : (bw : Int) = 1 := by omega
          have o2 : (bh : Int) = 1 := by omega
          have HONE := Lib.hid (show lvN W H k = 1 from by rw [HLVM.out, ← HMM.out, hone.1, hone.2])
          have B9 := HM.out.bel
          clear hone
          go_wp2_with fail
          go_ret
          refine ⟨g, cap', k, T, ?_, by have := HROW.out.2; omega, HK9.out, HONE.out, HNOT.out, by rw [HON.out]; exact HROW.out.1, TN.out, B9, HFRO.out.1, by rw [HON.out]; exact HFRO.out.2⟩
          rw [HON.out]
          rfl
        · have hne : lvN W H k ≠ 1 := by
            rw [HLVM.out, ← HMM.out]
            intro e
            by_cases c1 : bw = 1
            · rw [c1, Nat.mul_one] at e
              exact hone ⟨c1, e⟩
            · have : 1 * 2 ≤ bh * bw := Nat.mul_le_mul HB1.out.2 (by have := HB1.out.1; omega)
              omega
          have HNE := Lib.hid hne
          have hk8 : k + 1 ≤ 9 := by
            rcases Nat.lt_or_ge k 9 with c | c
            · omega
            · exact absurd (lvN_one HW1.out.1 HW1.out.2 HW2.out.1 HW2.out.2 c) hne
          have HK8 := Lib.hid hk8
          have HKS := Lib.hid (show Value.int .i64 ((k : Int) + 1) = .int .i64 ((k + 1 : Nat) : Int) from by simp)
          have HME := Lib.hid (show 10 - (intOf (Value.int .i64 ((k : Int) + 1))).toNat < 10 - (intOf (Value.int .i64 (k : Int))).toNat from measure_succ hk8)
          have hcs : (bw : Int) = 1 ∧ ¬ ((bh : Int) = 1) ∨ ¬ ((bw : Int) = 1) := by omega
          clear hk8 hne hone
          rcases hcs with ⟨c1, c2⟩ | c1
          all_goals
            go_wp2_with fail
            go_roundw
            case rel => exact ⟨k + 1, _, T, HK8.out, HKS.out, rfl, by rw [HON.out]; exact HM.out, TN.out, fun l' hl => by
              by_cases e : l' = k
              · subst e; exact HNE.out
              · exact HNOT.out l' (by omega)⟩
            case measure => exact HME.out
end Go.Proofs.Ytkcehbnmcdppkaa

/- BoundsRefuse, where the field and the ray are right: a box is changed; HitBounds refuses what is not the field's. -/
namespace Go.Proofs.Ytkcehbnmcdppkaa
open Go.RowKit Fl
set_option linter.unusedVariables false

set_option maxHeartbeats 1000000 in
theorem eq_strike (w : World) : (binOp .eql 75 zeroStrike zeroStrike).run Try.prog w = .ok (.bool true) w := by
  have hS : Try.prog.underlying 75 = some (.struct (Try.prog.fieldsOf 75)) := by kernel_rfl
  have hp : Try.prog.stoodInHeld 75 = false := by kernel_rfl
  have e : (FloatKind.f32.format.order 0 0 == some .eq) = true := by kernel_rfl
  rw [run_eql_struct, show (10000 : Nat) = 9999 + 1 from rfl, run_equalIn_agg w 9999 75 _ _ hS hp]
  simp only [Program.fieldsOf, Try.underlying75]
  have f : ∀ (d u v : Nat) (W : World), (Op.equalIn (d + 1) 22 (.float .f32 u) (.float .f32 v)).run Try.prog W = .ok (FloatKind.f32.format.order u v == some .eq) W := fun d u v W => by
    simp [Op.equalIn, run_underlying Try.underlying22, Op.floatEq]
  have g : ∀ (u v : Nat) (W : World), (Op.equalIn 9999 22 (.float .f32 u) (.float .f32 v)).run Try.prog W = .ok (FloatKind.f32.format.order u v == some .eq) W := fun u v W => f 9998 u v W
  clear f
  go_simp

/-- The number of a box, of any number. -/
theorem kk_of (k : Int) (m : Nat) (h1 : 1 ≤ m) (h2 : m ≤ 1000000) : ∃ (r1 : Int) (r2 kk : Nat), k.tmod (m : Int) = r1 ∧ IntKind.i64.wrap (r1 + (m : Int)) = (r2 : Int) ∧ kk < m ∧ (r2 : Int).tmod (m : Int) = (kk : Int) ∧ (r2 : Int) % (m : Int) = (kk : Int) := by
  have a1 : k.tmod (m : Int) < m := Int.tmod_lt_of_pos k (by omega)
  have a2 : -(m : Int) < k.tmod (m : Int) := by
    have := Int.lt_tmod_of_pos k (show (0 : Int) < m by omega)
    omega
  obtain ⟨r2, hr⟩ := Int.eq_ofNat_of_zero_le (show 0 ≤ k.tmod (m : Int) + m by omega)
  refine ⟨_, r2, r2 % m, rfl, by rw [hr]; exact IntWalk.i64_in _ (by omega), Nat.mod_lt _ h1, ?_, by simp⟩
  rw [Int.tmod_eq_emod_of_nonneg (by omega)]
  simp

set_option maxHeartbeats 8000000 in
set_option maxRecDepth 100000 in
theorem bxLaw_ok (X Y : Int) (W H b off cap n : Nat) (v : Nat → Nat) (c : Cam) (k : Int) (y : Nat) (w : World) (h0 : checkR X Y W H = 0) (hn : n = W * H) (hr : FlAt w b off n v) (hh : allB n (fun i => hgtB (v i)) = true) (hcap : n ≤ cap) (hs : n ≤ 200)
    (hE : SlE w (some ⟨b, off, none⟩) n cap 0) (hx : c.x < 4294967296) (hy : c.y < 4294967296) (hc : rayE c = 0) :
    Calls Try.prog 7 #[fldV X Y W H (.slice (some ⟨b, off, none⟩) n cap), .agg c.vs, .int .i64 k, .float .f32 y] w fun e w' => e = .returned (.bool true) ∧ Below w.heap.size w w' := by
  obtain ⟨b1, b2, b3, b4, b5, b6, b7, b8, b9⟩ := checkR_zero h0
  have hn1 : 1 ≤ n := by rw [hn]; exact Nat.mul_pos (by omega) (by omega)
  have zb : b < w.heap.size := World.block_lt_of_cell? w _ (hr 0 hn1)
  have FE := Lib.hid (fun W' (hB : Below w.heap.size w W') => qFieldError_any X Y W H (some ⟨b, off, none⟩) n cap 0 W' (hE.stay hB).2)
  have hchk : fldChk X Y W H n 0 = 0 := by
    unfold fldChk
    rw [if_neg (by simp [h0]), if_neg (by rw [hn]; simp)]
  rw [hchk] at FE
  have SM := Lib.hid (fun w => smallB_any X Y W H (some ⟨b, off, none⟩) n cap w)
  rw [decide_eq_true hs] at SM
  have RE := Lib.hid (fun w => rayError_any c w hx hy)
  rw [hc] at RE
  have LV := Lib.hid (fun w => levels_any w)
  have BO := Lib.hid (fun W' (hB : Below w.heap.size w W') => boxesOf_any X Y W H b off cap n v W' h0 hn (flAt_congr hr (hB.block b zb)) hh)
  have HI := Lib.hid (fun W' (hB : Below w.heap.size w W') a ln lc EQ => hitBounds_no X Y W H b off cap n v c W' a ln lc h0 hn (flAt_congr hr (hB.block b zb)) hh hcap hc EQ)
  have HM := Lib.hid (show ∀ l, l ≤ 9 → lvN W H l = 1 → 1 ≤ ofN W H (l + 1) ∧ ofN W H (l + 1) ≤ 1000000 from fun l hl h1 => by
    have e : ofN W H (l + 1) = ofN W H l + lvN W H l := rfl
    have := ofN_le (W := W) (H := H) (by omega) (by omega) l
    have q : l * (W * H) ≤ 9 * 200 := Nat.mul_le_mul hl (by rw [← hn]; exact hs)
    omega)
  clear h0 hn hr hh hcap hs hE hx hy hc b1 b2 b3 b4 b5 b6 b7 b8 b9 hn1 zb hchk
  obtain ⟨cx, cy, ch, cdx, cdy, cdh, cz⟩ := c
  go_enter Try.func7, Try.ntmps7
  go_upto_region 4 with (first
      | (go_at_call 43; (with_reducible refine Calls.mono (LV.out _) ?_); rintro e w1 ⟨rfl, hb1⟩; have HF1 := Lib.hid (blkStay (b := w.heap.size) (o := fldO X Y W H (.slice (some ⟨b, off, none⟩) n cap)) (by (first | (rw [heap_alloc_get, if_pos rfl]; done) | ((simp only [heap_alloc_get, heap_size_alloc, if_true]) <;> ((repeat' split) <;> first | rfl | omega)))) hb1); have HC1 := Lib.hid (blkStay (b := w.heap.size + 1) (o := .cells #[.float .f32 cx, .float .f32 cy, .float .f32 ch, .float .f32 cdx, .float .f32 cdy, .float .f32 cdh, .float .f32 cz] 65) (by (first | (rw [heap_alloc_get, if_pos rfl]; done) | ((simp only [heap_alloc_get, heap_size_alloc, if_true]) <;> ((repeat' split) <;> first | rfl | omega)))) hb1); have B1 := Lib.hid (Below.trans (show Below w.heap.size w _ from (by repeat (first | exact Below.refl _ _ | refine Below.alloc ?_ (by first | omega | (simp; done) | (simp; omega)) _ | refine Below.setCell ?_ (by first | omega | (simp; done) | (simp; omega)) _ | refine Below.drew ?_))) (hb1.mono (by first | omega | (simp; done) | (simp; omega)))); clear hb1; obtain ⟨cF, fF, zF⟩ := blkC HF1.out; obtain ⟨cC, fC, zC⟩ := blkC HC1.out)
      | (go_at_call 32; (with_reducible refine Calls.mono (FE.out _ B1.out) ?_); rintro e w2 ⟨rfl, hb2⟩; have HF2 := Lib.hid (blkStay HF1.out hb2); have HC2 := Lib.hid (blkStay HC1.out hb2); have B2 := Lib.hid (B1.out.trans (hb2.mono B1.out.size)); clear hb2 cF fF zF cC fC zC; obtain ⟨cF, fF, zF⟩ := blkC HF2.out; obtain ⟨cC, fC, zC⟩ := blkC HC2.out)
      | (go_at_call 44; (with_reducible refine Calls.mono (SM.out _) ?_); rintro e w3 ⟨rfl, hb3⟩; have HF3 := Lib.hid (blkStay HF2.out hb3); have HC3 := Lib.hid (blkStay HC2.out hb3); have B3 := Lib.hid (B2.out.trans (hb3.mono B2.out.size)); clear hb3 cF fF zF cC fC zC; obtain ⟨cF, fF, zF⟩ := blkC HF3.out; obtain ⟨cC, fC, zC⟩ := blkC HC3.out)
      | (go_at_call 45; (with_reducible refine Calls.mono (RE.out _) ?_); rintro e w4 ⟨rfl, hb4⟩; have HF4 := Lib.hid (blkStay HF3.out hb4); have HC4 := Lib.hid (blkStay HC3.out hb4); have B4 := Lib.hid (B3.out.trans (hb4.mono B3.out.size)); clear hb4 cF fF zF cC fC zC; obtain ⟨cF, fF, zF⟩ := blkC HF4.out)
      | (go_at_call 46; (with_reducible refine Calls.mono (BO.out _ B4.out) ?_); rintro e w5 ⟨g, c2, l, T, rfl, hg, hl, hl1, hl2, hrow, hto, hb5, hfro, hmc⟩; have HROW := Lib.hid hrow; have HFRO := Lib.hid hfro; have HMC := Lib.hid hmc; have HIS := Lib.hid (show IsBx v W H (ofN W H (l + 1)) T from ⟨l, rfl, hl, hl1, hl2, hto⟩); have HM5 := Lib.hid (HM.out l hl hl1); have HF5 := Lib.hid (blkStay HF4.out hb5); have HC5 := Lib.hid (blkStay HC4.out hb5); have B5 := Lib.hid (B4.out.trans (hb5.mono B4.out.size)); have HG5 := Lib.hid (show w.heap.size + 1 < g from Nat.lt_of_lt_of_le (blkC HC4.out).2.2 hg); clear hb5 hg hl hl1 hl2 hrow hto hfro hmc cF fF zF))
  clear HF1 HF2 HF3 HF4 HC1 HC2 HC3 HC4 B1 B2 B3 B4 LV FE SM RE HM
  generalize ofN W H (l + 1) = m at *
  obtain ⟨r1, r2, kk, t1, t2, hkk, t3, t4⟩ := kk_of k m HM5.out.1 HM5.out.2
  have HKK := Lib.hid hkk
  have m0 : ¬ ((m : Int) = 0) := by have := HM5.out.1; omega
  have m1 : (1 : Int) ≤ (m : Int) := by have := HM5.out.1; omega
  obtain ⟨c0, c1, c2', c3, c4, zg⟩ := bx_at HROW.out hkk
  have hf3 := HFRO.out (kk * 5 + 3)
  have hkI : (kk : Int) < (m : Int) := by omega
  obtain ⟨C, hC⟩ : ∃ C, T kk = C := ⟨_, rfl⟩
  have HTC := Lib.hid hC
  rw [hC] at c0 c1 c2' c3 c4
  clear hC hkk
  obtain ⟨cl, cbx, cby, clo, chi⟩ := C
  simp only at c0 c1 c2' c3 c4
  obtain ⟨r, n2, ha⟩ := arith_loose .add 22 .f32 clo y (by simp) w5
  have HD := Lib.hid (below_drewN w5 n2)
  have c3' : (w5.drewN n2).cell? ⟨g, kk * 5 + 3, none⟩ = some (.float .f32 clo) := by rw [World.cell?_of_block (w := w5) (a := ⟨g, kk * 5 + 3, none⟩) (HD.out.block g zg)]; exact c3
  have RS := fun (w : World) (a : Addr) (m : Mode) k b => run_store_float (P := Try.prog) (w := w) (a := a) (m := m) k b
  go_upto_region 6 with fail
  have HROW6 := Lib.hid (show BxRow ((w5.drewN n2).setCell ⟨g, kk * 5 + 3, none⟩ (.float .f32 r)) g m (updX T kk ⟨cl, cbx, cby, r, chi⟩) from by
    have := BxRow.setLo (HROW.out.stay HD.out) HKK.out r
    rw [HTC.out] at this
    exact this)
  have B6 := Lib.hid ((B5.out.trans (HD.out.mono B5.out.size)).setCell (p := ⟨g, kk * 5 + 3, none⟩) (show w.heap.size ≤ g from by have := HG5.out; omega) (.float .f32 r))
  have HF6 := Lib.hid ((Below.heap_setCell (w5.drewN n2) ⟨g, kk * 5 + 3, none⟩ (.float .f32 r) w.heap.size (show w.heap.size ≠ g from by have := HG5.out; omega)).trans (blkStay HF5.out HD.out))
  have HC6 := Lib.hid ((Below.heap_setCell (w5.drewN n2) ⟨g, kk * 5 + 3, none⟩ (.float .f32 r) (w.heap.size + 1) (show w.heap.size + 1 ≠ g from by have := HG5.out; omega)).trans (blkStay HC5.out HD.out))
  have BO6 := Lib.hid (fun W' (hB : Below ((w5.drewN n2).setCell ⟨g, kk * 5 + 3, none⟩ (.float .f32 r)).heap.size ((w5.drewN n2).setCell ⟨g, kk * 5 + 3, none⟩ (.float .f32 r)) W') => (BO.out W' (B6.out.trans (hB.mono B6.out.size))).mono (fun e w' h => show ∃ g2 c22 T2, e = .returned (.slice (some ⟨g2, 0, none⟩) m c22) ∧ IsBx v W H m T2 ∧ BxRow w' g2 m T2 ∧ Below W'.heap.size W' w' from by
    obtain ⟨g2, c22, l2, T2, rfl, _, q2, q3, q4, q5, q6, q7, _, _⟩ := h
    have hi : IsBx v W H (ofN W H (l2 + 1)) T2 := ⟨l2, rfl, q2, q3, q4, q6⟩
    obtain ⟨hmm, _⟩ := HIS.out.same hi
    rw [← hmm] at q5 hi ⊢
    exact ⟨g2, c22, T2, rfl, hi, q5, q7⟩))
  clear HROW HD HF5 HC5 B5 HFRO c0 c1 c2' c3 c4 c3' hf3 ha zg t1 t2 t3 t4 BO
  generalize ((w5.drewN n2).setCell ⟨g, kk * 5 + 3, none⟩ (.float .f32 r)) = w6 at *
  obtain ⟨cF, fF, zF⟩ := blkC HF6.out
  obtain ⟨d0, d1, d2, d3, d4, zg6⟩ := bx_at HROW6.out HKK.out
  rw [updX_same] at d0 d1 d2 d3 d4
  simp only at d0 d1 d2 d3 d4
  have DD := Lib.hid (And.intro d0 (And.intro d1 (And.intro d2 (And.intro d3 d4))))
  go_cut [66] from 57 to 66 (fun s66 wx => ∃ (eqb : Bool) (T2 : Nat → BxR), s66 = .bool eqb ∧ IsBx v W H m T2 ∧ eqb = bxEq ⟨cl, cbx, cby, r, chi⟩ (T2 kk) ∧ Below w6.heap.size w6 wx)
  case first =>
    go_region_law (go_simp; (with_reducible refine Calls.mono (BO6.out _ ?hb) ?_); (case hb => exact (by repeat (first | exact Below.refl _ _ | refine Below.alloc ?_ (by first | omega | (simp; done) | (simp; omega)) _ | refine Below.setCell ?_ (by first | omega | (simp; done) | (simp; omega)) _ | refine Below.drew ?_))); rintro e w7 ⟨g2, c22, T2, rfl, his2, hrow2, hb7⟩; have HIS2 := Lib.hid his2; have HB7 := Lib.hid (show Below w6.heap.size w6 w7 from Below.trans (show Below w6.heap.size w6 _ from (by repeat (first | exact Below.refl _ _ | refine Below.alloc ?_ (by first | omega | (simp; done) | (simp; omega)) _ | refine Below.setCell ?_ (by first | omega | (simp; done) | (simp; omega)) _ | refine Below.drew ?_))) (hb7.mono (by first | exact Nat.le_refl _ | (simp; done)))); obtain ⟨e0, e1, e2, e3, e4, zg2⟩ := bx_at hrow2 HKK.out; obtain ⟨D, hD⟩ : ∃ D, T2 kk = D := ⟨_, rfl⟩; rw [hD] at e0 e1 e2 e3 e4; have HD2 := Lib.hid hD; clear hD his2 hrow2 hb7; obtain ⟨dl, dx, dy, dlo, dhi⟩ := D; simp only at e0 e1 e2 e3 e4; have EQ2 := fun W => eql_bx ⟨cl, cbx, cby, r, chi⟩ ⟨dl, dx, dy, dlo, dhi⟩ W; obtain ⟨k0, k1, k2, k3, k4, zk7⟩ := bx_at (HROW6.out.stay HB7.out) HKK.out; rw [updX_same] at k0 k1 k2 k3 k4; simp only at k0 k1 k2 k3 k4)
    all_goals
      go_wp2_with fail
      go_meet
      case rel => exact ⟨_, T2, rfl, HIS2.out, by rw [HD2.out], HB7.out⟩
  case rest =>
    obtain ⟨eqb, T2, rfl, his2, heq, hb7⟩ := hcut
    have B7 := Lib.hid (B6.out.trans (hb7.mono B6.out.size))
    have HF7 := Lib.hid (blkStay HF6.out hb7)
    have HC7 := Lib.hid (blkStay HC6.out hb7)
    have HROW7 := Lib.hid (HROW6.out.stay hb7)
    have HEQ := Lib.hid heq
    have HIS2 := Lib.hid his2
    clear his2 heq hb7 HF6 HC6 B6 HROW6 BO6 DD d0 d1 d2 d3 d4 zg6 cF fF zF
    generalize wc = w7 at *
    cases eqb with
    | true =>
      go_wp2_with fail
      go_ret
      exact ⟨rfl, B7.out⟩
    | false =>
      have H1 := Lib.hid (HI.out w7 B7.out (some ⟨g, 0, none⟩) m c2 (fun W' g' c' m' T' hB hrow' his' => by
        obtain ⟨hmm, _⟩ := HIS.out.same his'
        subst hmm
        exact equalBx_no g g' m c2 c' kk (updX T kk ⟨cl, cbx, cby, r, chi⟩) T' W' HM5.out.2 (HROW7.out.stay hB) hrow' HKK.out (by rw [updX_same, ← IsBx.eq HIS2.out his' _ HKK.out]; exact HEQ.out.symm)))
      have H2 := Lib.hid (fun W2 (hB2 : Below w.heap.size w W2) => HI.out W2 hB2 (some ⟨g, 0, none⟩) kk c2 (fun W' g' c' m' T' hB hrow' his' => by
        obtain ⟨hmm, _⟩ := HIS.out.same his'
        subst hmm
        exact equalBx_len (some ⟨g, 0, none⟩) (some ⟨g', 0, none⟩) kk m c2 c' W' (by have := HKK.out; omega)))
      obtain ⟨cF, fF, zF⟩ := blkC HF7.out
      obtain ⟨cC, fC, zC⟩ := blkC HC7.out
      clear HI HIS HIS2 HEQ HROW7
      go_upto_region 9 with (go_at_call 47; (with_reducible refine Calls.mono H1.out ?_); rintro e w8 ⟨rfl, hb8⟩; have HF8 := Lib.hid (blkStay HF7.out hb8); have HC8 := Lib.hid (blkStay HC7.out hb8); have B8 := Lib.hid (B7.out.trans (hb8.mono B7.out.size)); clear hb8 cF fF zF cC fC zC)
      have hb9 : Below w8.heap.size w8 (w8.alloc (.cells #[.int .i64 0, .int .i64 0, .float .f32 0] 75)) := (by repeat (first | exact Below.refl _ _ | refine Below.alloc ?_ (by first | omega | (simp; done) | (simp; omega)) _ | refine Below.setCell ?_ (by first | omega | (simp; done) | (simp; omega)) _ | refine Below.drew ?_))
      have HS9 := Lib.hid (show (w8.alloc (.cells #[.int .i64 0, .int .i64 0, .float .f32 0] 75)).heap[w8.heap.size]? = some (.cells #[.int .i64 0, .int .i64 0, .float .f32 0] 75) from by (first | (rw [heap_alloc_get, if_pos rfl]; done) | ((simp only [heap_alloc_get, heap_size_alloc, if_true]) <;> ((repeat' split) <;> first | rfl | omega))))
      have HF9 := Lib.hid (blkStay HF8.out hb9)
      have HC9 := Lib.hid (blkStay HC8.out hb9)
      have B9 := Lib.hid (B8.out.trans (hb9.mono B8.out.size))
      have H29 := Lib.hid (fun W2 (hB2 : Below (w8.alloc (.cells #[.int .i64 0, .int .i64 0, .float .f32 0] 75)).heap.size (w8.alloc (.cells #[.int .i64 0, .int .i64 0, .float .f32 0] 75)) W2) => H2.out W2 (B9.out.trans (hB2.mono B9.out.size)))
      clear hb9 HF8 HC8 B8 H1 H2 HF7 HC7 B7
      obtain ⟨p8, hp8⟩ : ∃ p, p = w8.heap.size := ⟨_, rfl⟩
      rw [← hp8] at HS9 ⊢
      clear hp8
      generalize w8.alloc (.cells #[.int .i64 0, .int .i64 0, .float .f32 0] 75) = w9 at *
      obtain ⟨cF, fF, zF⟩ := blkC HF9.out
      obtain ⟨cC, fC, zC⟩ := blkC HC9.out
      have hsz : ∀ W, (sizeOf (Try.prog.elem 68)).run Try.prog W = .ok 5 W := fun W => by kernel_rfl
      have sl : ∀ W, (Instr.slice 68 (.slice (some ⟨g, 0, none⟩) m c2) none (some (.int .i64 (kk : Int))) none).run Try.prog W = .ok (.slice (some ⟨g, 0, none⟩) kk c2) W := fun W => by
        rw [run_slice_h W 68 _ m c2 (by kernel_rfl) .i64 kk (by omega) (by have := HKK.out; have := HMC.out; omega), hsz W]
        show Result.ok (sliced _ _ _ _ _) W = _
        unfold sliced
        simp [Addr.add]
      clear hsz
      have kc2 : (kk : Int) ≤ (c2 : Int) := by have := HKK.out; have := HMC.out; omega
      go_cut [14, 15, 16, 17] from 76 to 86 (fun s14 s15 s16 s17 wx => ∃ p2 : Nat, s14 = .pointer (some ⟨p2, 0, none⟩) ∧ s15 = .bool false ∧ s16 = .int .i64 0 ∧ s17 = .int .i64 2 ∧ wx.heap[p8]? = some (.cells #[.int .i64 0, .int .i64 0, .float .f32 0] 75) ∧ wx.heap[p2]? = some (.cells #[.int .i64 0, .int .i64 0, .float .f32 0] 75) ∧ Below w.heap.size w wx)
      case first =>
        have Z8 : p8 < w9.heap.size := (blkC HS9.out).2.2
        go_region_law (first
          | (go_simp; (with_reducible refine Calls.mono (H29.out _ ?hb) ?_); (case hb => exact (by repeat (first | exact Below.refl _ _ | refine Below.alloc ?_ (by first | omega | (simp; done) | (simp; omega)) _ | refine Below.setCell ?_ (by first | omega | (simp; done) | (simp; omega)) _ | refine Below.drew ?_))); rintro e w10 ⟨rfl, hb10⟩; have HB10 := Lib.hid (show Below w9.heap.size w9 w10 from Below.trans (show Below w9.heap.size w9 _ from (by repeat (first | exact Below.refl _ _ | refine Below.alloc ?_ (by first | omega | (simp; done) | (simp; omega)) _ | refine Below.setCell ?_ (by first | omega | (simp; done) | (simp; omega)) _ | refine Below.drew ?_))) (hb10.mono (by first | exact Nat.le_refl _ | (simp; done)))); have HN10 := Lib.hid (blkStay (b := w9.heap.size) (o := .cells #[.int .i64 0, .int .i64 0, .float .f32 0] 75) (by first | exact heap_alloc_new w9 _ | exact heap_alloc_new w9.drew _ | (first | (rw [heap_alloc_get, if_pos rfl]; done) | ((simp only [heap_alloc_get, heap_size_alloc, if_true]) <;> ((repeat' split) <;> first | rfl | omega)))) hb10); clear hb10; obtain ⟨cN, fN, zN⟩ := blkC HN10.out)
          | (go_simp; (with_reducible refine Calls.mono (H29.out _ ?hb) ?_); (case hb => exact (by repeat (first | exact Below.refl _ _ | refine Below.alloc ?_ (by first | omega | (simp; done) | (simp; omega)) _ | refine Below.setCell ?_ (by first | omega | (simp; done) | (simp; omega)) _ | refine Below.drew ?_))); rintro e w10 ⟨rfl, hb10⟩; have HB10 := Lib.hid (show Below w9.heap.size w9 w10 from Below.trans (show Below w9.heap.size w9 _ from (by repeat (first | exact Below.refl _ _ | refine Below.alloc ?_ (by first | omega | (simp; done) | (simp; omega)) _ | refine Below.setCell ?_ (by first | omega | (simp; done) | (simp; omega)) _ | refine Below.drew ?_))) (hb10.mono (by first | exact Nat.le_refl _ | (simp; done)))); clear hb10))
        all_goals
          go_wp2_with fail
          go_meet
          case rel => first
            | exact ⟨w9.heap.size, rfl, rfl, rfl, rfl, ((Below.heap_setCell _ ⟨w9.heap.size, 2, none⟩ _ p8 (by show p8 ≠ w9.heap.size; omega)).trans ((Below.heap_setCell _ ⟨w9.heap.size, 1, none⟩ _ p8 (by show p8 ≠ w9.heap.size; omega)).trans (Below.heap_setCell _ ⟨w9.heap.size, 0, none⟩ _ p8 (by show p8 ≠ w9.heap.size; omega)))).trans (blkStay HS9.out HB10.out), heap_setCell_same _ w9.heap.size 2 _ _ (.float .f32 0) (heap_setCell_same _ w9.heap.size 1 _ _ (.int .i64 0) (heap_setCell_same _ w9.heap.size 0 _ _ (.int .i64 0) HN10.out)), (B9.out.trans (((HB10.out.setCell (p := ⟨w9.heap.size, 0, none⟩) (Nat.le_refl _) (.int .i64 0)).setCell (p := ⟨w9.heap.size, 1, none⟩) (Nat.le_refl _) (.int .i64 0)).setCell (p := ⟨w9.heap.size, 2, none⟩) (Nat.le_refl _) (.float .f32 0) |>.mono B9.out.size))⟩
            | exact ⟨w10.heap.size, rfl, rfl, rfl, rfl, (heap_alloc_old _ _ (blkC (blkStay HS9.out HB10.out)).2.2).trans (blkStay HS9.out HB10.out), heap_alloc_new w10 _, (B9.out.trans (HB10.out.mono B9.out.size)).alloc (B9.out.trans (HB10.out.mono B9.out.size)).size _⟩
      case rest =>
        obtain ⟨p2, rfl, rfl, rfl, rfl, hs1, hs2, hb11⟩ := hcut
        have HB11 := Lib.hid hb11
        obtain ⟨cP, fP, zP⟩ := blkC hs1
        obtain ⟨cQ, fQ, zQ⟩ := blkC hs2
        have EQS := fun W => eq_strike W
        clear hb11 hs1 hs2 cF fF cC fC sl
        go_wp2_with fail
        go_ret
        exact ⟨rfl, HB11.out⟩
end Go.Proofs.Ytkcehbnmcdppkaa

/- A field that came in, opened: four integers, and a slice of singles that is empty or known cell by cell. -/
namespace Go.Proofs.Ytkcehbnmcdppkaa
open Go.ChangeShapes Go.WideShapes Go.ChangeAt Go.RowKit Go.Joins Fl

section
variable {H : Type} {enc : TypeId × Value → H} {w : World} {base : Nat} {spare : Nat → Bool} {held : Bool}

theorem trod_f32 {P : Program} {t : TypeId} {fuel : Nat} {v : Value} {y : DataW H × List MemPlace} (ht : P.underlying t = some (.float .f32)) (h : DataW.trod enc P w base spare held fuel t [v] = some y) : ∃ b, v = .float .f32 b ∧ b < 4294967296 := by
  cases fuel with
  | zero => simp [DataW.trod] at h
  | succ n =>
    unfold DataW.trod at h
    rw [ht] at h
    cases v <;> simp at h
    rename_i k b
    obtain ⟨⟨rfl, hw⟩, _⟩ := h
    exact ⟨b, rfl, by simpa [Lit.wf] using hw⟩

theorem array5 {α : Type} {cs : Array α} (h : cs.size = 5) : ∃ c0 c1 c2 c3 c4, cs = #[c0, c1, c2, c3, c4] := by
  obtain ⟨l⟩ := cs
  match l, h with
  | [c0, c1, c2, c3, c4], _ => exact ⟨c0, c1, c2, c3, c4, rfl⟩

theorem flAt_congr' {w w' : World} {b off n : Nat} {f : Nat → Nat} (h : FlAt w b off n f) (e : w'.heap[b]? = w.heap[b]?) : FlAt w' b off n f := fun i hi => by
  rw [← h i hi]; exact World.cell?_of_block (w := w) (a := ⟨b, off + i, none⟩) e

/-- What a slice of singles is: empty, or known cell by cell. -/
def SlF (w : World) (s : Value) : Prop :=
  (∃ a cap, s = .slice a 0 cap) ∨ ∃ b off len cap x, s = .slice (some ⟨b, off, none⟩) len cap ∧ 0 < len ∧ len ≤ 9223372036854775807 ∧ FlAt w b off len x ∧ wf32 len x

theorem open_singles {t e : TypeId} {fuel : Nat} {cs : List Value} {y : DataW H × List MemPlace} (ht : Try.prog.underlying t = some (.slice e)) (he : Try.prog.underlying e = some (.float .f32)) (hc : Try.prog.cellsOf e = 1)
    (h : DataW.trod enc Try.prog w base spare held fuel t cs = some y) : ∃ s, cs = [s] ∧ SlF w s := by
  rcases Go.Deep.open_slice1 ht hc h with ⟨rfl, _⟩ | ⟨a, len, cap, m, n, V, D, Pl, rfl, hb, hl, hm, hmm, _, hx⟩
  · exact ⟨_, rfl, .inl ⟨none, 0, rfl⟩⟩
  · refine ⟨_, rfl, ?_⟩
    rcases Nat.eq_zero_or_pos len with z | z
    · subst z; exact .inl ⟨_, _, rfl⟩
    · have hlm : len ≤ m := by rw [hmm]; split <;> omega
      have h0 := (hx 0 (by omega)).1
      obtain ⟨b, off, spot⟩ := a
      have hspot : spot = none := by simpa [Addr.add] using World.cell?_spot h0
      subst hspot
      have hv : ∀ i, i < len → ∃ x, V i = .float .f32 x ∧ x < 4294967296 := fun i hi => trod_f32 he (hx i (by omega)).2
      refine .inr ⟨b, off, len, cap, fun i => match V i with | .float _ x => x | _ => 0, rfl, z, ?_, fun i hi => ?_, fun i hi => ?_⟩
      · exact Nat.le_trans hl (Nat.le_trans hm (by decide))
      · have h1 := (hx i (by omega)).1
        obtain ⟨x, e1, _⟩ := hv i hi
        rw [← Go.WideShapes.add_plain, h1]
        simp only [e1]
      · obtain ⟨x, e1, e2⟩ := hv i hi
        simp only [e1]; exact e2

theorem cellsF : Try.prog.cellsOf 41 = 5 := by kernel_rfl
theorem cellsR : Try.prog.cellsOf 38 = 4 := by kernel_rfl
theorem cellsS : Try.prog.cellsOf 39 = 1 := by kernel_rfl
theorem cells1 : Try.prog.cellsOf 22 = 1 := by kernel_rfl
theorem cellsI : Try.prog.cellsOf 3 = 1 := by kernel_rfl

set_option maxRecDepth 100000 in
theorem open_field {r : Reach} {b0 : Nat} {v : Value} {d : DataW H} {p : List MemPlace} (hv : Value.okWide Try.prog w r b0 41 v) (h : DataW.Trod enc Try.prog w base spare held 41 v d p) :
    ∃ X Y W' H' : Int, ∃ s, v = fldV X Y W' H' s ∧ SlF w s := by
  obtain ⟨cs, rfl, hsz⟩ := okWide_struct Try.underlying41 hv
  obtain ⟨c0, c1, c2, c3, c4, rfl⟩ := array5 (hsz.trans cellsF)
  obtain ⟨fuel, hf⟩ := h
  obtain ⟨y0, y1, n, _, _, h0, h1⟩ := trod_struct2 Try.underlying41 hf
  rw [cellsR] at h0
  rw [cellsS] at h1
  obtain ⟨s, e4, hs⟩ := open_singles Try.underlying39 Try.underlying22 cells1 h1
  obtain ⟨z0, z1, z2, z3, n2, _, _, g0, g1, g2, g3⟩ := trod_struct4 Try.underlying38 h0
  rw [cellsI] at g0 g1 g2 g3
  obtain ⟨x0, e0, _, _⟩ := DataW.trod_int Try.underlying3 g0
  obtain ⟨x1, e1, _, _⟩ := DataW.trod_int Try.underlying3 g1
  obtain ⟨x2, e2, _, _⟩ := DataW.trod_int Try.underlying3 g2
  obtain ⟨x3, e3, _, _⟩ := DataW.trod_int Try.underlying3 g3
  simp [Value.cells] at e0 e1 e2 e3 e4
  subst e0 e1 e2 e3 e4
  exact ⟨x0, x1, x2, x3, _, rfl, hs⟩
end

theorem SlF.stay {w w' : World} {s : Value} (h : SlF w s) (hb : Below w.heap.size w w') : SlF w' s := by
  rcases h with h | ⟨b, off, len, cap, x, rfl, h1, h2, h3, h4⟩
  · exact .inl h
  · exact .inr ⟨b, off, len, cap, x, rfl, h1, h2, flAt_congr' h3 (hb.block _ (World.block_lt_of_cell? w _ (h3 0 h1))), h4⟩

/-- fit, of whatever slice. -/
theorem fit_any {X Y W H : Int} {s : Value} {w : World} (h : SlF w s) : Calls Try.prog 36 #[fldV X Y W H s] w (FitPost w) := by
  rcases h with ⟨a, cap, rfl⟩ | ⟨b, off, len, cap, x, rfl, h1, h2, h3, h4⟩
  · exact fit_none X Y W H a cap w
  · exact fit_some X Y W H b off len cap x w h1 h2 h3 h4

theorem laidOut : laidOutB Try.prog = true := by kernel_rfl
end Go.Proofs.Ytkcehbnmcdppkaa

/- A field that came in, opened, with its capacity. -/
namespace Go.Proofs.Ytkcehbnmcdppkaa
open Go.ChangeShapes Go.WideShapes Go.ChangeAt Go.RowKit Go.Joins Fl

section
variable {H : Type} {enc : TypeId × Value → H} {w : World} {base : Nat} {spare : Nat → Bool} {held : Bool}

/-- What a slice of singles is: empty, or known cell by cell. -/
def SlF2 (w : World) (s : Value) : Prop :=
  (∃ a cap, s = .slice a 0 cap) ∨ ∃ b off len cap x, s = .slice (some ⟨b, off, none⟩) len cap ∧ 0 < len ∧ len ≤ cap ∧ len ≤ 9223372036854775807 ∧ FlAt w b off len x ∧ wf32 len x

theorem open_singles2 {t e : TypeId} {fuel : Nat} {cs : List Value} {y : DataW H × List MemPlace} (ht : Try.prog.underlying t = some (.slice e)) (he : Try.prog.underlying e = some (.float .f32)) (hc : Try.prog.cellsOf e = 1)
    (h : DataW.trod enc Try.prog w base spare held fuel t cs = some y) : ∃ s, cs = [s] ∧ SlF2 w s := by
  rcases Go.Deep.open_slice1 ht hc h with ⟨rfl, _⟩ | ⟨a, len, cap, m, n, V, D, Pl, rfl, hb, hl, hm, hmm, _, hx⟩
  · exact ⟨_, rfl, .inl ⟨none, 0, rfl⟩⟩
  · refine ⟨_, rfl, ?_⟩
    rcases Nat.eq_zero_or_pos len with z | z
    · subst z; exact .inl ⟨_, _, rfl⟩
    · have hlm : len ≤ m := by rw [hmm]; split <;> omega
      have h0 := (hx 0 (by omega)).1
      obtain ⟨b, off, spot⟩ := a
      have hspot : spot = none := by simpa [Addr.add] using World.cell?_spot h0
      subst hspot
      have hv : ∀ i, i < len → ∃ x, V i = .float .f32 x ∧ x < 4294967296 := fun i hi => trod_f32 he (hx i (by omega)).2
      refine .inr ⟨b, off, len, cap, fun i => match V i with | .float _ x => x | _ => 0, rfl, z, hl, ?_, fun i hi => ?_, fun i hi => ?_⟩
      · exact Nat.le_trans hl (Nat.le_trans hm (by decide))
      · have h1 := (hx i (by omega)).1
        obtain ⟨x, e1, _⟩ := hv i hi
        rw [← Go.WideShapes.add_plain, h1]
        simp only [e1]
      · obtain ⟨x, e1, e2⟩ := hv i hi
        simp only [e1]; exact e2

set_option maxRecDepth 100000 in
theorem open_field2 {r : Reach} {b0 : Nat} {v : Value} {d : DataW H} {p : List MemPlace} (hv : Value.okWide Try.prog w r b0 41 v) (h : DataW.Trod enc Try.prog w base spare held 41 v d p) :
    ∃ X Y W' H' : Int, ∃ s, v = fldV X Y W' H' s ∧ SlF2 w s := by
  obtain ⟨cs, rfl, hsz⟩ := okWide_struct Try.underlying41 hv
  obtain ⟨c0, c1, c2, c3, c4, rfl⟩ := array5 (hsz.trans cellsF)
  obtain ⟨fuel, hf⟩ := h
  obtain ⟨y0, y1, n, _, _, h0, h1⟩ := trod_struct2 Try.underlying41 hf
  rw [cellsR] at h0
  rw [cellsS] at h1
  obtain ⟨s, e4, hs⟩ := open_singles2 Try.underlying39 Try.underlying22 cells1 h1
  obtain ⟨z0, z1, z2, z3, n2, _, _, g0, g1, g2, g3⟩ := trod_struct4 Try.underlying38 h0
  rw [cellsI] at g0 g1 g2 g3
  obtain ⟨x0, e0, _, _⟩ := DataW.trod_int Try.underlying3 g0
  obtain ⟨x1, e1, _, _⟩ := DataW.trod_int Try.underlying3 g1
  obtain ⟨x2, e2, _, _⟩ := DataW.trod_int Try.underlying3 g2
  obtain ⟨x3, e3, _, _⟩ := DataW.trod_int Try.underlying3 g3
  simp [Value.cells] at e0 e1 e2 e3 e4
  subst e0 e1 e2 e3 e4
  exact ⟨x0, x1, x2, x3, _, rfl, hs⟩
end

theorem SlF2.stay {w w' : World} {s : Value} (h : SlF2 w s) (hb : Below w.heap.size w w') : SlF2 w' s := by
  rcases h with h | ⟨b, off, len, cap, x, rfl, h1, h0, h2, h3, h4⟩
  · exact .inl h
  · exact .inr ⟨b, off, len, cap, x, rfl, h1, h0, h2, flAt_congr' h3 (hb.block _ (World.block_lt_of_cell? w _ (h3 0 h1))), h4⟩

end Go.Proofs.Ytkcehbnmcdppkaa

/- A kind of plants: its cells, its error; CheckKind, on both sides. -/
namespace Go.Proofs.Ytkcehbnmcdppkaa
open Go.RowKit Fl
set_option linter.unusedVariables false

/-- The fields of a kind. -/
structure Knd where
  name : ByteArray
  lo : Nat
  hi : Nat
  so : Nat
  st : Nat
  dr : Nat
  da : Nat
  tp : Nat
  pa : Nat
  sh : Nat
  ba : Nat
  sp : Int
  th : Int
def kndZ : Knd := ⟨ByteArray.empty, 0, 0, 0, 0, 0, 0, 0, 0, 0, 0, 0, 0⟩
abbrev Knd.cells (k : Knd) : Array Value := #[.string k.name, .float .f32 k.lo, .float .f32 k.hi, .float .f32 k.so, .float .f32 k.st, .float .f32 k.dr, .float .f32 k.da, .float .f32 k.tp, .float .f32 k.pa, .float .f32 k.sh, .float .f32 k.ba, .int .i64 k.sp, .int .i64 k.th]
abbrev kndV (k : Knd) : Value := .agg k.cells
/-- Its singles, in order. -/
def Knd.f (k : Knd) (i : Nat) : Nat := match i with | 0 => k.lo | 1 => k.hi | 2 => k.so | 3 => k.st | 4 => k.dr | 5 => k.da | 6 => k.tp | 7 => k.pa | 8 => k.sh | _ => k.ba
abbrev tenO (k : Knd) : Obj := .cells #[.float .f32 k.lo, .float .f32 k.hi, .float .f32 k.so, .float .f32 k.st, .float .f32 k.dr, .float .f32 k.da, .float .f32 k.tp, .float .f32 k.pa, .float .f32 k.sh, .float .f32 k.ba] 22
theorem flAt_ten {w : World} {p : Nat} {k : Knd} (h : w.heap[p]? = some (tenO k)) : FlAt w p 0 10 k.f := by
  intro i hi
  rw [Nat.zero_add, (blkC h).1 i]
  have : i = 0 ∨ i = 1 ∨ i = 2 ∨ i = 3 ∨ i = 4 ∨ i = 5 ∨ i = 6 ∨ i = 7 ∨ i = 8 ∨ i = 9 := by omega
  rcases this with rfl | rfl | rfl | rfl | rfl | rfl | rfl | rfl | rfl | rfl <;> rfl

/-- A byte of a text, as a number. -/
def byt (s : ByteArray) (i : Nat) : Int := ((s[i]?.getD 0).toNat : Int)
/-- Whether all bytes of a text are small letters. -/
def ltrB (s : ByteArray) : Bool := allB s.size fun i => decide (97 ≤ byt s i ∧ byt s i ≤ 122)
/-- Whether a text is a name of a kind. -/
def namB (s : ByteArray) : Bool := ltrB s && withinB s.size 1 20

/-- Whether a kind's numbers are in order. -/
def Knd.rng (k : Knd) : Bool := !(ltB k.so 0 || ltB k.st 0 || ltB k.dr 0 || ltB k.tp 0 || ltB k.pa 0 || ltB k.sh 0 || FloatKind.f32.format.order k.sh 1065353216 == some .gt || ltB k.ba 0 || FloatKind.f32.format.order k.ba 1065353216 == some .gt)
/-- A kind's error. -/
def Knd.err (k : Knd) : Int :=
  if namB k.name = false then 6 else if fldE 10 k.f ≠ 0 then fldE 10 k.f else if ltB k.hi k.lo = true ∨ ltB k.da k.dr = true then 8 else if k.rng = false then 3
  else if withinB k.sp 0 32 = false ∨ withinB k.th 0 32 = false then 3 else 0

theorem byt_at {s : ByteArray} {i : Nat} (h : i < s.size) : ((s[i]'h).toNat : Int) = byt s i := by
  unfold byt
  rw [ByteArray.getElem?_lt' s i h]; rfl

end Go.Proofs.Ytkcehbnmcdppkaa

/- CheckKind of the program, KindError of the reference: a kind's error. -/
namespace Go.Proofs.Ytkcehbnmcdppkaa
open Go.RowKit Fl
set_option linter.unusedVariables false

theorem fld_ten {k : Knd} (h : fldE 10 k.f = 0) : hgtB k.lo = true ∧ hgtB k.hi = true ∧ hgtB k.so = true ∧ hgtB k.st = true ∧ hgtB k.dr = true ∧ hgtB k.da = true ∧ hgtB k.tp = true ∧ hgtB k.pa = true ∧ hgtB k.sh = true ∧ hgtB k.ba = true := by
  have := allB_iff.1 (fldE_zero.1 h)
  exact ⟨this 0 (by omega), this 1 (by omega), this 2 (by omega), this 3 (by omega), this 4 (by omega), this 5 (by omega), this 6 (by omega), this 7 (by omega), this 8 (by omega), this 9 (by omega)⟩

theorem err_name {k : Knd} (h : namB k.name = false) : k.err = 6 := by unfold Knd.err; rw [if_pos h]
theorem err_fld {k : Knd} (n : namB k.name = true) (h : fldE 10 k.f ≠ 0) : k.err = fldE 10 k.f := by unfold Knd.err; rw [if_neg (by simp [n]), if_pos h]
theorem err_ord {k : Knd} (n : namB k.name = true) (h : fldE 10 k.f = 0) (o : ltB k.hi k.lo = true ∨ ltB k.da k.dr = true) : k.err = 8 := by unfold Knd.err; rw [if_neg (by simp [n]), if_neg (by simp [h]), if_pos o]
theorem err_rest {k : Knd} (n : namB k.name = true) (h : fldE 10 k.f = 0) (o1 : ltB k.hi k.lo = false) (o2 : ltB k.da k.dr = false) : k.err = if k.rng = false then 3 else if withinB k.sp 0 32 = false ∨ withinB k.th 0 32 = false then 3 else 0 := by
  unfold Knd.err; rw [if_neg (by simp [n]), if_neg (by simp [h]), if_neg (by simp [o1, o2])]

end Go.Proofs.Ytkcehbnmcdppkaa

/- A list of kinds: named, CheckKinds of the program. -/
namespace Go.Proofs.Ytkcehbnmcdppkaa
open Go.RowKit Fl
set_option linter.unusedVariables false

/-- The kinds lie in a block, one after the other. -/
def KndsAt (w : World) (b off n : Nat) (K : Nat → Knd) : Prop := ∀ i, i < n → ∀ j, j < 13 → w.cell? ⟨b, off + i * 13 + j, none⟩ = (K i).cells[j]?
/-- .. or there is none. -/
def KndL (w : World) (a : Option Addr) (n : Nat) (K : Nat → Knd) : Prop := n = 0 ∨ ∃ b off, a = some ⟨b, off, none⟩ ∧ KndsAt w b off n K
theorem cells_get (k : Knd) (j : Nat) (hj : j < 13) : ∃ v, k.cells[j]? = some v := by
  have : j < k.cells.size := hj
  exact ⟨k.cells[j], Array.getElem?_eq_getElem this⟩
theorem KndsAt.stay {w w' : World} {b off n : Nat} {K : Nat → Knd} (L : KndsAt w b off n K) (hb : Below w.heap.size w w') : KndsAt w' b off n K := fun i hi j hj => by
  obtain ⟨v, hv⟩ := cells_get (K i) j hj
  have h := L i hi j hj
  rw [hv] at h
  have hlt := World.block_lt_of_cell? w _ h
  rw [hv, ← h]
  exact Below.cell hb hlt
theorem KndL.stay {w w' : World} {a : Option Addr} {n : Nat} {K : Nat → Knd} (L : KndL w a n K) (hb : Below w.heap.size w w') : KndL w' a n K :=
  L.imp_right fun ⟨b, off, e, h⟩ => ⟨b, off, e, h.stay hb⟩
structure KndAt (w : World) (b o : Nat) (k : Knd) : Prop where
  c0 : w.cell? ⟨b, o, none⟩ = some (.string k.name)
  c1 : w.cell? ⟨b, o + 1, none⟩ = some (.float .f32 k.lo)
  c2 : w.cell? ⟨b, o + 2, none⟩ = some (.float .f32 k.hi)
  c3 : w.cell? ⟨b, o + 3, none⟩ = some (.float .f32 k.so)
  c4 : w.cell? ⟨b, o + 4, none⟩ = some (.float .f32 k.st)
  c5 : w.cell? ⟨b, o + 5, none⟩ = some (.float .f32 k.dr)
  c6 : w.cell? ⟨b, o + 6, none⟩ = some (.float .f32 k.da)
  c7 : w.cell? ⟨b, o + 7, none⟩ = some (.float .f32 k.tp)
  c8 : w.cell? ⟨b, o + 8, none⟩ = some (.float .f32 k.pa)
  c9 : w.cell? ⟨b, o + 9, none⟩ = some (.float .f32 k.sh)
  c10 : w.cell? ⟨b, o + 10, none⟩ = some (.float .f32 k.ba)
  c11 : w.cell? ⟨b, o + 11, none⟩ = some (.int .i64 k.sp)
  c12 : w.cell? ⟨b, o + 12, none⟩ = some (.int .i64 k.th)
theorem KndsAt.at {w : World} {b off n : Nat} {K : Nat → Knd} (L : KndsAt w b off n K) {i : Nat} (hi : i < n) : KndAt w b (off + i * 13) (K i) :=
  ⟨L i hi 0 (by omega), L i hi 1 (by omega), L i hi 2 (by omega), L i hi 3 (by omega), L i hi 4 (by omega), L i hi 5 (by omega), L i hi 6 (by omega), L i hi 7 (by omega), L i hi 8 (by omega), L i hi 9 (by omega), L i hi 10 (by omega), L i hi 11 (by omega), L i hi 12 (by omega)⟩

/-- Whether two texts are the same. -/
def eqN (a b : ByteArray) : Bool := a.toList == b.toList
/-- The number of the first kind of that name, or -1. -/
def NamAt (n : Nat) (K : Nat → Knd) (s : ByteArray) (r : Int) : Prop := (r = -1 ∧ ∀ i, i < n → eqN (K i).name s = false) ∨ ∃ i : Nat, r = i ∧ i < n ∧ eqN (K i).name s = true ∧ ∀ j, j < i → eqN (K j).name s = false

end Go.Proofs.Ytkcehbnmcdppkaa

/- Kinds that came in, opened: one, and a list. -/
namespace Go.Proofs.Ytkcehbnmcdppkaa
open Go.ChangeShapes Go.WideShapes Go.ChangeAt Go.RowKit Go.Joins Go.Deep Fl

section
variable {H : Type} {enc : TypeId × Value → H} {w : World} {base : Nat} {spare : Nat → Bool} {held : Bool}

theorem cellsStr : Try.prog.cellsOf 9 = 1 := by kernel_rfl
theorem trod_fieldAt {P : Program} {t : TypeId} {fs : Array Go.Field} {fuel : Nat} {cs : List Value} {x : DataW H × List MemPlace} (ht : P.underlying t = some (.struct fs)) (h : DataW.trod enc P w base spare held fuel t cs = some x) :
    ∃ n, ∀ (i : Nat) (ty : TypeId) (off : Nat), (fs[i]?).map (fun (f : Go.Field) => (f.type, f.offset)) = some (ty, off) → ∃ y, DataW.trod enc P w base spare held n ty ((cs.drop off).take (P.cellsOf ty)) = some y := by
  obtain ⟨xs, n, _, rfl, _, hlen, hf⟩ := DataW.trod_struct ht h
  refine ⟨n, fun i ty off e => ?_⟩
  cases hfi : fs[i]? with
  | none => rw [hfi] at e; cases e
  | some f =>
    rw [hfi] at e
    simp only [Option.map_some, Option.some.injEq, Prod.mk.injEq] at e
    obtain ⟨rfl, rfl⟩ := e
    have hi : i < fs.size := by rw [Array.getElem?_eq_some_iff] at hfi; exact hfi.1
    have hx : i < xs.length := by omega
    exact ⟨xs[i], by rw [hf i f hfi, List.getElem?_eq_getElem hx]⟩
theorem trod_f32at {fuel i : Nat} {cs : List Value} {v : Value} {y : DataW H × List MemPlace} (h : DataW.trod enc Try.prog w base spare held fuel 22 ((cs.drop i).take 1) = some y) (hv : cs[i]? = some v) : ∃ s, v = .float .f32 s ∧ s < 4294967296 := by
  have e : (cs.drop i).take 1 = [v] := by
    have hi : i < cs.length := by rw [List.getElem?_eq_some_iff] at hv; exact hv.1
    rw [List.drop_eq_getElem_cons hi]
    rw [List.getElem?_eq_getElem hi] at hv
    simp only [List.take_succ_cons, List.take_zero, Option.some.inj hv]
  rw [e] at h
  exact trod_f32 Try.underlying22 h
theorem take_at {α : Type} {cs : List α} {i : Nat} {v : α} (hv : cs[i]? = some v) : (cs.drop i).take 1 = [v] := by
  have hi : i < cs.length := by rw [List.getElem?_eq_some_iff] at hv; exact hv.1
  rw [List.drop_eq_getElem_cons hi]
  rw [List.getElem?_eq_getElem hi] at hv
  simp only [List.take_succ_cons, List.take_zero, Option.some.inj hv]

/-- A right kind: its name is a text of the machine, its singles are words. -/
structure KndWf (k : Knd) : Prop where
  name : k.name.size ≤ 9223372036854775807
  f : wf32 10 k.f

end
end Go.Proofs.Ytkcehbnmcdppkaa

/- BoundsRefuse, for every field, every ray, every number of a box and every single: HitBounds refuses boxes that are not the field's, a changed one among them and too few of them. No condition. -/
namespace Go.Proofs.Ytkcehbnmcdppkaa.boundsRefuse
open Go.ChangeShapes Go.WideShapes Go.ChangeAt Go.RowKit Go.Joins Fl
set_option linter.unusedVariables false

section
variable {H : Type} {enc : TypeId × Value → H} {w : World} {base : Nat} {spare : Nat → Bool} {held : Bool}
theorem cells7 : Try.prog.cellsOf 65 = 7 := by kernel_rfl
theorem cells1 : Try.prog.cellsOf 22 = 1 := by kernel_rfl
set_option maxRecDepth 100000 in
theorem open_ray {r : Reach} {b0 : Nat} {v : Value} {d : DataW H} {p : List MemPlace} (hv : Value.okWide Try.prog w r b0 65 v) (h : DataW.Trod enc Try.prog w base spare held 65 v d p) :
    ∃ c : Cam, v = .agg c.vs ∧ c.x < 4294967296 ∧ c.y < 4294967296 := by
  obtain ⟨cs, rfl, hsz⟩ := okWide_struct Try.underlying65 hv
  have h3 : cs.size = 7 := hsz.trans cells7
  obtain ⟨c0, c1, c2, c3, c4, c5, c6, rfl⟩ : ∃ c0 c1 c2 c3 c4 c5 c6, cs = #[c0, c1, c2, c3, c4, c5, c6] := by
    obtain ⟨l⟩ := cs
    match l, h3 with
    | [c0, c1, c2, c3, c4, c5, c6], _ => exact ⟨c0, c1, c2, c3, c4, c5, c6, rfl⟩
  obtain ⟨fuel, hf⟩ := h
  obtain ⟨n, G⟩ := trod_fieldAt Try.underlying65 hf
  obtain ⟨y0, g0⟩ := G 0 22 0 rfl
  obtain ⟨y1, g1⟩ := G 1 22 1 rfl
  obtain ⟨y2, g2⟩ := G 2 22 2 rfl
  obtain ⟨y3, g3⟩ := G 3 22 3 rfl
  obtain ⟨y4, g4⟩ := G 4 22 4 rfl
  obtain ⟨y5, g5⟩ := G 5 22 5 rfl
  obtain ⟨y6, g6⟩ := G 6 22 6 rfl
  rw [cells1] at g0 g1 g2 g3 g4 g5 g6
  rw [show (List.drop 0 (Value.agg #[c0, c1, c2, c3, c4, c5, c6]).cells.toList).take 1 = [c0] by simp [Value.cells]] at g0
  rw [show (List.drop 1 (Value.agg #[c0, c1, c2, c3, c4, c5, c6]).cells.toList).take 1 = [c1] by simp [Value.cells]] at g1
  rw [show (List.drop 2 (Value.agg #[c0, c1, c2, c3, c4, c5, c6]).cells.toList).take 1 = [c2] by simp [Value.cells]] at g2
  rw [show (List.drop 3 (Value.agg #[c0, c1, c2, c3, c4, c5, c6]).cells.toList).take 1 = [c3] by simp [Value.cells]] at g3
  rw [show (List.drop 4 (Value.agg #[c0, c1, c2, c3, c4, c5, c6]).cells.toList).take 1 = [c4] by simp [Value.cells]] at g4
  rw [show (List.drop 5 (Value.agg #[c0, c1, c2, c3, c4, c5, c6]).cells.toList).take 1 = [c5] by simp [Value.cells]] at g5
  rw [show (List.drop 6 (Value.agg #[c0, c1, c2, c3, c4, c5, c6]).cells.toList).take 1 = [c6] by simp [Value.cells]] at g6
  obtain ⟨a0, rfl, l0⟩ := trod_f32 Try.underlying22 g0
  obtain ⟨a1, rfl, l1⟩ := trod_f32 Try.underlying22 g1
  obtain ⟨a2, rfl, _⟩ := trod_f32 Try.underlying22 g2
  obtain ⟨a3, rfl, _⟩ := trod_f32 Try.underlying22 g3
  obtain ⟨a4, rfl, _⟩ := trod_f32 Try.underlying22 g4
  obtain ⟨a5, rfl, _⟩ := trod_f32 Try.underlying22 g5
  obtain ⟨a6, rfl, _⟩ := trod_f32 Try.underlying22 g6
  exact ⟨⟨a0, a1, a2, a3, a4, a5, a6⟩, rfl, l0, l1⟩
end

/-- BoundsRefuse, of a field's slice that came in. -/
theorem law (X Y W0 H0 : Int) (s : Value) (c : Cam) (k : Int) (y : Nat) (w : World) (hs : SlF2 w s) (hx : c.x < 4294967296) (hy : c.y < 4294967296) :
    Calls Try.prog 7 #[fldV X Y W0 H0 s, .agg c.vs, .int .i64 k, .float .f32 y] w fun e w' => e = .returned (.bool true) ∧ Below w.heap.size w w' := by
  rcases hs with ⟨a, cap, rfl⟩ | ⟨b, off, n, cap, x, rfl, h1, h2, h3, h4, h5⟩
  · refine bxLaw_no X Y W0 H0 a 0 cap 0 c k y w (slE_nil w a cap) hx hy (.inl ?_)
    unfold fldChk
    by_cases h0 : checkR X Y W0 H0 = 0
    · obtain ⟨b1, b2, b3, b4, _⟩ := checkR_zero h0
      rw [if_neg (by simp [h0]), if_pos]
      · omega
      · have := Int.mul_pos (show 0 < W0 by omega) (show 0 < H0 by omega)
        show ((0 : Nat) : Int) ≠ W0 * H0
        omega
    · rw [if_pos h0]; exact h0
  · have hE : SlE w (some ⟨b, off, none⟩) n cap (fldE n x) := slE_row h1 h3 h4
    by_cases hc : fldChk X Y W0 H0 n (fldE n x) = 0
    · have hck := hc
      unfold fldChk at hck
      by_cases h0 : checkR X Y W0 H0 = 0
      · rw [if_neg (by simp [h0])] at hck
        by_cases hn : (n : Int) = W0 * H0
        · rw [if_neg (by simp [hn])] at hck
          obtain ⟨b1, b2, b3, b4, b5, _⟩ := checkR_zero h0
          obtain ⟨W, rfl⟩ : ∃ W : Nat, W0 = W := ⟨W0.toNat, by omega⟩
          obtain ⟨H, rfl⟩ : ∃ H : Nat, H0 = H := ⟨H0.toNat, by omega⟩
          have hnn : n = W * H := by
            have : (n : Int) = ((W * H : Nat) : Int) := by rw [hn]; simp
            omega
          by_cases hs : n ≤ 200
          · by_cases hr : rayE c = 0
            · rw [hck] at hE
              exact bxLaw_ok X Y W H b off cap n x c k y w h0 hnn h4 (fldE_zero.1 hck) h2 hs hE hx hy hr
            · exact bxLaw_no X Y W H _ n cap _ c k y w hE hx hy (.inr (.inr ⟨hc, hs, hr⟩))
          · exact bxLaw_no X Y W H _ n cap _ c k y w hE hx hy (.inr (.inl ⟨hc, hs⟩))
        · rw [if_pos hn] at hck; cases hck
      · rw [if_pos h0] at hck; exact absurd hck h0
    · exact bxLaw_no X Y W0 H0 _ n cap _ c k y w hE hx hy (.inl hc)

theorem own : ownKnob Try.prog.godebug = none := by kernel_rfl

set_option maxRecDepth 100000 in
theorem lifted (os : Os) (started : os.Started) (H : Type) (enc : TypeId × Value → H) :
    ReturnsInHanded {} Try.checked os 7 .any (Rows.boundsRefuseSpec.pre6 enc Try.prog Try.f7 Rows.boundsRefuseRow.domain false) (Rows.boundsRefuseSpec.post enc Try.prog Try.f7 false true false false) := by
  refine returnsInHanded_of_change (C := Try.checked) own started (by kernel_rfl) Try.func7
    (ChangeSpec.witness6 (enc := enc) (C := Try.checked) false ⟨#[], #[fldV 0 0 0 0 (.slice none 0 0), .agg #[.float .f32 0, .float .f32 0, .float .f32 0, .float .f32 0, .float .f32 0, .float .f32 0, .float .f32 0], .int .i64 0, .float .f32 0], []⟩ 8 (by kernel_rfl) (by kernel_rfl) (by kernel_rfl) (by kernel_rfl)) ?_
  intro W base args ds gs before hval0 hW hcnd _
  have hval : ∀ (j : Nat) t v, Try.f7.params[j]? = some t → args[j]? = some v → Value.okWide Try.prog W .any base t v := hval0
  have hW' := hW
  have hplt : ∀ x ∈ before, x.block < W.heap.size := fun x hx => by simpa using hW'.lt x hx
  obtain ⟨p, q, hA0, hV, rfl, hfz, hnd⟩ := hW
  have hA : DataW.TrodAll enc Try.prog W 0 (fun _ => true) true Try.f7.params.toList args.toList ds p := hA0
  rw [Try.params7] at hA hval
  obtain ⟨v0, vs0, d0, ds0, p0, q0, hargs, rfl, rfl, h0, r0⟩ := trodAll_cons hA
  obtain ⟨v1, vs1, d1, ds1, p1, q1, rfl, rfl, rfl, h1, r1⟩ := trodAll_cons r0
  obtain ⟨v2, vs2, d2, ds2, p2, q2, rfl, rfl, rfl, h2, r2⟩ := trodAll_cons r1
  obtain ⟨v3, vs3, d3, ds3, p3, q3, rfl, rfl, rfl, h3, r3⟩ := trodAll_cons r2
  obtain ⟨rfl, rfl, rfl⟩ := trodAll_nil r3
  obtain rfl : args = #[v0, v1, v2, v3] := by cases args; simp_all
  obtain ⟨rfl, rfl⟩ := trodVars_none hV
  obtain ⟨X, Y, W0, H0, s, rfl, hs⟩ := open_field2 (hval 0 41 v0 rfl rfl) h0
  obtain ⟨c, rfl, lx, ly⟩ := open_ray (hval 1 65 v1 rfl rfl) h1
  obtain ⟨k, rfl, rfl, rfl, w2⟩ := open_int Try.underlying3 (hval 2 3 v2 rfl rfl) h2
  obtain ⟨y, rfl, rfl, rfl, w3⟩ := open_float Try.underlying22 (hval 3 22 v3 rfl rfl) h3
  have hlt0 : ∀ x ∈ p0, x.block < W.heap.size := fun x hx => hplt x (by simp [hx])
  have hlt1 : ∀ x ∈ p1, x.block < W.heap.size := fun x hx => hplt x (by simp [hx])
  clear hA0 hval0 hplt
  simp only [List.append_nil] at hW'
  refine (law X Y W0 H0 s c k y W hs lx ly).mono fun e W' ⟨he, hb⟩ => ?_
  subst he
  exact ⟨_, rfl, _, _, _, [], _, [], hW', trodAll_cons_mk (shut_bool Try.underlying4 _) trodAll_mk0, trodAll_cons_mk (Below.trod laidOut (by kernel_rfl) (of_decide_eq_true (by kernel_rfl)) h0 hb hlt0) (trodAll_cons_mk (Below.trod laidOut (by kernel_rfl) (of_decide_eq_true (by kernel_rfl)) h1 hb hlt1) (trodAll_cons_mk (shut_int Try.underlying3 w2) (trodAll_cons_mk (shut_float Try.underlying22 w3) trodAll_mk0))), rfl, hb.frame _, fun h => by cases h⟩

theorem over : Rows.boundsRefuseRow.holds Try.pinned (OpenSpec.ofChange Rows.boundsRefuseSpec) :=
  OpenClaim.holds_of_wide 7 Try.f7 rfl rfl rfl rfl rfl rfl rfl ⟨rfl, rfl, rfl, rfl, rfl⟩ rfl rfl rfl rfl rfl (by kernel_rfl) Try.func7 (by kernel_rfl)
    (of_decide_eq_true (by kernel_rfl)) (by unfold Func.isWrapper; rw [if_neg (of_decide_eq_false (by kernel_rfl))]; exact ⟨rfl, rfl⟩)
    (fun os started H enc _ => lifted os started H enc)

theorem proved : Rows.BoundsRefuseSaid :=
  over
#print axioms proved
end Go.Proofs.Ytkcehbnmcdppkaa.boundsRefuse
