/- Lemmas and contracts for the proof that the last text of this claim holds. -/
import Derived.Test.YtkcehbnmcdppkaaBxJB
import Derived.Deep.AppendLies
import Derived.Deep.RegionLaw
import Derived.Deep.RegionHeld3
import Derived.StillTailTactics

/- Contract: byPlace, whatever function it is given, with a state of its own. -/
namespace Go.Proofs.Ytkcehbnmcdppkaa
open Go.RowKit Fl
set_option linter.unusedVariables false

set_option maxHeartbeats 2000000 in
theorem byPlaceM_any (M : Nat → Prop) (Inv : Nat → World → Prop) (X Y : Int) (W H n : Nat) (g : Nat) (caps : Array Value) (f : Nat → Nat) (w : World) (hst : State M Inv w) (h0 : Inv 0 w) (hcall : Enters g) (hcl : Clos2M M Inv g caps X Y W H f w)
    (hX1 : -16777216 ≤ X) (hX2 : X ≤ 16777216) (hY1 : -16777216 ≤ Y) (hY2 : Y ≤ 16777216) (hW1 : 1 ≤ W) (hW2 : W ≤ 512) (hH1 : 1 ≤ H) (hH2 : H ≤ 512) (hn : n = H * W) (hn2 : n ≤ 65536) :
    Calls Try.prog 144 #[reg X Y W H, .func (.func g) #[] caps] w (MadePostM M Inv w X Y W H n f) := by
  have en : (n : Int) = (W : Int) * (H : Int) := by rw [hn, Nat.mul_comm]; simp
  have n1 : 1 ≤ n := by rw [hn]; exact Nat.mul_pos hH1 hW1
  have hBl : Below w.heap.size w (((w.alloc (regObj X Y W H)).alloc (fnObj g caps)).alloc (fldO 0 0 0 0 (.slice none 0 0))) := (by repeat (first | exact Below.refl _ _ | refine Below.alloc ?_ (by first | omega | (simp; done) | (simp; omega)) _ | refine Below.setCell ?_ (by first | omega | (simp; done) | (simp; omega)) _ | refine Below.drew ?_))
  have hst' : State M Inv (((w.alloc (regObj X Y W H)).alloc (fnObj g caps)).alloc (fldO 0 0 0 0 (.slice none 0 0))) := ⟨fun k hk => Nat.lt_of_lt_of_le (hst.old k hk) hBl.size, hst.hang⟩
  have h0' : Inv 0 (((w.alloc (regObj X Y W H)).alloc (fnObj g caps)).alloc (fldO 0 0 0 0 (.slice none 0 0))) := hst.hang 0 w _ h0 (fun k hk => hBl.block k (hst.old k hk))
  have ST := Lib.hid hst
  have BC := Lib.hid (byCellM_any M Inv X Y W H n 173 #[.pointer (some ⟨w.heap.size + 1, 0, none⟩), .pointer (some ⟨w.heap.size, 0, none⟩)] f _ hst' h0' enters_place1
    (place1M_any M Inv X Y W H n g caps f (w.heap.size + 1) w.heap.size _ hst' hcall (fun x y i W' h1 h2 h3 h4 h5 hb hi => hcl x y i W' h1 h2 h3 h4 h5 ((Below.toM hBl).trans (hb.mono hBl.size)) hi) (by ((simp only [heap_alloc_get, heap_size_alloc, if_true]) <;> ((repeat' split) <;> first | rfl | omega))) (by ((simp only [heap_alloc_get, heap_size_alloc, if_true]) <;> ((repeat' split) <;> first | rfl | omega))) (fun hm => by have := hst.old _ hm; omega) (fun hm => by have := hst.old _ hm; omega) hX1 hX2 hY1 hY2 hW1 hW2 hH2 hn) en n1 hn2)
  have HBL := Lib.hid hBl
  clear hcl hcall hn en hst hst' h0 h0' hBl
  go_enter Try.func144, Try.ntmps144
  go_wp2_with fail
  refine BC.out.mono ?_
  intro e w4 hmade
  obtain ⟨hinv, hbel, hmade⟩ := hmade
  have hS := Lib.hid (blkStayM (b := w.heap.size + 1 + 1) (o := fldO 0 0 0 0 (.slice none 0 0)) (by ((simp only [heap_alloc_get, heap_size_alloc, if_true]) <;> ((repeat' split) <;> first | rfl | omega))) hbel (fun hm => by have := ST.out.old _ hm; omega))
  have HB := Lib.hid ((Below.toM HBL.out).trans (hbel.mono HBL.out.size))
  have HI5 := Lib.hid (fun u1 u2 u3 u4 u5 => ST.out.hang n w4 (set5 w4 (w.heap.size + 1 + 1) u1 u2 u3 u4 u5) hinv (fun q hq => set5_heap w4 (w.heap.size + 1 + 1) q u1 u2 u3 u4 u5 (by have := ST.out.old q hq; omega)))
  clear hinv hbel
  obtain ⟨cS, fS, zS⟩ := blkC hS.out
  rcases hmade with ⟨hall, b', cap', rfl, hb', hlt', hrow⟩ | ⟨hall, rfl⟩
  · have HB' := Lib.hid (show w.heap.size + 3 ≤ b' by simp only [heap_size_alloc] at hb'; omega)
    clear hb'
    go_wp2
    refine bodyPost_ret (v := .tuple #[fldV X Y W H (.slice (some ⟨b', 0, none⟩) n cap'), .int .i64 0]) (by simp [results, Try.results144, go_sem, cS]) rfl ?_
    have hb' := HB'.out
    exact ⟨HI5.out _ _ _ _ _, set5_belowM HB.out _ _ _ _ _ _ (by omega), .inl ⟨hall, b', cap', rfl, by omega, by rw [set5_size]; exact hlt', flAt_congr hrow (set5_heap w4 _ _ _ _ _ _ _ (by omega))⟩⟩
  · go_wp2
    refine bodyPost_ret (v := .tuple #[fldV 0 0 0 0 (.slice none 0 0), .int .i64 3]) (by simp [results, Try.results144, go_sem, cS]) rfl ?_
    exact ⟨HI5.out _ _ _ _ _, set5_belowM HB.out _ _ _ _ _ _ (by omega), .inr ⟨hall, rfl⟩⟩
end Go.Proofs.Ytkcehbnmcdppkaa

/- Contract: the reference's made, whatever function it is given, with a state of its own. -/
namespace Go.Proofs.Ytkcehbnmcdppkaa
open Go.RowKit Fl
set_option linter.unusedVariables false

theorem ownsRow_belowM {M : Nat → Prop} {w w' : World} {base : Nat} {e : TypeId} {size : Nat} {v : Value} {n : Nat} {xs : List Value} (h : w.ownsRow base e size v n xs) (hb : BelowM M w.heap.size w w') (hm : ∀ k, base ≤ k → ¬ M k) : w'.ownsRow base e size v n xs := by
  obtain ⟨h1, h2⟩ := h
  refine ⟨h1, ?_⟩
  rcases h2 with h2 | ⟨g, cap, cur, hv, hg, hh, r⟩
  · exact .inl h2
  · exact .inr ⟨g, cap, cur, hv, hg, blkStayM hh hb (hm _ hg), r⟩

/-- What holds of the world at each head of made's loops, when k values have been made. -/
def MadeAtM (M : Nat → Prop) (Inv : Nat → World → Prop) (w : World) (X Y W H : Int) (f : Nat → Nat) (k : Nat) (wr : World) : Prop :=
  ∃ ov, wr.ownsRow (w.heap.size + 1 + 1 + 1) 22 1 ov k (rowL f k) ∧ wr.heap[w.heap.size]? = some (regObj X Y W H) ∧ wr.heap[w.heap.size + 1]? = some (fldO 0 0 0 0 (.slice none 0 0)) ∧
    wr.heap[w.heap.size + 1 + 1]? = some (fldO X Y W H ov) ∧ Inv k wr ∧ BelowM M w.heap.size w wr

theorem made_stepM {M : Nat → Prop} {Inv : Nat → World → Prop} {w wr w2 w3 : World} {X Y W H : Int} {f : Nat → Nat} {k gg cap : Nat} {ov : Value} {o : Obj}
    (ST : State M Inv w) (hI : Inv (k + 1) w2) (HO : wr.ownsRow (w.heap.size + 1 + 1 + 1) 22 1 ov k (rowL f k)) (HB : wr.heap[w.heap.size]? = some (regObj X Y W H)) (HS : wr.heap[w.heap.size + 1]? = some (fldO 0 0 0 0 (.slice none 0 0)))
    (HV : wr.heap[w.heap.size + 1 + 1]? = some (fldO X Y W H ov)) (hbel : BelowM M w.heap.size w wr) (hb2 : BelowM M wr.heap.size wr w2) (hgrow : (w2.alloc o).grownBy w3 ov.ownBlock)
    (hown3 : w3.ownsRow (w.heap.size + 1 + 1 + 1) 22 1 (.slice (some ⟨gg, 0, none⟩) (k + 1) cap) (k + 1) (rowL f k ++ [.float .f32 (f k)])) :
    MadeAtM M Inv w X Y W H f (k + 1) (w3.setCell ⟨w.heap.size + 1 + 1, 4, none⟩ (.slice (some ⟨gg, 0, none⟩) (k + 1) cap)) := by
  have NM : ∀ k, w.heap.size ≤ k → ¬ M k := fun k hk hm => by have := ST.old k hm; omega
  have go : ∀ b o', wr.heap[b]? = some o' → w.heap.size ≤ b → b < w.heap.size + 1 + 1 + 1 → w3.heap[b]? = some o' := by
    intro b o' h hb0 hb
    have h2 := blkStayM h hb2 (NM b hb0)
    have hlt : b < w2.heap.size := by
      rcases Nat.lt_or_ge b w2.heap.size with x | x
      · exact x
      · rw [Array.getElem?_eq_none x] at h2; cases h2
    rw [hgrow.block b (by rw [heap_size_alloc]; omega) (ownsRow_far HO hb), heap_alloc_old _ _ hlt, h2]
  refine ⟨.slice (some ⟨gg, 0, none⟩) (k + 1) cap, ?_, ?_, ?_, ?_, ?_, ?_⟩
  · rw [rowL_succ]; exact ownsRow_setCell_below hown3 (show w.heap.size + 1 + 1 < w.heap.size + 1 + 1 + 1 by omega) _
  · exact (Below.heap_setCell _ _ _ _ (show w.heap.size ≠ w.heap.size + 1 + 1 by omega)).trans (go _ _ HB (by omega) (by omega))
  · exact (Below.heap_setCell _ _ _ _ (show w.heap.size + 1 ≠ w.heap.size + 1 + 1 by omega)).trans (go _ _ HS (by omega) (by omega))
  · rw [heap_setCell_same w3 (w.heap.size + 1 + 1) 4 _ _ _ (go _ _ HV (by omega) (by omega))]; rfl
  · refine ST.hang (k + 1) w2 _ hI (fun q hq => ?_)
    have q1 := ST.old q hq
    have q2 := hbel.size
    have q3 := hb2.size
    rw [Below.heap_setCell _ _ _ _ (show q ≠ w.heap.size + 1 + 1 by omega), hgrow.block q (by rw [heap_size_alloc]; omega) (ownsRow_far HO (by omega)), heap_alloc_old _ _ (by omega)]
  · have h2 : BelowM M w.heap.size w w2 := hbel.trans (hb2.mono hbel.size)
    have g3 : Below w.heap.size (w2.alloc o) w3 := (Below.refl _ _).grown hgrow (by rw [heap_size_alloc]; have := h2.size; omega) (fun b hb => by
      rcases HO.2 with ⟨rfl, _⟩ | ⟨g, _, _, rfl, hg, _⟩
      · cases hb
      · have : b = g := by simpa [Value.ownBlock] using hb.symm
        omega)
    exact ((h2.alloc h2.size o).trans (Below.toM g3)).setCell (p := ⟨w.heap.size + 1 + 1, 4, none⟩) (.inl (show w.heap.size ≤ w.heap.size + 1 + 1 by omega)) _

set_option maxRecDepth 100000 in
set_option maxHeartbeats 4000000 in
theorem madeM_any (M : Nat → Prop) (Inv : Nat → World → Prop) (X Y : Int) (W H n : Nat) (g : Nat) (caps : Array Value) (f : Nat → Nat) (w : World) (hst : State M Inv w) (hi0 : Inv 0 w) (hcall : Enters g) (hcl : Clos2M M Inv g caps X Y W H f w) (hwf : wf32 n f) (hX1 : -16777216 ≤ X) (hX2 : X ≤ 16777216) (hY1 : -16777216 ≤ Y) (hY2 : Y ≤ 16777216) (hW1 : 1 ≤ W) (hW2 : W ≤ 512) (hH1 : 1 ≤ H) (hH2 : H ≤ 512) (hn : n = H * W) :
    Calls Try.prog 92 #[reg X Y W H, .func (.func g) #[] caps] w (MadePostM M Inv w X Y W H n f) := by
  have HCL := Lib.hid hcl
  have ST := Lib.hid hst
  have I0 := Lib.hid hi0
  have HWF := Lib.hid hwf
  unfold Enters at hcall
  have HN := Lib.hid hn
  have hinfo : (Try.prog.info? 22).map (fun i => (i.zero, i.size, i.bytes)) = some (some (.float .f32 0), 1, 4) := by kernel_rfl
  obtain ⟨i0, hi, hz0, hz1, hz2⟩ := info_parts hinfo
  clear hcl hn hinfo hwf hst hi0
  go_enter Try.func92, Try.ntmps92
  go_wp2
  go_loopw [7, 8] (fun y x wr => ∃ j : Nat, j ≤ H ∧ y = .int .i64 (Y + j) ∧ MadeAtM M Inv w X Y W H f (j * W) wr) (fun y _ _ => (Y + H - intOf y).toNat)
  case atStart =>
    refine ⟨0, by omega, by simp, .slice none 0 0, ⟨by simp [rowL], .inl ⟨rfl, by simp⟩⟩, ?_, ?_, ?_, ?_, Below.toM (by repeat (first | exact Below.refl _ _ | refine Below.alloc ?_ (by first | omega | (simp; done) | (simp; omega)) _ | refine Below.setCell ?_ (by first | omega | (simp; done) | (simp; omega)) _ | refine Below.drew ?_))⟩
    · simp only [heap_alloc_get, heap_size_alloc]; simp <;> omega
    · simp only [heap_alloc_get, heap_size_alloc]; simp <;> omega
    · simp only [heap_alloc_get, heap_size_alloc]; simp <;> omega
    · have e : ∀ z : Nat, z = 0 → Inv z w := fun z hz => by rw [hz]; exact I0.out
      exact ST.out.hang _ w _ (e _ (by simp)) (fun k hk => (show Below w.heap.size w _ from (by repeat (first | exact Below.refl _ _ | refine Below.alloc ?_ (by first | omega | (simp; done) | (simp; omega)) _ | refine Below.setCell ?_ (by first | omega | (simp; done) | (simp; omega)) _ | refine Below.drew ?_))).block k (ST.out.old k hk))
  case round =>
    obtain ⟨j, hj, rfl, hmade⟩ := hrel
    have HM := Lib.hid hmade
    obtain ⟨_, _, hbox, _⟩ := hmade
    obtain ⟨cB, fB, zB⟩ := blkC hbox
    clear hbox
    by_cases hlt : j < H
    · go_wp2
      clear cB fB zB
      obtain ⟨w1, rfl⟩ : ∃ w1, w1 = wr := ⟨_, rfl⟩
      go_loopw [8] (fun x wr => ∃ i : Nat, i ≤ W ∧ x = .int .i64 (X + i) ∧ MadeAtM M Inv w X Y W H f (j * W + i) wr) (fun x _ => (X + W - intOf x).toNat)
      case atStart => exact ⟨0, by omega, by simp, HM.out⟩
      case round =>
        obtain ⟨i, hi1, rfl, hmi⟩ := hrel
        have HMi := Lib.hid hmi
        obtain ⟨ov, hown, hbox, hres, hout, hinv, hbel⟩ := hmi
        have HI := Lib.hid hinv
        clear hinv
        have HO := Lib.hid hown
        have HB := Lib.hid hbox
        have HS := Lib.hid hres
        have HV := Lib.hid hout
        obtain ⟨cB, fB, zB⟩ := blkC hbox
        obtain ⟨cV, fV, zV⟩ := blkC hout
        clear hbox hown hres hout
        by_cases hlt2 : i < W
        · have CC := Lib.hid (fun W' hb hi => HCL.out (X + i) (Y + j) (j * W + i) W' (by omega) (by omega) (by omega) (by omega) (by rw [show (Y + (j : Int) - Y) = j by omega, show (X + (i : Int) - X) = i by omega]; simp) hb hi)
          have hk : j * W + i < 262144 := by
            have : j * W ≤ 511 * 512 := Nat.mul_le_mul (by omega) hW2
            omega
          have hx : f (j * W + i) < 4294967296 := HWF.out _ (by
            rw [HN.out]
            have : (j + 1) * W ≤ H * W := Nat.mul_le_mul_right _ hlt
            rw [Nat.succ_mul] at this; omega)
          obtain ⟨k, hke⟩ : ∃ k, j * W + i = k := ⟨_, rfl⟩
          rw [hke] at CC hk hx HO HI
          have KE := Lib.hid (show j * W + (i + 1) = k + 1 by omega)
          clear hke
          have hrd : BelowM M w.heap.size w wr.drew := hbel.drew
          have hri : Inv k wr.drew := ST.out.hang k wr wr.drew HI.out (fun _ _ => rfl)
          have hb1 : k + 1 ≤ maxLen := by unfold maxLen; omega
          have hb2 : (k + 1) * 4 ≤ 140737488355328 := by omega
          have HB1 := Lib.hid hb1
          have HB2 := Lib.hid hb2
          clear hb1 hb2
          go_wp2_with fail
          go_region_law (first
            | (go_simp; (with_reducible refine (CC.out _ hrd hri).mono ?_); rintro e w2 ⟨rfl, hi2, hb2'⟩; have hb2 : BelowM M wr.heap.size wr w2 := ⟨hb2'.os, hb2'.tape, hb2'.output, hb2'.size, hb2'.block⟩; have own2 := Lib.hid (ownsRow_belowM HO.out hb2 (fun k hk hm => by have := ST.out.old k hm; omega)); have out2 := Lib.hid (blkStayM HV.out hb2 (fun hm => by have := ST.out.old _ hm; omega)); obtain ⟨cV2, fV2, zV2⟩ := blkC out2.out)
            | (refine step_append_lies _ (by rfl) _ _ _ (by rfl) (w.heap.size + 1 + 1 + 1) 22 i0 _ 1 4 Try.underlying39 hi hz0 hz1 hz2 rfl (by omega) ov k (rowL f k) (by rfl) (own2.out.alloc _) ⟨w2.heap.size, 0, none⟩ 1 1 [.float .f32 (f k)] (by rfl) (by rfl) (World.news_of_block (cs := #[.float .f32 (f k)]) (t := 22) (fr := (0, 0)) (heap_alloc_new w2 _)) (by simp [Value.oneCell']) (by omega) HB1.out HB2.out (by simp; omega) (w2.heap.size + 1) (by simp) ?_; intro gg cap w3 hown3 hgrow hat hlt3; have hF := ownsRow_far HO.out (show w.heap.size + 1 + 1 < w.heap.size + 1 + 1 + 1 by omega); have out3 := Lib.hid ((hgrow.block (w.heap.size + 1 + 1) (by rw [heap_size_alloc]; omega) hF).trans ((heap_alloc_old _ _ zV2).trans out2.out)); obtain ⟨cV3, fV3, zV3⟩ := blkC out3.out))
          all_goals
            have HM2 := Lib.hid (made_stepM ST.out hi2 HO.out HB.out HS.out HV.out hbel hb2 hgrow hown3)
            clear hown3 hgrow hat hlt3 hF cV3 fV3 zV3 cV2 fV2 zV2 cV fV zV
            go_wp2
            go_roundw
            case rel => exact ⟨i + 1, by omega, by go_num, by rw [KE.out]; exact HM2.out⟩
            case measure => simp [intOf]; omega
        · have hiW : i = W := by omega
          have HM3 : Hid (MadeAtM M Inv w X Y W H f ((j + 1) * W) wr) := by
            have h := HMi.out
            rw [hiW, ← Nat.succ_mul] at h
            exact h
          have hge : ¬ X + (i : Int) < X + W := by omega
          clear hiW
          go_wp2
          go_roundw
          case rel => exact ⟨j + 1, by omega, by go_num, HM3.out⟩
          case measure => simp [intOf]; omega
    · have hjH : j = H := by omega
      have hn1 : 0 < n := by rw [HN.out]; exact Nat.mul_pos hH1 hW1
      have hn2 : n ≤ 262144 := by rw [HN.out]; exact Nat.le_trans (Nat.mul_le_mul hH2 hW2) (by omega)
      have hm := HM.out
      rw [hjH, ← HN.out] at hm
      obtain ⟨ov, hown, hbox, hres, hout, hinv, hbel⟩ := hm
      have HI5 := Lib.hid (fun u1 u2 u3 u4 u5 => ST.out.hang n wr (set5 wr (w.heap.size + 1) u1 u2 u3 u4 u5) hinv (fun q hq => set5_heap wr (w.heap.size + 1) q u1 u2 u3 u4 u5 (by have := ST.out.old q hq; omega)))
      clear hinv
      obtain ⟨gb, cap, rfl, hgb, _⟩ := hown.form hn1
      obtain ⟨hfl, hgl, _⟩ := ownsRow_flAt hown hn1
      obtain ⟨cV, fV, zV⟩ := blkC hout
      obtain ⟨cS, fS, zS⟩ := blkC hres
      have HF := Lib.hid hfl
      have OUT := Lib.hid (refOut_row gb 0 cap n f (by omega) wr hfl HWF.out)
      have HBL := Lib.hid hbel
      clear hjH hown hbox hres hout hfl hbel
      cases hall : allB n (fun i => hgtB (f i)) with
      | true =>
        have HA := Lib.hid hall
        rw [hall] at OUT
        clear hall
        go_wp2_with (go_at_call 146; refine OUT.out.mono ?_; rintro e w' ⟨rfl, rfl⟩)
        refine bodyPost_ret (v := .tuple #[fldV X Y W H (.slice (some ⟨gb, 0, none⟩) n cap), .int .i64 0]) (by simp [results, Try.results92, go_sem, cS]) rfl ?_
        exact ⟨HI5.out _ _ _ _ _, set5_belowM HBL.out (w.heap.size + 1) _ _ _ _ _ (by omega), .inl ⟨HA.out, gb, cap, rfl, by omega, by rw [set5_size]; exact hgl, flAt_congr HF.out (set5_heap wr (w.heap.size + 1) gb _ _ _ _ _ (by omega))⟩⟩
      | false =>
        have HA := Lib.hid hall
        rw [hall] at OUT
        clear hall
        go_wp2_with (go_at_call 146; refine OUT.out.mono ?_; rintro e w' ⟨rfl, rfl⟩)
        refine bodyPost_ret (v := .tuple #[fldV 0 0 0 0 (.slice none 0 0), .int .i64 3]) (by simp [results, Try.results92, go_sem, cS]) rfl ?_
        exact ⟨HI5.out _ _ _ _ _, set5_belowM HBL.out (w.heap.size + 1) _ _ _ _ _ (by omega), .inr ⟨HA.out, rfl⟩⟩

end Go.Proofs.Ytkcehbnmcdppkaa

/- The floor of a single, by the model's own rounding of a double to a whole number. -/
namespace Go.Proofs.Ytkcehbnmcdppkaa.Fl
open Ieee

/-- Down to a whole number: the magnitude. -/
theorem cut_down (s : Bool) (M k : Nat) : Toward.down.cut s M k = M / 2 ^ k + (s && decide (M % 2 ^ k ≠ 0)).toNat := by
  unfold Toward.cut
  simp only [Nat.one_shiftLeft]
  rcases Nat.le_total k (M.log2 + 2) with c | c
  · rw [Nat.min_eq_left c]
    congr 2
    simp [bne, BEq.beq]
  · rw [Nat.min_eq_right c]
    have h : M < 2 ^ (M.log2 + 2) := by
      rcases Nat.eq_zero_or_pos M with z | z
      · subst z; exact Nat.two_pow_pos _
      · exact Nat.lt_trans (Nat.lt_log2_self) (Nat.pow_lt_pow_right (by omega) (by omega))
    have h' : M < 2 ^ k := Nat.lt_of_lt_of_le h (Nat.pow_le_pow_right (by omega) c)
    rw [Nat.div_eq_of_lt h, Nat.div_eq_of_lt h', Nat.mod_eq_of_lt h, Nat.mod_eq_of_lt h']
    congr 2
    simp [bne, BEq.beq]

/-- The whole part of a double's magnitude, rounded down. -/
theorem integral_down {s : Bool} {M : Nat} {I : Int} {A : Nat} (hI : -1074 ≤ I) (hA : M * 2 ^ (I + 1074).toNat = A) :
    (Datum.number s M I).integral .down = .number s (A / one + (s && decide (A % one ≠ 0)).toNat) 0 := by
  show Datum.number s (Toward.down.cut s (M <<< I.toNat) (-I).toNat) 0 = _
  rw [cut_down, Nat.shiftLeft_eq]
  congr 1
  obtain ⟨j, hj⟩ : ∃ j : Nat, j = 1074 := ⟨_, rfl⟩
  rcases Int.le_total 0 I with c | c
  · have e : (I + 1074).toNat = I.toNat + j := by omega
    rw [e, Nat.pow_add, ← Nat.mul_assoc] at hA
    rw [show (-I).toNat = 0 by omega, Nat.pow_zero, Nat.div_one, Nat.mod_one, ← hA, one_pow hj, Nat.mul_div_cancel _ (Nat.two_pow_pos j), Nat.mul_mod_left]
  · obtain ⟨k, hk⟩ : ∃ k : Nat, k = (-I).toNat := ⟨_, rfl⟩
    have eo : one = 2 ^ k * 2 ^ (I + 1074).toNat := one_split (by omega)
    have p : 0 < 2 ^ (I + 1074).toNat := Nat.two_pow_pos _
    have hdec : decide (M % 2 ^ k * 2 ^ (I + 1074).toNat ≠ 0) = decide (M % 2 ^ k ≠ 0) := by
      generalize 2 ^ (I + 1074).toNat = P at *
      rw [decide_eq_decide]
      constructor
      · intro h h'; exact h (by rw [h', Nat.zero_mul])
      · intro h h'
        rcases Nat.mul_eq_zero.1 h' with x | x
        · exact h x
        · omega
    rw [show I.toNat = 0 by omega, Nat.pow_zero, Nat.mul_one, ← hk, ← hA, eo, Nat.mul_div_mul_right _ _ p, Nat.mul_mod_mul_right, hdec]

/-- The floor of a value. -/
def flV (a : Int) : Int := a / (one : Int) * (one : Int)

theorem fl_sign {O A : Nat} (hO : 0 < O) {s : Bool} {a : Int} (ha : a = (if s then -1 else 1) * (A : Int)) : (if s then -1 else 1) * (((A / O + (s && decide (A % O ≠ 0)).toNat) * O : Nat) : Int) = a / (O : Int) * (O : Int) := by
  have hd := Nat.div_add_mod A O
  have hr := Nat.mod_lt A hO
  have key : a / (O : Int) = (if s then -1 else 1) * ((A / O + (s && decide (A % O ≠ 0)).toNat : Nat) : Int) := by
    cases s with
    | false =>
      simp at ha ⊢
      rw [ha]
    | true =>
      generalize A / O = q at *
      generalize A % O = r at *
      simp only [if_true, Bool.true_and] at *
      have e : (A : Int) = (O : Int) * (q : Int) + (r : Int) := by rw [← Int.natCast_mul, ← Int.natCast_add, hd]
      rw [ha, e]
      by_cases z : r = 0
      · subst z
        have : (-1 : Int) * ((O : Int) * (q : Int) + ((0 : Nat) : Int)) = (O : Int) * (-(q : Int)) := by grind
        rw [this, Int.mul_ediv_cancel_left _ (by omega)]; simp
      · have : (-1 : Int) * ((O : Int) * (q : Int) + (r : Int)) = ((O : Int) - r) + (O : Int) * (-((q : Int) + 1)) := by grind
        rw [this, Int.add_mul_ediv_left _ _ (by omega), Int.ediv_eq_zero_of_lt (by omega) (by omega)]
        simp [z]
  rw [key, Int.natCast_mul, Int.mul_assoc]

theorem flV_sign {s : Bool} {A : Nat} {a : Int} (ha : a = (if s then -1 else 1) * (A : Int)) : (if s then -1 else 1) * (((A / one + (s && decide (A % one ≠ 0)).toNat) * one : Nat) : Int) = flV a := fl_sign one_pos ha

theorem whole_small {O A c : Nat} (hO : 0 < O) (h : c = A / O ∨ c = A / O + 1) : c * O ≤ A + O := by
  have hd := Nat.div_add_mod A O
  rcases h with rfl | rfl
  · rw [Nat.mul_comm]; omega
  · rw [Nat.succ_mul, Nat.mul_comm]; omega

/-- The word of a floor. -/
def flW (x : Nat) : Nat := ((Go.floatToFloatBits .f32 x .f64).bind fun X => Go.floatToFloatBits .f64 (double.write ((double.read X).integral .down)) .f32).getD 0

theorem floor_parts2 {x : Nat} {a : Int} {k : Nat} (h : vS x = some a) (hb : Bd k x) (hk : k ≤ 124) :
    ∃ X s M I F, Go.floatToFloatBits .f32 x .f64 = some X ∧ double.read X = .number s M I ∧ double.write ((double.read X).integral .down) = F ∧ Go.floatToFloatBits .f64 F .f32 = some (flW x) ∧ vS (flW x) = some (flV a) := by
  obtain ⟨s, m, p, e, rfl⟩ := vS_some h
  obtain ⟨X, M, I, c1, c2, c3, c4, _⟩ := toD e
  obtain ⟨A, hA⟩ : ∃ A, A = m * 2 ^ (p + 1074).toNat := ⟨_, rfl⟩
  have hv : vOf s m p = (if s then -1 else 1) * (A : Int) := by unfold vOf; rw [signed_eq, hA]
  have hbA : A ≤ 2 ^ (1074 + k) := by
    obtain ⟨s', m', p', e', b'⟩ := hb
    rw [e] at e'; cases e'
    rw [hA]; exact b'
  obtain ⟨t, j, ht, hj, hform⟩ := vS_form h
  have hAf : A = t.natAbs * 2 ^ j := by
    have := congrArg Int.natAbs hform
    rw [hv, Int.natAbs_mul, Int.natAbs_mul, Int.natAbs_natCast, Int.natAbs_natCast] at this
    cases s <;> simpa using this
  rw [← hA] at c4
  have hi := integral_down (s := s) c3 c4
  obtain ⟨c, hc⟩ : ∃ c, c = A / one + (s && decide (A % one ≠ 0)).toNat := ⟨_, rfl⟩
  rw [← hc] at hi
  obtain ⟨J, hJ⟩ : ∃ J : Nat, J = 1074 := ⟨_, rfl⟩
  have hw : double.write ((double.read X).integral .down) = wordAt double 0 s (c * one) := by
    rw [c2, hi]
    show double.nearest s c 0 = _
    rw [nearest_val double s (-1074) 0 leastD c (p := 0) (by omega), one_pow hJ, show ((0 : Int) - (-1074)).toNat = J by omega]
  -- the magnitude of the floor is a single's
  have hrep : ∃ u i, u < 16777216 ∧ 925 ≤ i ∧ c * one = u * 2 ^ i := by
    by_cases z : A % one = 0
    · refine ⟨t.natAbs, j, ht, hj, ?_⟩
      rw [← hAf, hc, z]
      have := Nat.div_add_mod A one
      rw [z, Nat.add_zero, Nat.mul_comm] at this
      simp [this]
    · have hj2 : j < J := by
        rcases Nat.lt_or_ge j J with q | q
        · exact q
        · exfalso; apply z
          have : A = t.natAbs * 2 ^ (j - J) * one := by rw [hAf, one_pow hJ, Nat.mul_assoc, ← Nat.pow_add, Nat.sub_add_cancel q]
          rw [this, Nat.mul_mod_left]
      have hlt : A < 8388608 * one := by
        have e1 : one = 2 * 2 ^ (J - 1) := by rw [one_pow hJ, ← Nat.pow_succ']; congr 1; omega
        rw [hAf, e1]
        have e2 : 2 ^ j ≤ 2 ^ (J - 1) := Nat.pow_le_pow_right (by omega) (by omega)
        have p1 : 0 < 2 ^ (J - 1) := Nat.two_pow_pos _
        calc t.natAbs * 2 ^ j ≤ t.natAbs * 2 ^ (J - 1) := Nat.mul_le_mul_left _ e2
          _ < 16777216 * 2 ^ (J - 1) := Nat.mul_lt_mul_of_pos_right ht p1
          _ = 8388608 * (2 * 2 ^ (J - 1)) := by rw [← Nat.mul_assoc]
      refine ⟨c, J, ?_, by omega, by rw [one_pow hJ]⟩
      have hq : A / one < 8388608 := Nat.div_lt_of_lt_mul (by rw [Nat.mul_comm]; exact hlt)
      have hb1 : (s && decide (A % one ≠ 0)).toNat ≤ 1 := Bool.toNat_le _
      generalize A / one = Q at *
      generalize (s && decide (A % one ≠ 0)).toNat = B1 at *
      omega
  obtain ⟨u, i, hu, hi2, hcu⟩ := hrep
  have hV : c * one < 2 ^ (1074 + k + 1 + 1) := by
    have hb1 : c = A / one ∨ c = A / one + 1 := by
      rw [hc]; cases (s && decide (A % one ≠ 0)) <;> simp
    have h1 := whole_small one_pos hb1
    have h2 : one ≤ 2 ^ (1074 + k) := by rw [one_pow hJ]; exact Nat.pow_le_pow_right (by omega) (by omega)
    rw [Nat.pow_succ, Nat.pow_succ]
    have p1 : 0 < 2 ^ (1074 + k) := Nat.two_pow_pos _
    generalize 2 ^ (1074 + k) = T at *
    generalize c * one = CO at *
    generalize one = O at *
    omega
  have hround : sRung (dVal (c * one)) = sRung (c * one) := by
    rw [hcu]; exact exact_round (Nat.lt_of_lt_of_le hu (by decide))
  have hback := back (sg := s) hV (by omega) hround
  have hfl : flW x = wordAt single 925 s (c * one) := by
    unfold flW
    rw [c1]
    show (Go.floatToFloatBits .f64 (double.write ((double.read X).integral .down)) .f32).getD 0 = _
    rw [hw, hback]; rfl
  refine ⟨X, s, M, I, _, c1, c2, rfl, by rw [hw, hback, hfl], ?_⟩
  rw [hfl, vS_word hV (by omega), hcu, rd_exact single 925 u i (by rw [fbS]; exact hu) hi2, ← hcu, hc, flV_sign hv]

theorem floor_parts {x : Nat} {a : Int} {k : Nat} (h : vS x = some a) (hb : Bd k x) (hk : k ≤ 50) :
    ∃ X s M I F, Go.floatToFloatBits .f32 x .f64 = some X ∧ double.read X = .number s M I ∧ double.write ((double.read X).integral .down) = F ∧ Go.floatToFloatBits .f64 F .f32 = some (flW x) ∧ vS (flW x) = some (flV a) := floor_parts2 h hb (by omega)

end Go.Proofs.Ytkcehbnmcdppkaa.Fl

/- Contracts: math.Floor, and the floors of both sides. -/
namespace Go.Proofs.Ytkcehbnmcdppkaa
open Go.RowKit Fl
set_option linter.unusedVariables false

theorem toIntegral_num (X : Nat) (d : Ieee.Datum) (h : FloatKind.f64.decode X = d) (hd : ∃ s M I, d = .number s M I) :
    Extern.MathFloor.toIntegral "math.archFloor" .down #[.float .f64 X] = pure (.float .f64 (FloatKind.f64.encode (d.integral .down))) := by
  obtain ⟨s, M, I, rfl⟩ := hd
  conv => lhs; whnf
  rw [h]

theorem archFloor_num (X : Nat) (s : Bool) (M : Nat) (I : Int) (h : Ieee.double.read X = .number s M I) (w : World) :
    (callFunc 186 #[.float .f64 X]).run Try.prog w = .ok (.value (.float .f64 (Ieee.double.write ((Ieee.double.read X).integral .down)))) w := by
  rw [run_callFunc_extern Try.func186 (by kernel_rfl) (by kernel_rfl) (by kernel_rfl) (e := Extern.MathFloor.toIntegral "math.archFloor" .down) (by kernel_rfl), toIntegral_num X _ rfl ⟨s, M, I, h⟩]
  rfl

set_option maxHeartbeats 400000 in
theorem mathFloor_num (X F : Nat) (s : Bool) (M : Nat) (I : Int) (h : Ieee.double.read X = .number s M I) (hF : Ieee.double.write ((Ieee.double.read X).integral .down) = F) (w : World) :
    Calls Try.prog 171 #[.float .f64 X] w fun e w' => e = .returned (.float .f64 F) ∧ w = w' := by
  have a1 := archFloor_num X s M I h
  rw [hF] at a1
  clear h hF
  go_enter Try.func171, Try.ntmps171
  go_wp2
  go_ret
  exact ⟨rfl, rfl⟩

set_option maxHeartbeats 400000 in
theorem floor_any (x k : Nat) (a : Int) (h : vS x = some a) (hb : Bd k x) (hk : k ≤ 50) (w : World) :
    Calls Try.prog 137 #[.float .f32 x] w fun e w' => e = .returned (.float .f32 (flW x)) ∧ w = w' := by
  obtain ⟨X, s, M, I, F, c1, c2, c3, c4, _⟩ := floor_parts h hb hk
  have d1 := fun (W : World) => run_convert_float_float (P := Try.prog) W 22 32 .f32 .f64 x X (by kernel_rfl) Try.underlying32 c1
  have d2 := fun (W : World) => run_convert_float_float (P := Try.prog) W 32 22 .f64 .f32 F (flW x) (by kernel_rfl) Try.underlying22 c4
  have MF := Lib.hid (fun w => mathFloor_num X F s M I c2 c3 w)
  clear c1 c2 c3 c4 h hb
  go_enter Try.func137, Try.ntmps137
  go_wp2_with (go_at_call 171; refine (MF.out _).mono ?_; rintro e w' ⟨rfl, rfl⟩)
  go_ret
  exact ⟨rfl, rfl⟩

end Go.Proofs.Ytkcehbnmcdppkaa

/- Contracts: Hash, Unit, Signed of both sides. -/
namespace Go.Proofs.Ytkcehbnmcdppkaa
open Go.RowKit Fl
set_option linter.unusedVariables false

/-- Exclusive or of two words of 32 bits. -/
def xorU (a b : Int) : Int := bits .xor .u32 a b
theorem xorU_in (a b : Int) : 0 ≤ xorU a b ∧ xorU a b < 4294967296 := by
  unfold xorU bits; simp only [IntKind.wrap_u32]; omega
def stA (h : Int) : Int := xorU h (h / 65536) * 2246822507 % 4294967296
def stB (h : Int) : Int := xorU h (h / 8192) * 3266489909 % 4294967296
def stC (h : Int) : Int := xorU h (h / 65536)
/-- Stirred once. -/
def stirI (h : Int) : Int := stC (stB (stA h))
theorem stirI_in (h : Int) : 0 ≤ stirI h ∧ stirI h < 4294967296 := xorU_in _ _
/-- The state behind one more whole number. -/
def stepI (h n : Int) : Int := stirI (xorU h (n % 4294967296))
theorem stepI_in (h n : Int) : 0 ≤ stepI h n ∧ stepI h n < 4294967296 := stirI_in _
def hashI (s x y n : Int) : Int := stepI (stepI (stepI s x) y) n
theorem hashI_in (s x y n : Int) : 0 ≤ hashI s x y n ∧ hashI s x y n < 4294967296 := stepI_in _ _

set_option maxHeartbeats 400000 in
theorem refConv_any (n : Int) (w : World) :
    Calls Try.prog 102 #[.int .i64 n] w fun e w' => e = .returned (.float .f32 (floatOfInt .f32 n)) ∧ w = w' := by
  go_enter Try.func102, Try.ntmps102
  go_wp2
  go_ret
  exact ⟨rfl, rfl⟩

/-- The reference's rounds: the place and the state. -/
inductive HashAt (s x y n : Int) : Value → Value → Prop where
  | z : HashAt s x y n (.int .u32 s) (.int .i64 0)
  | a : HashAt s x y n (.int .u32 (stepI s x)) (.int .i64 1)
  | b : HashAt s x y n (.int .u32 (stepI (stepI s x) y)) (.int .i64 2)
  | c : HashAt s x y n (.int .u32 (hashI s x y n)) (.int .i64 3)

end Go.Proofs.Ytkcehbnmcdppkaa

/- Contracts: CheckWithin; Ease of both sides; the reference's operations of any words at all. -/
namespace Go.Proofs.Ytkcehbnmcdppkaa
open Go.RowKit Fl
set_option linter.unusedVariables false

/-- The error of a single that should be from a to b. -/
def wiE (x a b : Nat) : Int := if finB x = false then 2 else if (FloatKind.f32.format.order x a == some .lt) = true ∨ (FloatKind.f32.format.order x b == some .gt) = true then 3 else 0

set_option maxHeartbeats 400000 in
theorem checkWithin_any (x a b : Nat) (w : World) :
    Calls Try.prog 127 #[.float .f32 x, .float .f32 a, .float .f32 b] w fun e w' => e = .returned (.int .i64 (wiE x a b)) ∧ w = w' := by
  have IH := Lib.hid (fun w => isFinite_any x w)
  unfold wiE
  cases hf : finB x with
  | false =>
    rw [hf] at IH
    clear hf
    go_enter Try.func127, Try.ntmps127
    go_wp2_with (go_at_call 135; refine (IH.out _).mono ?_; rintro e w' ⟨rfl, rfl⟩)
    go_ret
    exact ⟨ret_int rfl, rfl⟩
  | true =>
    rw [hf] at IH
    clear hf
    cases h1 : (FloatKind.f32.format.order x a == some .lt) with
    | true =>
      go_enter Try.func127, Try.ntmps127
      go_wp2_with (go_at_call 135; refine (IH.out _).mono ?_; rintro e w' ⟨rfl, rfl⟩)
      go_ret
      exact ⟨ret_int rfl, rfl⟩
    | false =>
      cases h2 : (FloatKind.f32.format.order x b == some .gt) with
      | true =>
        go_enter Try.func127, Try.ntmps127
        go_wp2_with (go_at_call 135; refine (IH.out _).mono ?_; rintro e w' ⟨rfl, rfl⟩)
        go_ret
        exact ⟨ret_int rfl, rfl⟩
      | false =>
        go_enter Try.func127, Try.ntmps127
        go_wp2_with (go_at_call 135; refine (IH.out _).mono ?_; rintro e w' ⟨rfl, rfl⟩)
        go_ret
        exact ⟨ret_int rfl, rfl⟩

theorem choose_loose (q : Question) (k : FloatKind) (w : World) : ∃ r n, ((do pure (Value.float k (← choose q))) : Sem Value).run Try.prog w = .ok (.float k r) (w.drewN n) := by
  by_cases h : q.forced = true
  · exact ⟨0, 0, by simp [h, World.drewN]⟩
  · exact ⟨q.cut (w.tape w.drawn q), 1, by simp [h]; rfl⟩

theorem conv_loose (src dst : TypeId) (s k : FloatKind) (b : Nat) (hs : (Try.prog.underlying src).isSome = true) (hd : Try.prog.underlying dst = some (.float k)) (w : World) :
    ∃ r n, (convert src dst (.float s b)).run Try.prog w = .ok (.float k r) (w.drewN n) := by
  obtain ⟨u, hs'⟩ := Option.isSome_iff_exists.1 hs
  have key : ∃ r n, (Conv.floatToFloat s b k).run Try.prog w = .ok (.float k r) (w.drewN n) := by
    unfold Conv.floatToFloat
    by_cases e : s = k
    · exact ⟨b, 0, by simp [e, World.drewN]⟩
    · rw [if_neg e]
      cases hd : s.decode b with
      | nan g f => exact choose_loose _ k w
      | infinity g => exact ⟨_, 0, rfl⟩
      | number g m i =>
        simp only
        split
        · exact choose_loose _ k w
        · exact ⟨_, 0, rfl⟩
  obtain ⟨r, n, h⟩ := key
  refine ⟨r, n, ?_⟩
  rw [← h]
  cases u <;> simp [convert, run_underlying hs', run_underlying hd]

theorem arith_loose (op : BinOp) (t : TypeId) (k : FloatKind) (x y : Nat) (ho : op = .add ∨ op = .sub ∨ op = .mul) (w : World) :
    ∃ r n, (binOp op t (.float k x) (.float k y)).run Try.prog w = .ok (.float k r) (w.drewN n) := by
  cases h : floatBits op k x y with
  | some r => exact ⟨r, 0, run_float_arith w op t k x y r h⟩
  | none =>
    obtain ⟨r, n, c⟩ := choose_loose (.nanBits k x y) k w
    refine ⟨r, n, ?_⟩
    rw [← c]
    unfold floatBits at h
    rcases ho with rfl | rfl | rfl
    all_goals simp only at h
    all_goals simp [binOp, Op.floatArith, h]

/-- Some single; the world has drawn at most. -/
def LooseF (w : World) (e : Ending) (w' : World) : Prop := ∃ r n, e = .returned (.float .f32 r) ∧ w' = w.drewN n

theorem drewN_two (w : World) (a b : Nat) : (w.drewN a).drewN b = w.drewN (a + b) := by simp [World.drewN, Nat.add_assoc]

set_option maxHeartbeats 400000 in
theorem refMul_loose (x y : Nat) (w : World) : Calls Try.prog 94 #[.float .f32 x, .float .f32 y] w (LooseF w) := by
  obtain ⟨X, n1, c1⟩ := conv_loose 22 32 .f32 .f64 x (by kernel_rfl) Try.underlying32 w
  obtain ⟨Y, n2, c2⟩ := conv_loose 22 32 .f32 .f64 y (by kernel_rfl) Try.underlying32 (w.drewN n1)
  obtain ⟨Z, n3, c3⟩ := arith_loose .mul 32 .f64 X Y (by simp) (w.drewN (n1 + n2))
  obtain ⟨r, n4, c4⟩ := conv_loose 32 22 .f64 .f32 Z (by kernel_rfl) Try.underlying22 (w.drewN (n1 + n2 + n3))
  go_enter Try.func94, Try.ntmps94
  go_wp2
  go_ret
  exact ⟨r, n1 + n2 + n3 + n4, rfl, rfl⟩

end Go.Proofs.Ytkcehbnmcdppkaa

/- Dither and Speckle of one cell, as words; what the steps come to. -/
namespace Go.Proofs.Ytkcehbnmcdppkaa
open Go.RowKit Fl
set_option linter.unusedVariables false

theorem div_val {x y k : Nat} {a b : Int} (hx : vS x = some a) (hy : vS y = some b) (hb : b ≠ 0) (hk : k ≤ 120) (h : a.natAbs ≤ b.natAbs * 2 ^ k) : Same2 .quo k x y := by
  obtain ⟨s, m, i, e1, rfl⟩ := vS_some hx
  obtain ⟨t, n, j, e2, rfl⟩ := vS_some hy
  have n1 : (vOf s m i).natAbs = m * 2 ^ (i + 1074).toNat := by unfold vOf; rw [signed_eq, Int.natAbs_mul, Int.natAbs_natCast]; cases s <;> simp
  have n2 : (vOf t n j).natAbs = n * 2 ^ (j + 1074).toNat := by unfold vOf; rw [signed_eq, Int.natAbs_mul, Int.natAbs_natCast]; cases t <;> simp
  refine div_same hk e1 e2 ?_ (by rw [← n1, ← n2]; exact h)
  rcases Nat.eq_zero_or_pos n with z | z
  · exfalso; apply hb; subst z
    have : (vOf t 0 j).natAbs = 0 := by rw [n2]; simp
    omega
  · exact z

theorem vS_lo {j : Nat} (hj : j = 1064) : vS 981467136 = some ((2 ^ j : Nat) : Int) := by
  have h : Ieee.single.read 981467136 = .number false 8388608 (-33) := by decide
  rw [vS_lit (t := 1) (k := 23) (j := j) h (by decide) (by rw [hj]; decide)]; simp
theorem vS_hi {j : Nat} (hj : j = 1084) : vS 1149239296 = some ((2 ^ j : Nat) : Int) := by
  have h : Ieee.single.read 1149239296 = .number false 8388608 (-13) := by decide
  rw [vS_lit (t := 1) (k := 23) (j := j) h (by decide) (by rw [hj]; decide)]; simp

/-- A right step: its value is from 2 ^ -10 to 2 ^ 10. -/
def StepOk (st : Nat) : Prop := ∃ b, vS st = some b ∧ (one : Int) ≤ 1024 * b ∧ b ≤ 1024 * (one : Int)
theorem step_ok {st : Nat} (h : wiE st 981467136 1149239296 = 0) : StepOk st := by
  unfold wiE at h
  by_cases hf : finB st = false
  · rw [if_pos hf] at h; cases h
  · rw [if_neg hf] at h
    split at h
    · cases h
    · rename_i c
      obtain ⟨a, ha⟩ := Option.isSome_iff_exists.1 (show (vS st).isSome = true by simpa [finB, Option.isSome_iff_ne_none] using hf)
      obtain ⟨j, hj⟩ : ∃ j : Nat, j = 1064 := ⟨_, rfl⟩
      have hj' : j + 20 = 1084 := by omega
      rw [show FloatKind.f32.format = Ieee.single from rfl, lss_val ha (vS_lo hj), gtr_val ha (vS_hi hj')] at c
      refine ⟨a, ha, ?_⟩
      have e1 : one = 1024 * 2 ^ j := by rw [one_split (a := 10) (j := j) (by omega)]
      have e2 : 2 ^ (j + 20) = 1048576 * 2 ^ j := by rw [Nat.pow_add, Nat.mul_comm]
      rw [e2] at c
      rw [e1]
      generalize 2 ^ j = U at *
      simp at c
      omega
theorem step_bd {st : Nat} (h : StepOk st) : Bd 11 st := by
  obtain ⟨b, hb, h1, h2⟩ := h
  obtain ⟨J, hJ⟩ : ∃ J : Nat, J = 1074 := ⟨_, rfl⟩
  refine bd_val' (j := 11 + J) hb (by omega) ?_
  have e : 2 ^ (11 + J) = 2048 * one := by rw [one_pow hJ, Nat.pow_add]
  have := one_pos
  rw [e]
  generalize one = O at *
  omega

theorem hgt_val {x : Nat} (h : hgtB x = true) : ∃ a, vS x = some a ∧ a.natAbs ≤ 1048576 * one := by
  obtain ⟨a, ha, hb⟩ := val_bd (hgt_bd h)
  refine ⟨a, ha, ?_⟩
  obtain ⟨J, hJ⟩ : ∃ J : Nat, J = 1074 := ⟨_, rfl⟩
  have e : 2 ^ (1074 + 20) = 1048576 * one := by
    rw [one_pow hJ, show 1074 + 20 = 20 + J by omega, Nat.pow_add]
  rwa [e] at hb

theorem flV_near (a : Int) : flV a ≤ a ∧ a < flV a + (one : Int) := by
  have hp : (0 : Int) < (one : Int) := Int.natCast_pos.2 one_pos
  unfold flV
  have h1 := Int.ediv_mul_le a (Int.ne_of_gt hp)
  have h2 := Int.lt_ediv_add_one_mul_self a hp
  rw [Int.add_mul, Int.one_mul] at h2
  exact ⟨h1, h2⟩

/-- The quotient that Dither makes. -/
def dthQ (v st : Nat) : Nat := (floatBits .quo .f32 v st).getD 0
/-- What Dither makes of a cell, by the word of its hash. -/
def dthW (v st : Nat) (h : Int) : Nat :=
  (floatBits .mul .f32 (if (FloatKind.f32.format.order (unitW h) ((floatBits .sub .f32 (dthQ v st) (flW (dthQ v st))).getD 0) == some .lt) = true then (floatBits .add .f32 (flW (dthQ v st)) 1065353216).getD 0 else flW (dthQ v st)) st).getD 0

structure DthAt (v st : Nat) (h : Int) (q d : Nat) (c : Bool) (j r : Nat) : Prop where
  q1 : floatBits .quo .f32 v st = some q
  q2 : Same2 .quo 30 v st
  fq : ∃ a, vS q = some a
  bq : Bd 30 q
  d1 : floatBits .sub .f32 q (flW q) = some d
  d2 : Same2 .sub 32 q (flW q)
  c1 : (FloatKind.f32.format.order (unitW h) d == some .lt) = c
  j1 : c = true → floatBits .add .f32 (flW q) 1065353216 = some j
  j2 : c = true → Same2 .add 32 (flW q) 1065353216
  j3 : c = false → j = flW q
  r1 : floatBits .mul .f32 j st = some r
  r2 : Same2 .mul 43 j st
  w : dthW v st h = r
  lt : r < 4294967296

theorem fl_bd {q k : Nat} (h : Bd k q) (hk : k ≤ 50) : Bd (k + 1) (flW q) := by
  obtain ⟨a, ha, hb⟩ := val_bd h
  obtain ⟨_, _, _, _, _, _, _, _, _, hv⟩ := floor_parts ha h hk
  refine bd_val hv ?_
  obtain ⟨h1, h2⟩ := flV_near a
  obtain ⟨J, hJ⟩ : ∃ J : Nat, J = 1074 := ⟨_, rfl⟩
  have e : one ≤ 2 ^ (1074 + k) := by rw [one_pow hJ]; exact Nat.pow_le_pow_right (by omega) (by omega)
  rw [show 1074 + (k + 1) = 1074 + k + 1 by omega, Nat.pow_succ]
  generalize 2 ^ (1074 + k) = T at *
  generalize one = O at *
  omega

theorem bd_one (k : Nat) : Bd k 1065353216 := by
  obtain ⟨J, hJ⟩ : ∃ J : Nat, J = 1074 := ⟨_, rfl⟩
  refine bd_val vS_one ?_
  rw [Int.natAbs_natCast, one_pow hJ]; exact Nat.pow_le_pow_right (by omega) (by omega)

theorem dth_parts {v st : Nat} (h : Int) (hv : hgtB v = true) (hs : StepOk st) : ∃ q d c j r, DthAt v st h q d c j r := by
  obtain ⟨a, ha, hab⟩ := hgt_val hv
  have hs' := hs
  obtain ⟨b, hb, hb1, hb2⟩ := hs'
  have op := one_pos
  have q2 : Same2 .quo 30 v st := by
    refine div_val ha hb ?_ (by omega) ?_
    · generalize one = O at *; omega
    · rw [show (2 : Nat) ^ 30 = 1073741824 by decide]; generalize one = O at *; omega
  obtain ⟨_, _, _, q, _, _, _, _, q1, bq⟩ := q2.ex
  obtain ⟨aq, haq, _⟩ := val_bd bq
  have bf := fl_bd bq (by omega)
  have d2 : Same2 .sub 32 q (flW q) := sub_same (k := 31) (by omega) (bd_up bq (by omega)) bf
  obtain ⟨_, _, _, d, _, _, _, _, d1, _⟩ := d2.ex
  have j2 : Same2 .add 32 (flW q) 1065353216 := add_same (k := 31) (by omega) bf (bd_one 31)
  obtain ⟨_, _, _, j, _, _, _, _, j1, bj⟩ := j2.ex
  have eq : dthQ v st = q := by unfold dthQ; rw [q1]; rfl
  cases hc : (FloatKind.f32.format.order (unitW h) d == some .lt) with
  | true =>
    have r2 : Same2 .mul (32 + 11) j st := mul_same (by omega) bj (step_bd hs)
    obtain ⟨_, _, _, r, _, _, _, _, r1, _⟩ := r2.ex
    refine ⟨q, d, true, j, r, q1, q2, ⟨aq, haq⟩, bq, d1, d2, hc, fun _ => j1, fun _ => j2, (fun h => by cases h), r1, r2, ?_, opt_lt (d := (Ieee.single.read j).product (Ieee.single.read st)) r1⟩
    unfold dthW
    rw [eq, d1]
    show (floatBits .mul .f32 (if (FloatKind.f32.format.order (unitW h) d == some .lt) = true then (floatBits .add .f32 (flW q) 1065353216).getD 0 else flW q) st).getD 0 = r
    rw [if_pos hc, j1]
    show (floatBits .mul .f32 j st).getD 0 = r
    rw [r1]; rfl
  | false =>
    have r2 : Same2 .mul (32 + 11) (flW q) st := mul_same (by omega) (bd_up bf (by omega)) (step_bd hs)
    obtain ⟨_, _, _, r, _, _, _, _, r1, _⟩ := r2.ex
    refine ⟨q, d, false, flW q, r, q1, q2, ⟨aq, haq⟩, bq, d1, d2, hc, (fun h => by cases h), (fun h => by cases h), fun _ => rfl, r1, r2, ?_, opt_lt (d := (Ieee.single.read (flW q)).product (Ieee.single.read st)) r1⟩
    unfold dthW
    rw [eq, d1]
    show (floatBits .mul .f32 (if (FloatKind.f32.format.order (unitW h) d == some .lt) = true then (floatBits .add .f32 (flW q) 1065353216).getD 0 else flW q) st).getD 0 = r
    rw [if_neg (by rw [hc]; simp), r1]; rfl

/-- What Speckle makes of a cell. -/
def spkW (st : Nat) (h : Int) : Nat := if (FloatKind.f32.format.order (unitW h) st == some .lt) = true then 1065353216 else 0

/-- The place of a cell by its number. -/
theorem place_of {X Y x y : Int} {W i : Nat} (hW : 1 ≤ W) (h1 : X ≤ x) (h2 : x < X + W) (h3 : Y ≤ y) (hi : (i : Int) = (y - Y) * W + (x - X)) : X + ((i % W : Nat) : Int) = x ∧ Y + ((i / W : Nat) : Int) = y := by
  obtain ⟨a, ha⟩ := Int.eq_ofNat_of_zero_le (show 0 ≤ x - X by omega)
  obtain ⟨b, hb⟩ := Int.eq_ofNat_of_zero_le (show 0 ≤ y - Y by omega)
  rw [ha, hb, ← Int.natCast_mul, ← Int.natCast_add] at hi
  have hi' : i = b * W + a := Int.ofNat.inj hi
  have ha' : a < W := by omega
  have e1 : i % W = a := by rw [hi', Nat.mul_comm, Nat.mul_add_mod, Nat.mod_eq_of_lt ha']
  have e2 : i / W = b := by rw [hi', Nat.mul_comm, Nat.mul_add_div (by omega), Nat.div_eq_of_lt ha']; rfl
  rw [e1, e2]; omega

set_option maxHeartbeats 400000 in
theorem refDiv_any (k x y r : Nat) (h : Same2 .quo k x y) (hr : floatBits .quo .f32 x y = some r) (w : World) :
    Calls Try.prog 101 #[.float .f32 x, .float .f32 y] w fun e w' => e = .returned (.float .f32 r) ∧ w = w' := by
  obtain ⟨X, Y, Z, r', h1, h2, h3, h4, h5, _⟩ := h.ex
  rw [hr] at h5
  have h5 := Option.some.inj h5
  subst h5
  have c1 := fun (W : World) => run_convert_float_float (P := Try.prog) W 22 32 .f32 .f64 x X (by kernel_rfl) Try.underlying32 h1
  have c2 := fun (W : World) => run_convert_float_float (P := Try.prog) W 22 32 .f32 .f64 y Y (by kernel_rfl) Try.underlying32 h2
  have c3 := fun (W : World) => run_float_arith (P := Try.prog) W .quo 32 .f64 X Y Z h3
  have c4 := fun (W : World) => run_convert_float_float (P := Try.prog) W 32 22 .f64 .f32 Z r (by kernel_rfl) Try.underlying22 h4
  clear h1 h2 h3 h4 hr h
  go_enter Try.func101, Try.ntmps101
  go_wp2
  go_ret
  exact ⟨rfl, rfl⟩

end Go.Proofs.Ytkcehbnmcdppkaa

/- Contracts: Divide of the program, quotient of the reference; the share of a rest. -/
namespace Go.Proofs.Ytkcehbnmcdppkaa
open Go.RowKit Fl
set_option linter.unusedVariables false

/-- The share of a rest, as a word. -/
def shW (r b : Int) : Nat := (floatBits .quo .f32 (floatOfInt .f32 r) (floatOfInt .f32 b)).getD 0
/-- int_val, up to 2 ^ 24 itself. -/
theorem int_val' {n : Int} (h : n.natAbs ≤ 16777216) : vS (Go.floatOfInt .f32 n) = some (n * (one : Int)) := by
  rcases Nat.lt_or_ge n.natAbs 16777216 with c | c
  · exact (int_val c).1
  · obtain ⟨j, hj⟩ : ∃ j : Nat, j = 1074 := ⟨_, rfl⟩
    have e : 2 ^ (25 + j) = 33554432 * one := by rw [one_pow hj, Nat.pow_add]
    have p := one_pos
    have hn : (n * (one : Int)).natAbs < 2 ^ (25 + j) := by
      rw [Int.natAbs_mul, Int.natAbs_natCast, e]
      exact Nat.mul_lt_mul_of_pos_right (by omega) p
    have v := vS_int hn (by omega)
    obtain ⟨t, ht⟩ : ∃ t, t = n / 2 := ⟨_, rfl⟩
    have ht2 : n = t * 2 := by omega
    rw [rdS_exact t (j + 1) (by omega) (by omega) (by rw [ht2, one_pow hj, Nat.pow_succ, Int.natCast_mul, Int.mul_assoc, Int.mul_comm 2]; rfl)] at v
    exact v
theorem sh_parts {r b : Int} (r0 : 0 ≤ r) (r1 : r < b) (b2 : b ≤ 16777216) : floatBits .quo .f32 (floatOfInt .f32 r) (floatOfInt .f32 b) = some (shW r b) ∧ Same2 .quo 0 (floatOfInt .f32 r) (floatOfInt .f32 b) ∧ Bd 1 (shW r b) := by
  obtain ⟨vr, _⟩ := int_val (n := r) (by omega)
  have vb := int_val' (n := b) (by omega)
  have hp := one_pos
  have hb : (b * (one : Int)) ≠ 0 := by
    have := Int.mul_pos (show 0 < b by omega) (Int.natCast_pos.2 hp); omega
  have S : Same2 .quo 0 (floatOfInt .f32 r) (floatOfInt .f32 b) := div_val vr vb hb (by omega) (by
    rw [Nat.pow_zero, Nat.mul_one, Int.natAbs_mul, Int.natAbs_mul, Int.natAbs_natCast]
    exact Nat.mul_le_mul_right _ (by omega))
  obtain ⟨_, _, _, s, _, _, _, _, e, bs⟩ := S.ex
  have hs : shW r b = s := by unfold shW; rw [e]; rfl
  rw [hs]
  exact ⟨e, S, bd_up bs (by omega)⟩

theorem tparts (a b : Int) (b1 : 1 ≤ b) : a = b * a.tdiv b + a.tmod b ∧ -b < a.tmod b ∧ a.tmod b < b := by
  have h := Int.mul_tdiv_add_tmod a b
  have n : (a.tmod b).natAbs = a.natAbs % b.natAbs := Int.natAbs_tmod a b
  have l := Nat.mod_lt a.natAbs (show 0 < b.natAbs by omega)
  exact ⟨by omega, by omega, by omega⟩

theorem tquo_bd {a b : Int} (b1 : 1 ≤ b) (a1 : -1099511627776 ≤ a) (a2 : a ≤ 1099511627776) : -1099511627776 ≤ a.tdiv b ∧ a.tdiv b ≤ 1099511627776 := by
  have n : (a.tdiv b).natAbs = a.natAbs / b.natAbs := Int.natAbs_tdiv a b
  have l := Nat.div_le_self a.natAbs b.natAbs
  omega

end Go.Proofs.Ytkcehbnmcdppkaa

/- The error of a single that should lie between two others, by the tests of the reference. -/
namespace Go.Proofs.Ytkcehbnmcdppkaa
open Go.RowKit Fl
set_option linter.unusedVariables false

/-- The error of a single that should be from lo to hi, told by the reference's tests. -/
def WithinCases (st lo hi : Nat) : Prop :=
    ((fldE 1 (fun _ => st) = 2 ∨ fldE 1 (fun _ => st) = 3) ∧ wiE st lo hi = fldE 1 (fun _ => st)) ∨
    (fldE 1 (fun _ => st) = 0 ∧ wiE st lo hi = 3 ∧ (FloatKind.f32.format.order st lo == some .lt) = true) ∨
    (fldE 1 (fun _ => st) = 0 ∧ wiE st lo hi = 3 ∧ (FloatKind.f32.format.order st lo == some .lt) = false ∧ (FloatKind.f32.format.order st hi == some .gt) = true) ∨
    (fldE 1 (fun _ => st) = 0 ∧ wiE st lo hi = 0 ∧ (FloatKind.f32.format.order st lo == some .lt) = false ∧ (FloatKind.f32.format.order st hi == some .gt) = false)
theorem within_cases {st lo hi : Nat} {l h : Int} (hl : vS lo = some l) (hh : vS hi = some h) (l1 : -vTop ≤ l) (h1 : h ≤ vTop) : WithinCases st lo hi := by
  unfold WithinCases
  cases hf : finB st with
  | false =>
    have e : fldE 1 (fun _ => st) = 2 := by simp [fldE, allB, List.range_succ, hf]
    exact .inl ⟨.inl e, by rw [e]; unfold wiE; rw [if_pos hf]⟩
  | true =>
    obtain ⟨a, ha⟩ := Option.isSome_iff_exists.1 (show (vS st).isSome = true from hf)
    have l0 := lss_val ha hl
    have g1 := gtr_val ha hh
    rw [← f32f] at l0 g1
    have hw : ((FloatKind.f32.format.order st lo == some .lt) = true ∨ (FloatKind.f32.format.order st hi == some .gt) = true) → wiE st lo hi = 3 := fun c => by
      unfold wiE; rw [if_neg (by rw [hf]; simp), if_pos c]
    cases hgt : hgtB st with
    | false =>
      have e : fldE 1 (fun _ => st) = 3 := by simp [fldE, hgtE, allB, List.range_succ, hf, hgt]
      refine .inl ⟨.inr e, ?_⟩
      rw [e]
      refine hw ?_
      unfold hgtB at hgt
      rw [ha] at hgt
      rw [l0, g1]
      simp at hgt ⊢
      omega
    | true =>
      have e : fldE 1 (fun _ => st) = 0 := fldE_one_ok hgt
      cases c1 : (FloatKind.f32.format.order st lo == some .lt) with
      | true => exact .inr (.inl ⟨e, hw (.inl c1), rfl⟩)
      | false =>
        cases c2 : (FloatKind.f32.format.order st hi == some .gt) with
        | true => exact .inr (.inr (.inl ⟨e, hw (.inr c2), rfl, rfl⟩))
        | false => exact .inr (.inr (.inr ⟨e, by unfold wiE; rw [if_neg (by rw [hf]; simp), if_neg (by rw [c1, c2]; simp)], rfl, rfl⟩))

theorem vTop_one : vTop = 1048576 * (one : Int) := by
  obtain ⟨J, hJ⟩ : ∃ J : Nat, J = 1074 := ⟨_, rfl⟩
  unfold vTop
  rw [one_pow hJ, Nat.one_mul, show ((20 : Int) + 1074).toNat = 20 + J by omega, Nat.pow_add, Int.natCast_mul]; rfl
theorem step_cases (st : Nat) : WithinCases st 981467136 1149239296 := by
  obtain ⟨j, hj⟩ : ∃ j : Nat, j = 1064 := ⟨_, rfl⟩
  have hj' : j + 20 = 1084 := by omega
  have e1 : one = 1024 * 2 ^ j := by rw [one_split (a := 10) (j := j) (by omega)]
  have e2 : 2 ^ (j + 20) = 1048576 * 2 ^ j := by rw [Nat.pow_add, Nat.mul_comm]
  have hp := Nat.two_pow_pos j
  exact within_cases (st := st) (vS_lo hj) (vS_hi hj') (by rw [vTop_one, e1]; generalize 2 ^ j = U at *; omega) (by rw [vTop_one, e1, e2]; generalize 2 ^ j = U at *; omega)

theorem flAt_one_of {w : World} {b x : Nat} (h : w.heap[b]? = some (flObj x)) : FlAt w b 0 1 (fun _ => x) := by
  intro i hi
  have : i = 0 := by omega
  subst this
  exact (blkC h).1 0
theorem refHeight_of (x : Nat) (hx : x < 4294967296) (bb : Nat) (w : World) (h : w.heap[bb]? = some (flObj x)) :
    Calls Try.prog 85 #[.slice (some ⟨bb, 0, none⟩) 1 1] w fun e w' => e = .returned (.int .i64 (fldE 1 (fun _ => x))) ∧ w = w' :=
  refHeight_row bb 0 1 1 (fun _ => x) (by omega) w (flAt_one_of h) (fun _ _ => hx)

end Go.Proofs.Ytkcehbnmcdppkaa

/- The sign of a quotient of singles; the root of a single, by the model's own root of a double: what it lies between. -/
namespace Go.Proofs.Ytkcehbnmcdppkaa.Fl
open Ieee

theorem word_sign {sg : Bool} {V : Nat} {c : Int} (h : vS (wordAt single 925 sg V) = some c) : ∃ n : Nat, c = (if sg then -1 else 1) * (n : Int) := by
  by_cases hr : rungOf single 925 V < single.infRung
  · obtain ⟨M, I, q1, _, q3⟩ := read_val single sg (-1074) 925 leastS V hr
    rw [vS_num q1] at h
    have h' := Option.some.inj h
    rw [← h']; unfold vOf; rw [signed_eq]; exact ⟨_, rfl⟩
  · have e : wordAt single 925 sg V = single.word sg single.infRung := by unfold wordAt; rw [Nat.min_eq_right (by omega)]
    rw [e] at h
    have r : single.read (single.word sg single.infRung) = .infinity sg := by cases sg <;> decide
    unfold vS at h; rw [r] at h; cases h

theorem vOf_mag (s : Bool) (m : Nat) (p : Int) : vOf s m p = (if s then -1 else 1) * ((m * 2 ^ (p + 1074).toNat : Nat) : Int) := by unfold vOf; rw [signed_eq]

/-- A quotient of what is not below 0 by what is above 0 is not below 0. -/
theorem quo_sign {x y q : Nat} {a b c : Int} (h : Go.floatBits .quo .f32 x y = some q) (hx : vS x = some a) (hy : vS y = some b) (hc : vS q = some c) (a0 : 0 ≤ a) (b0 : 0 < b) : 0 ≤ c := by
  obtain ⟨s, m, i, e1, rfl⟩ := vS_some hx
  obtain ⟨t, n, j, e2, rfl⟩ := vS_some hy
  have g1 := read_single e1
  have g2 := read_single e2
  have l1 := g1.low
  have l2 := g2.low
  have q1 := g1.high
  have q2 := g2.high
  have s1 := g1.small
  have s2 := g2.small
  rw [vOf_mag] at a0 b0
  have p2 := Nat.two_pow_pos (j + 1074).toNat
  have ht : t = false := by
    cases t with
    | false => rfl
    | true =>
      rw [if_pos rfl] at b0
      have : (0 : Int) ≤ ((n * 2 ^ (j + 1074).toNat : Nat) : Int) := Int.natCast_nonneg _
      omega
  subst ht
  have hn : 0 < n := by
    rcases Nat.eq_zero_or_pos n with z | z
    · subst z; simp at b0
    · exact z
  have h' : ((single.read x).quotient (single.fractionBits + 2) (single.read y)).map single.write = some q := h
  rw [e1, e2] at h'
  rcases Nat.eq_zero_or_pos m with z | hm
  · subst z
    unfold Datum.quotient at h'
    simp only at h'
    rw [if_neg (by omega)] at h'
    simp only [Nat.zero_shiftLeft, Nat.zero_div, Nat.zero_mod, bne_self_eq_false, Bool.toNat_false, Nat.mul_zero, Nat.add_zero, Option.map_some] at h'
    have h2 : single.nearest (s ^^ false) 0 _ = q := Option.some.inj h'
    rw [nearest_zero, ← wordAt_zero single 925] at h2
    rw [← h2] at hc
    have := vS_word (sg := s ^^ false) (V := 0) (B := 1) (by omega) (by omega)
    rw [this, rd_zero] at hc
    have := Option.some.inj hc
    rw [← this]; simp
  · have hs : s = false := by
      cases s
      · rfl
      · have := Nat.mul_pos hm (Nat.two_pow_pos (i + 1074).toNat)
        simp only [if_true] at a0
        omega
    subst hs
    obtain ⟨T, hT⟩ : ∃ T : Nat, T = 1074 := ⟨_, rfl⟩
    have ln24 : n.log2 < 24 := log_lt (by rw [show (2 : Nat) ^ 24 = 16777216 by decide]; exact s2) (by omega)
    obtain ⟨ls, ks, hS, wS⟩ := quot_word single 925 leastS (s := false) (t := false) (m := m) (n := n) (i := i) (j := j) hm hn (by omega) (by omega) (by rw [fbS]; omega) hT
    rw [wS] at h'
    have h2 := Option.some.inj h'
    rw [← h2] at hc
    obtain ⟨u, hu⟩ := word_sign hc
    rw [hu]; simp

/-- The root's digits. -/
theorem rootFrom_spec (n : Nat) : ∀ (todo root : Nat), root * root ≤ n → n < (root + 2 ^ todo) * (root + 2 ^ todo) →
    (Datum.rootFrom n todo root) * (Datum.rootFrom n todo root) ≤ n ∧ n < (Datum.rootFrom n todo root + 1) * (Datum.rootFrom n todo root + 1)
  | 0, root, h1, h2 => by
    unfold Datum.rootFrom
    rw [Nat.pow_zero] at h2
    exact ⟨h1, h2⟩
  | todo + 1, root, h1, h2 => by
    unfold Datum.rootFrom
    simp only
    rw [Nat.one_shiftLeft]
    split
    · rename_i c
      refine rootFrom_spec n todo _ c ?_
      rw [Nat.pow_succ] at h2
      rw [show root + 2 ^ todo + 2 ^ todo = root + 2 ^ todo * 2 by omega]; exact h2
    · rename_i c
      exact rootFrom_spec n todo _ h1 (by omega)

theorem root_digits (n : Nat) : (Datum.rootFrom n (n.log2 / 2 + 1) 0) * (Datum.rootFrom n (n.log2 / 2 + 1) 0) ≤ n ∧ n < (Datum.rootFrom n (n.log2 / 2 + 1) 0 + 1) * (Datum.rootFrom n (n.log2 / 2 + 1) 0 + 1) := by
  refine rootFrom_spec n _ 0 (by simp) ?_
  rw [Nat.zero_add, ← Nat.pow_add]
  have : n < 2 ^ (n.log2 + 1) := Nat.lt_log2_self
  exact Nat.lt_of_lt_of_le this (two_le (by omega))

/-- The root of a single, as a word: the root of the double, turned into a single. -/
def rootW (x : Nat) : Nat := (((Go.floatToFloatBits .f32 x .f64).bind fun X => double.sqrt X).bind fun Z => Go.floatToFloatBits .f64 Z .f32).getD 0

/-- What the root of the single x with the value a comes to. -/
structure RootAt (x : Nat) (a : Int) (X Z : Nat) (c : Int) : Prop where
  up : Go.floatToFloatBits .f32 x .f64 = some X
  sq : double.sqrt X = some Z
  dn : Go.floatToFloatBits .f64 Z .f32 = some (rootW x)
  val : vS (rootW x) = some c
  nn : 0 ≤ c
  hi : ∀ g : Nat, g < 16777216 → a ≤ ((g * g : Nat) : Int) * (one : Int) → c ≤ (g : Int) * (one : Int)
  lo : ∀ g : Nat, g < 16777216 → ((g * g : Nat) : Int) * (one : Int) ≤ a → (g : Int) * (one : Int) ≤ c

theorem rdD_mono {V W : Nat} (h : V ≤ W) : rd double 0 V ≤ rd double 0 W := by
  rcases Nat.eq_zero_or_pos V with z | z
  · subst z; rw [rd_zero]; exact Nat.zero_le _
  have z' : 0 < W := by omega
  obtain ⟨l1, l2, l3⟩ := last_le double 0 V z
  obtain ⟨k1, k2, k3⟩ := last_le double 0 W z'
  unfold rd
  generalize lastOf double 0 V = l at *
  generalize lastOf double 0 W = k at *
  rw [fbD] at l2 l3 k2 k3
  have pl : 0 < 2 ^ l := Nat.two_pow_pos l
  have pk : 0 < 2 ^ k := Nat.two_pow_pos k
  rcases Nat.lt_trichotomy l k with c | c | c
  · -- W reaches a higher binade
    have a : rnq V (2 ^ l) ≤ 2 ^ 53 := by
      have := rnq_mono (M := 2 ^ l) pl (N := V) (N' := 2 ^ 53 * 2 ^ l) (by rw [← Nat.pow_add]; exact Nat.le_of_lt (by rwa [show 53 + l = l + 52 + 1 by omega]))
      rwa [rnq_mul _ _ pl] at this
    have b : 2 ^ 52 ≤ rnq W (2 ^ k) := by
      have e : 2 ^ (k + 52) ≤ W := by rcases k3 with x | x; omega; exact x
      have := rnq_mono (M := 2 ^ k) pk (N := 2 ^ 52 * 2 ^ k) (N' := W) (by rw [← Nat.pow_add, show 52 + k = k + 52 by omega]; exact e)
      rwa [rnq_mul _ _ pk] at this
    calc rnq V (2 ^ l) * 2 ^ l ≤ 2 ^ 53 * 2 ^ l := Nat.mul_le_mul_right _ a
      _ = 2 ^ (53 + l) := by rw [Nat.pow_add]
      _ ≤ 2 ^ (52 + k) := Nat.pow_le_pow_right (by omega) (by omega)
      _ = 2 ^ 52 * 2 ^ k := by rw [Nat.pow_add]
      _ ≤ rnq W (2 ^ k) * 2 ^ k := Nat.mul_le_mul_right _ b
  · subst c
    exact Nat.mul_le_mul_right _ (rnq_mono pl h)
  · exfalso
    rcases l3 with x | x
    · omega
    · have : 2 ^ (l + 52) < 2 ^ (k + 52 + 1) := Nat.lt_of_le_of_lt (Nat.le_trans x h) k2
      have := (Nat.pow_lt_pow_iff_right (by omega : 1 < 2)).1 this
      omega

theorem down_word {V B : Nat} (hB : V < 2 ^ B) (hB' : B < 1200) :
    Go.floatToFloatBits .f64 (wordAt double 0 false V) .f32 = some (wordAt single 925 false (rd double 0 V)) ∧ vS (wordAt single 925 false (rd double 0 V)) = some ((rd single 925 (rd double 0 V) : Nat) : Int) := by
  obtain ⟨M, I, r1, r2, r3⟩ := read_val double false (-1074) 0 leastD V (rungD_lt hB (by omega))
  have hl : double.leastPlace = -1074 := by decide
  rw [hl] at r2
  have hn := nearest_val single false (-1074) 925 leastS M (p := I) (by omega)
  rw [r3] at hn
  have hd : rd double 0 V ≤ 2 ^ B := by
    have e : rd double 0 (1 * 2 ^ B) = 1 * 2 ^ B := rd_exact double 0 1 B (by rw [fbD]; decide) (by omega)
    have m : rd double 0 V ≤ rd double 0 (1 * 2 ^ B) := rdD_mono (by omega)
    rw [e] at m; omega
  have hd' : rd double 0 V < 2 ^ (B + 1) := Nat.lt_of_le_of_lt hd (Nat.pow_lt_pow_right (by omega) (by omega))
  have hv := vS_word (sg := false) hd' (by omega)
  simp only [Bool.false_eq_true, if_false, Int.one_mul] at hv
  refine ⟨?_, hv⟩
  obtain ⟨M', I', q1, _, _⟩ := read_val single false (-1074) 925 leastS (rd double 0 V) (rungS_lt hd' (by omega))
  unfold Go.floatToFloatBits
  rw [if_neg (by decide)]
  have d : Go.FloatKind.f64.decode (wordAt double 0 false V) = .number false M I := r1
  simp only [d]
  have w : Go.FloatKind.f32.encode (.number false M I) = wordAt single 925 false (rd double 0 V) := hn
  rw [w]
  have d2 : Go.FloatKind.f32.decode (wordAt single 925 false (rd double 0 V)) = .number false M' I' := q1
  rw [d2]; rfl
end Go.Proofs.Ytkcehbnmcdppkaa.Fl

/- Select and Terrace of one cell, as words; what their steps come to. -/
namespace Go.Proofs.Ytkcehbnmcdppkaa
open Go.RowKit Fl
set_option linter.unusedVariables false

theorem wi_unit {t : Nat} {c : Int} (h : vS t = some c) (c0 : 0 ≤ c) (c1 : c ≤ (one : Int)) : wiE t 0 1065353216 = 0 := by
  unfold wiE
  rw [if_neg (by unfold finB; rw [h]; simp), if_neg]
  rw [f32f, lss_val h vS_zero, gtr_val h vS_one]
  simp; omega

/-- What is left at the distance d of what fades over so. -/
def fadeW (d so : Nat) : Nat := if ltB d so = true then subW 1065353216 (easeW (quoW d so)) else 0
structure FadeAt (d so q p1 q1 r1 e r : Nat) : Prop where
  q1' : floatBits .quo .f32 d so = some q
  q2' : Same2 .quo 0 d so
  ea : EaseAt q p1 q1 r1 e
  wi : wiE q 0 1065353216 = 0
  r1' : floatBits .sub .f32 1065353216 e = some r
  r2' : Same2 .sub 4 1065353216 e
  lt : r < 4294967296
  w : subW 1065353216 (easeW (quoW d so)) = r

theorem fade_parts {d so : Nat} {a b : Int} (hd : vS d = some a) (hs : vS so = some b) (a0 : 0 ≤ a) (hab : a < b) : ∃ q p1 q1 r1 e r, FadeAt d so q p1 q1 r1 e r := by
  have q2 : Same2 .quo 0 d so := div_val hd hs (by omega) (by omega) (by omega)
  obtain ⟨q, q1, bq⟩ := same_ex q2
  obtain ⟨c, hc, hcb⟩ := val_bd bq
  have c0 := quo_sign q1 hd hs hc a0 (by omega)
  obtain ⟨J, hJ⟩ : ∃ J : Nat, J = 1074 := ⟨_, rfl⟩
  have c1 : c ≤ (one : Int) := by
    rw [one_pow hJ]; rw [Nat.add_zero, ← hJ] at hcb; omega
  obtain ⟨p, q', r', e, E⟩ := ease_parts (bd_unit hc (by omega) c1)
  obtain ⟨_, e1, be⟩ := same_ex E.v2
  rw [E.v1] at e1
  have e1' := Option.some.inj e1
  rw [← e1'] at be
  have r2 : Same2 .sub 4 1065353216 e := sub_same (k := 3) (by omega) (bd_one 3) be
  obtain ⟨r, r1, _⟩ := same_ex r2
  refine ⟨q, p, q', r', e, r, q1, q2, E, wi_unit hc c0 c1, r1, r2, sub_lt r1, ?_⟩
  unfold subW quoW
  rw [q1]
  show (floatBits .sub .f32 1065353216 (easeW q)).getD 0 = r
  rw [E.w, r1]; rfl

/-- Select of one value. -/
def selW (v lo hi so : Nat) : Nat := if ltB v lo = true then fadeW (subW lo v) so else if (FloatKind.f32.format.order v hi == some .gt) = true then fadeW (subW v hi) so else 1065353216

theorem diff_pos {x y : Nat} (hx : hgtB x = true) (hy : hgtB y = true) (h : ltB x y = true) : ∃ d a, floatBits .sub .f32 y x = some d ∧ Same2 .sub 21 y x ∧ vS d = some a ∧ 0 ≤ a ∧ d < 4294967296 := by
  obtain ⟨a, ha, xa⟩ := hgt_val hx
  obtain ⟨b, hb, xb⟩ := hgt_val hy
  unfold ltB at h
  rw [f32f, lss_val ha hb] at h
  have s : Same2 .sub 21 y x := sub_same (k := 20) (by omega) (hgt_bd hy) (hgt_bd hx)
  obtain ⟨d, e, bd⟩ := same_ex s
  obtain ⟨c, hc, _⟩ := val_bd bd
  obtain ⟨B, hB⟩ : ∃ B : Nat, B = 1100 := ⟨_, rfl⟩
  have hv : vS d = some (rdS (b - a)) := by
    have h' : a < b := by simpa using h
    refine vS_sub (B := B) e hb ha (small_of (n := 21) (by omega) ?_ (by omega)) (by omega)
    rw [show ((2 ^ 21 : Nat) : Int) = 2097152 by decide]
    generalize one = O at *
    omega
  exact ⟨d, rdS (b - a), e, s, hv, rdS_nonneg (by simp at h; omega), sub_lt e⟩

theorem sel_lt {v lo hi so : Nat} (hv : hgtB v = true) (hl : hgtB lo = true) (hh : hgtB hi = true) (hs : hgtB so = true) : selW v lo hi so < 4294967296 := by
  have F : ∀ {x y : Nat}, hgtB x = true → hgtB y = true → ltB x y = true → fadeW (subW y x) so < 4294967296 := by
    intro x y hx hy h
    obtain ⟨d, a, e, _, hd, a0, _⟩ := diff_pos hx hy h
    obtain ⟨b, hb, _⟩ := hgt_val hs
    have ed : subW y x = d := by unfold subW; rw [e]; rfl
    unfold fadeW
    rw [ed]
    split
    · rename_i c
      unfold ltB at c
      rw [f32f, lss_val hd hb] at c
      obtain ⟨q, p1, q1, r1, e, r, A⟩ := fade_parts hd hb a0 (by simpa using c)
      rw [A.w]; exact A.lt
    · decide
  unfold selW
  split
  · rename_i c; exact F hv hl c
  · split
    · rename_i c
      refine F hh hv ?_
      obtain ⟨a, ha, _⟩ := hgt_val hv
      obtain ⟨b, hb, _⟩ := hgt_val hh
      rw [f32f, gtr_val ha hb] at c
      unfold ltB; rw [f32f, lss_val hb ha]; simpa using c
    · decide

/-- A right sharpness: its value is from 0 to below 1. -/
def ShOk (sh : Nat) : Prop := ∃ b, vS sh = some b ∧ 0 ≤ b ∧ b < (one : Int)

/-- Terrace of one value. -/
def terW (v st sh : Nat) : Nat :=
  if ltB (subW (quoW v st) (flW (quoW v st))) sh = true then mulW (flW (quoW v st)) st
  else mulW (addW (flW (quoW v st)) (quoW (subW (subW (quoW v st) (flW (quoW v st))) sh) (subW 1065353216 sh))) st

structure TerAt (v st sh q d : Nat) (c : Bool) (u x y j r : Nat) : Prop where
  q1 : floatBits .quo .f32 v st = some q
  q2 : Same2 .quo 30 v st
  fq : ∃ a, vS q = some a
  bq : Bd 30 q
  d1 : floatBits .sub .f32 q (flW q) = some d
  d2 : Same2 .sub 32 q (flW q)
  c1 : ltB d sh = c
  u1 : floatBits .sub .f32 d sh = some u
  u2 : Same2 .sub 33 d sh
  x1 : floatBits .sub .f32 1065353216 sh = some x
  x2 : Same2 .sub 1 1065353216 sh
  y1 : floatBits .quo .f32 u x = some y
  y2 : Same2 .quo 60 u x
  j1 : c = false → floatBits .add .f32 (flW q) y = some j
  j2 : c = false → Same2 .add 61 (flW q) y
  j3 : c = true → j = flW q
  r1 : floatBits .mul .f32 j st = some r
  r2 : Same2 .mul 72 j st
  w : terW v st sh = r
  lt : r < 4294967296

theorem below_one {e : Int} {sh j : Nat} (h : vS sh = some e) (e0 : 0 ≤ e) (e1 : e < (one : Int)) (hj : j = 1050) : ((2 ^ j : Nat) : Int) ≤ (one : Int) - e := by
  obtain ⟨t, i, ht, hi, he⟩ := vS_form h
  have p := Nat.two_pow_pos i
  have t0 : 0 ≤ t := by
    rcases Int.lt_or_le t 0 with c | c
    · have : t * ((2 ^ i : Nat) : Int) < 0 := Int.mul_neg_of_neg_of_pos c (Int.natCast_pos.2 p)
      omega
    · exact c
  obtain ⟨u, rfl⟩ := Int.eq_ofNat_of_zero_le t0
  have he' : e = ((u * 2 ^ i : Nat) : Int) := by rw [he, Int.natCast_mul]
  have hu : u < 16777216 := by simpa using ht
  have e24 : one = 16777216 * 2 ^ j := by rw [one_split (a := 24) (j := j) (by omega)]
  have hlt : u * 2 ^ i < one := by omega
  have goal : 2 ^ j + u * 2 ^ i ≤ one := by
    rcases Nat.le_total j i with c | c
    · have e2 : 2 ^ i = 2 ^ (i - j) * 2 ^ j := by rw [← Nat.pow_add, Nat.sub_add_cancel c]
      rw [e2, ← Nat.mul_assoc] at hlt ⊢
      rw [e24] at hlt ⊢
      have := Nat.lt_of_mul_lt_mul_right hlt
      rw [show 2 ^ j + u * 2 ^ (i - j) * 2 ^ j = (1 + u * 2 ^ (i - j)) * 2 ^ j by rw [Nat.add_mul, Nat.one_mul]]
      exact Nat.mul_le_mul_right _ (by omega)
    · rcases Nat.eq_or_lt_of_le c with z | z
      · subst z
        rw [e24]
        rw [show 2 ^ i + u * 2 ^ i = (1 + u) * 2 ^ i by rw [Nat.add_mul, Nat.one_mul]]
        exact Nat.mul_le_mul_right _ (by omega)
      · obtain ⟨J, hJ⟩ : ∃ J, j = J + 1 := ⟨j - 1, by omega⟩
        have e3 : 2 ^ i ≤ 2 ^ J := Nat.pow_le_pow_right (by omega) (by omega)
        have e5 : u * 2 ^ i ≤ 16777215 * 2 ^ J := Nat.mul_le_mul (by omega) e3
        have e4 : 2 ^ j = 2 * 2 ^ J := by rw [hJ]; exact Nat.pow_succ'
        rw [e24, e4]
        generalize 2 ^ J = U at *
        generalize u * 2 ^ i = V at *
        omega
  rw [he']; omega

theorem ter_parts {v st sh : Nat} (hv : hgtB v = true) (hs : StepOk st) (hsh : ShOk sh) : ∃ q d c u x y j r, TerAt v st sh q d c u x y j r := by
  obtain ⟨a, ha, hab⟩ := hgt_val hv
  have hs' := hs
  obtain ⟨b, hb, hb1, hb2⟩ := hs'
  obtain ⟨e, he, e0, e1⟩ := hsh
  have op := one_pos
  have q2 : Same2 .quo 30 v st := by
    refine div_val ha hb ?_ (by omega) ?_
    · generalize one = O at *; omega
    · rw [show (2 : Nat) ^ 30 = 1073741824 by decide]; generalize one = O at *; omega
  obtain ⟨q, q1, bq⟩ := same_ex q2
  obtain ⟨aq, haq, _⟩ := val_bd bq
  have bf := fl_bd bq (by omega)
  have d2 : Same2 .sub 32 q (flW q) := sub_same (k := 31) (by omega) (bd_up bq (by omega)) bf
  obtain ⟨d, d1, bd⟩ := same_ex d2
  have bsh : Bd 0 sh := bd_unit he (by omega) (by omega)
  have u2 : Same2 .sub 33 d sh := sub_same (k := 32) (by omega) bd (bd_up bsh (by omega))
  obtain ⟨u, u1, bu⟩ := same_ex u2
  have x2 : Same2 .sub 1 1065353216 sh := sub_same (k := 0) (by omega) (bd_one 0) bsh
  obtain ⟨x, x1, bx⟩ := same_ex x2
  obtain ⟨J, hJ⟩ : ∃ J : Nat, J = 1050 := ⟨_, rfl⟩
  obtain ⟨B, hB⟩ : ∃ B : Nat, B = 1100 := ⟨_, rfl⟩
  have vx : vS x = some (rdS ((one : Int) - e)) := vS_sub (B := B) x1 vS_one he (by
    have : one < 2 ^ B := one_lt (by omega)
    omega) (by omega)
  have lx : ((2 ^ J : Nat) : Int) ≤ rdS ((one : Int) - e) := by
    have := rdS_mono (below_one he e0 e1 hJ)
    rwa [rdS_exact (c := ((2 ^ J : Nat) : Int)) 1 J (by decide) (by omega) (by simp)] at this
  obtain ⟨au, hau, hub⟩ := val_bd bu
  have y2 : Same2 .quo 60 u x := by
    have pj := Nat.two_pow_pos J
    refine div_val hau vx (by omega) (by omega) (Nat.le_trans hub ?_)
    rw [show 1074 + 33 = J + 57 by omega, Nat.pow_add]
    refine Nat.mul_le_mul (by omega) (Nat.pow_le_pow_right (by omega) (by omega))
  obtain ⟨y, y1, by'⟩ := same_ex y2
  have j2 : Same2 .add 61 (flW q) y := add_same (k := 60) (by omega) (bd_up bf (by omega)) by'
  obtain ⟨j, j1, bj⟩ := same_ex j2
  have eq : quoW v st = q := by unfold quoW; rw [q1]; rfl
  have ed : subW q (flW q) = d := by unfold subW; rw [d1]; rfl
  have eu : subW d sh = u := by unfold subW; rw [u1]; rfl
  have ex : subW 1065353216 sh = x := by unfold subW; rw [x1]; rfl
  have ey : quoW u x = y := by unfold quoW; rw [y1]; rfl
  have ej : addW (flW q) y = j := by unfold addW; rw [j1]; rfl
  cases hc : ltB d sh with
  | true =>
    have r2 : Same2 .mul (61 + 11) (flW q) st := mul_same (by omega) (bd_up bf (by omega)) (step_bd hs)
    obtain ⟨r, r1, _⟩ := same_ex r2
    refine ⟨q, d, true, u, x, y, flW q, r, q1, q2, ⟨aq, haq⟩, bq, d1, d2, hc, u1, u2, x1, x2, y1, y2, (fun h => by cases h), (fun h => by cases h), fun _ => rfl, r1, r2, ?_, mul_lt r1⟩
    unfold terW
    rw [eq, ed, if_pos hc]; unfold mulW; rw [r1]; rfl
  | false =>
    have r2 : Same2 .mul (61 + 11) j st := mul_same (by omega) bj (step_bd hs)
    obtain ⟨r, r1, _⟩ := same_ex r2
    refine ⟨q, d, false, u, x, y, j, r, q1, q2, ⟨aq, haq⟩, bq, d1, d2, hc, u1, u2, x1, x2, y1, y2, fun _ => j1, fun _ => j2, (fun h => by cases h), r1, r2, ?_, mul_lt r1⟩
    unfold terW
    rw [eq, ed, if_neg (by rw [hc]; simp), eu, ex, ey, ej]; unfold mulW; rw [r1]; rfl
end Go.Proofs.Ytkcehbnmcdppkaa

/- The root of a single lies between whole numbers whose squares lie around it. -/
namespace Go.Proofs.Ytkcehbnmcdppkaa.Fl
open Ieee

/-- Digits of a root, with what is left over told by one more digit, against a whole number. -/
theorem root_between {n w G : Nat} (h1 : w * w ≤ n) (h2 : n < (w + 1) * (w + 1)) :
    (n ≤ G * G → 2 * w + (w * w != n).toNat ≤ 2 * G) ∧ (G * G ≤ n → 2 * G ≤ 2 * w + (w * w != n).toNat) := by
  constructor
  · intro h
    have hw : w ≤ G := by
      rcases Nat.lt_or_ge G w with c | c
      · have : (G + 1) * (G + 1) ≤ w * w := Nat.mul_le_mul c c
        have e : (G + 1) * (G + 1) = G * G + 2 * G + 1 := by rw [Nat.add_mul, Nat.mul_add]; omega
        omega
      · exact c
    rcases Nat.lt_or_ge w G with c | c
    · have := Bool.toNat_le (w * w != n); omega
    · have : w = G := by omega
      subst this
      have : w * w = n := by omega
      rw [this]; simp
  · intro h
    have : G < w + 1 := by
      rcases Nat.lt_or_ge G (w + 1) with c | c
      · exact c
      · have := Nat.mul_le_mul c c; omega
    omega

theorem rootW_of {x X Z r : Nat} (c : Go.floatToFloatBits .f32 x .f64 = some X) (h : double.sqrt X = some Z) (d : Go.floatToFloatBits .f64 Z .f32 = some r) : rootW x = r := by
  unfold rootW
  rw [c, Option.bind_some, h, Option.bind_some, d, Option.getD_some]

theorem root_num {d M mo0 mo n w : Nat} {I : Int} (hM : M ≠ 0) (h0 : 2 * d - M.log2 = mo0) (h1 : mo0 + ((I - (mo0 : Int)) % 2).toNat = mo) (h2 : M <<< mo = n) (h3 : Datum.rootFrom n (n.log2 / 2 + 1) 0 = w) :
    Datum.root d (.number false M I) = some (.number false (2 * w + (w * w != n).toNat) ((I - (mo : Int)) / 2 - 1)) := by
  unfold Datum.root
  simp only [hM, if_false, Bool.false_eq_true, h0, h1, h2, h3]

theorem root_parts {x : Nat} {a : Int} {k : Nat} (h : vS x = some a) (a0 : 0 ≤ a) (hb : Bd k x) (hk : k ≤ 60) : ∃ X Z c, RootAt x a X Z c := by
  obtain ⟨s, m, p, e, rfl⟩ := vS_some h
  obtain ⟨X, M, I, c1, c2, c3, c4, c5⟩ := toD e
  have g := read_single e
  obtain ⟨A, hA⟩ : ∃ A, A = m * 2 ^ (p + 1074).toNat := ⟨_, rfl⟩
  have hv : vOf s m p = (if s then -1 else 1) * (A : Int) := by rw [vOf_mag, hA]
  have hbA : A ≤ 2 ^ (1074 + k) := by
    obtain ⟨s', m', p', e', b'⟩ := hb
    rw [e] at e'; cases e'
    rw [hA]; exact b'
  rw [← hA] at c4
  rcases Nat.eq_zero_or_pos M with zM | hM
  · -- nought
    subst zM
    have zA : A = 0 := by rw [← c4]; simp
    have hz : vOf s m p = 0 := by rw [hv, zA]; simp
    have hq : double.sqrt X = some (wordAt double 0 s 0) := by
      show ((double.read X).root _).map double.write = _
      rw [c2]
      unfold Datum.root
      simp only [if_true, Option.map_some]
      show some (double.nearest s 0 _) = _
      rw [nearest_zero, wordAt_zero]
    have hd : Go.floatToFloatBits .f64 (wordAt double 0 s 0) .f32 = some (wordAt single 925 s 0) := back (B := 1) (by omega) (by omega) (by show rungOf single 925 (rd double 0 0) = _; rw [rd_zero])
    have hw : rootW x = wordAt single 925 s 0 := rootW_of c1 hq hd
    have hvz := vS_word (sg := s) (V := 0) (B := 1) (by omega) (by omega)
    rw [rd_zero] at hvz
    simp only [Int.natCast_zero, Int.mul_zero] at hvz
    refine ⟨X, _, 0, c1, hq, by rw [hw]; exact hd, by rw [hw]; exact hvz, by omega, fun G _ _ => Int.mul_nonneg (by omega) (by omega), fun G _ hg => ?_⟩
    rw [hz] at hg
    have hp := one_pos
    have : G * G * one ≤ 0 := by
      have : ((G * G * one : Nat) : Int) ≤ ((0 : Nat) : Int) := by rw [Int.natCast_mul]; exact hg
      exact Int.ofNat_le.1 this
    have : G = 0 := by
      rcases Nat.eq_zero_or_pos G with z | z
      · exact z
      · have := Nat.mul_pos (Nat.mul_pos z z) hp; omega
    subst this; simp
  · have hm : 0 < A := by rw [← c4]; exact Nat.mul_pos hM (Nat.two_pow_pos _)
    have hs : s = false := by
      cases s
      · rfl
      · rw [hv] at a0; simp only [if_true] at a0; omega
    subst hs
    have hva : vOf false m p = (A : Int) := by rw [hv]; simp
    rw [hva]
    have hI := c5 (by omega)
    -- the dividend
    obtain ⟨mo0, hmo0⟩ : ∃ mo0, mo0 = 2 * (double.fractionBits + 2) - M.log2 := ⟨_, rfl⟩
    obtain ⟨mo, hmo⟩ : ∃ mo, mo = mo0 + ((I - (mo0 : Int)) % 2).toNat := ⟨_, rfl⟩
    obtain ⟨n, hn⟩ : ∃ n, n = M <<< mo := ⟨_, rfl⟩
    obtain ⟨w, hw⟩ : ∃ w, w = Datum.rootFrom n (n.log2 / 2 + 1) 0 := ⟨_, rfl⟩
    obtain ⟨d1, d2⟩ := root_digits n
    rw [← hw] at d1 d2
    have hr : (double.read X).root (double.fractionBits + 2) = some (.number false (2 * w + (w * w != n).toNat) ((I - (mo : Int)) / 2 - 1)) := by
      rw [c2]; exact root_num (by omega) hmo0.symm hmo.symm hn.symm hw.symm
    -- the place is even
    have heven : (I - (mo : Int)) % 2 = 0 := by
      rw [hmo]; have := Int.emod_two_eq (I - (mo0 : Int)); omega
    obtain ⟨hh, hhh⟩ : ∃ hh : Int, hh = (I - (mo : Int)) / 2 := ⟨_, rfl⟩
    have hI2 : I - (mo : Int) = 2 * hh := by omega
    rw [← hhh] at hr
    have l53 : M.log2 + (I + 1074).toNat < 1074 + k + 1 := by
      have := log_units (m := M) (B := 1074 + k + 1) (e := (I + 1074).toNat) hM (by rw [c4]; exact Nat.lt_of_le_of_lt hbA (Nat.pow_lt_pow_right (by omega) (by omega)))
      exact this
    rw [fbD] at hmo0
    have e1 : hh ≤ 0 := by omega
    have e2 : -400 ≤ hh := by omega
    -- units
    obtain ⟨E, hE⟩ : ∃ E : Nat, (E : Int) = hh + 1073 := ⟨(hh + 1073).toNat, by omega⟩
    obtain ⟨T, hT⟩ : ∃ T : Nat, T = 1074 := ⟨_, rfl⟩
    have hET : E + 1 ≤ T := by omega
    have hZ : double.sqrt X = some (wordAt double 0 false ((2 * w + (w * w != n).toNat) * 2 ^ E)) := by
      show ((double.read X).root _).map double.write = _
      rw [hr]
      show some (double.nearest false _ (hh - 1)) = _
      rw [nearest_val double false (-1074) 0 leastD _ (p := hh - 1) (by omega), show (hh - 1 - -1074).toNat = E by omega]
    -- the square in units
    have hsq : n * (2 ^ (E + 1) * 2 ^ (E + 1)) = A * 2 ^ T := by
      rw [hn, Nat.shiftLeft_eq, ← c4, Nat.mul_assoc, Nat.mul_assoc, ← Nat.pow_add, ← Nat.pow_add, ← Nat.pow_add]
      congr 2; omega
    have key : ∀ g : Nat, ∃ G : Nat, g * one = G * 2 ^ (E + 1) ∧ (A ≤ g * g * one ↔ n ≤ G * G) ∧ (g * g * one ≤ A ↔ G * G ≤ n) := by
      intro g
      refine ⟨g * 2 ^ (T - (E + 1)), ?_, ?_, ?_⟩
      · rw [one_pow hT, Nat.mul_assoc, ← Nat.pow_add, Nat.sub_add_cancel hET]
      all_goals
        have hp : 0 < 2 ^ (E + 1) * 2 ^ (E + 1) := Nat.mul_pos (Nat.two_pow_pos _) (Nat.two_pow_pos _)
        have e : g * 2 ^ (T - (E + 1)) * (g * 2 ^ (T - (E + 1))) * (2 ^ (E + 1) * 2 ^ (E + 1)) = g * g * one * 2 ^ T := by
          have e' : 2 ^ (T - (E + 1)) * 2 ^ (E + 1) = 2 ^ T := by rw [← Nat.pow_add, Nat.sub_add_cancel hET]
          rw [one_pow hT]
          calc g * 2 ^ (T - (E + 1)) * (g * 2 ^ (T - (E + 1))) * (2 ^ (E + 1) * 2 ^ (E + 1)) = g * g * ((2 ^ (T - (E + 1)) * 2 ^ (E + 1)) * (2 ^ (T - (E + 1)) * 2 ^ (E + 1))) := by
                simp only [Nat.mul_assoc, Nat.mul_left_comm, Nat.mul_comm]
            _ = g * g * 2 ^ T * 2 ^ T := by rw [e']; simp only [Nat.mul_assoc]
        constructor
        · intro q
          refine Nat.le_of_mul_le_mul_right ?_ hp
          rw [hsq, e]; exact Nat.mul_le_mul_right _ q
        · intro q
          have := Nat.mul_le_mul_right (2 ^ (E + 1) * 2 ^ (E + 1)) q
          rw [hsq, e] at this
          exact Nat.le_of_mul_le_mul_right this (Nat.two_pow_pos T)
    obtain ⟨V, hV⟩ : ∃ V, V = (2 * w + (w * w != n).toNat) * 2 ^ E := ⟨_, rfl⟩
    rw [← hV] at hZ
    have cmp : ∀ g : Nat, (A ≤ g * g * one → V ≤ g * one) ∧ (g * g * one ≤ A → g * one ≤ V) := by
      intro g
      obtain ⟨G, k1, k2, k3⟩ := key g
      obtain ⟨b1, b2⟩ := root_between (G := G) d1 d2
      have k4 : g * one = 2 * G * 2 ^ E := by rw [k1, Nat.pow_succ, Nat.mul_comm 2 G, Nat.mul_assoc, Nat.mul_comm 2 (2 ^ E)]
      rw [k4, hV]
      exact ⟨fun q => Nat.mul_le_mul_right _ (b1 (k2.1 q)), fun q => Nat.mul_le_mul_right _ (b2 (k3.1 q))⟩
    -- V is small
    have hVB : V < 2 ^ (T + 61) := by
      obtain ⟨L, hL⟩ : ∃ L : Nat, L = 60 := ⟨_, rfl⟩
      have e6 : A ≤ 2 ^ L * 2 ^ L * one := by
        refine Nat.le_trans hbA ?_
        rw [one_pow hT, ← Nat.pow_add, ← Nat.pow_add]
        exact two_le (by omega)
      have := (cmp (2 ^ L)).1 e6
      rw [one_pow hT, ← Nat.pow_add] at this
      exact Nat.lt_of_le_of_lt this (Nat.pow_lt_pow_right (by omega) (by omega))
    obtain ⟨q1, q2⟩ := down_word hVB (by omega)
    have hw2 : rootW x = wordAt single 925 false (rd double 0 V) := rootW_of c1 hZ q1
    -- whole numbers are not rounded
    have fix : ∀ g : Nat, g < 16777216 → rd double 0 (g * one) = g * one ∧ rd single 925 (g * one) = g * one := by
      intro g hg
      rw [one_pow hT]
      exact ⟨rd_exact double 0 g T (by rw [fbD]; exact Nat.lt_of_lt_of_le hg (by decide)) (by omega), rd_exact single 925 g T (by rw [fbS]; exact hg) (by omega)⟩
    refine ⟨X, _, _, c1, hZ, by rw [hw2]; exact q1, by rw [hw2]; exact q2, by omega, fun g hg ha => ?_, fun g hg ha => ?_⟩
    · have ha' : A ≤ g * g * one := by
        have : (A : Int) ≤ ((g * g * one : Nat) : Int) := by rw [Int.natCast_mul]; exact ha
        exact Int.ofNat_le.1 this
      have h1 := rdD_mono ((cmp g).1 ha')
      rw [(fix g hg).1] at h1
      have h2 := rd_mono h1
      rw [(fix g hg).2] at h2
      rw [← Int.natCast_mul]; exact Int.ofNat_le.2 h2
    · have ha' : g * g * one ≤ A := by
        have : ((g * g * one : Nat) : Int) ≤ (A : Int) := by rw [Int.natCast_mul]; exact ha
        exact Int.ofNat_le.1 this
      have h1 := rdD_mono ((cmp g).2 ha')
      rw [(fix g hg).1] at h1
      have h2 := rd_mono h1
      rw [(fix g hg).2] at h2
      rw [← Int.natCast_mul]; exact Int.ofNat_le.2 h2
end Go.Proofs.Ytkcehbnmcdppkaa.Fl

/- Contracts: math.Sqrt, and the roots of both sides. -/
namespace Go.Proofs.Ytkcehbnmcdppkaa
open Go.RowKit Fl
set_option linter.unusedVariables false

theorem extSqrt (X Z : Nat) (h : FloatKind.f64.format.sqrt X = some Z) : Extern.MathSqrt.sqrt #[.float .f64 X] = pure (.float .f64 Z) := by
  conv => lhs; whnf
  rw [h]

end Go.Proofs.Ytkcehbnmcdppkaa

/- The weight of a brush, as a word; what its steps come to; it lies from 0 to 1. -/
namespace Go.Proofs.Ytkcehbnmcdppkaa
open Go.RowKit Fl
set_option linter.unusedVariables false

/-- The square of the distance of two places. -/
def sqD (x y X Y : Int) : Int := (x - X) * (x - X) + (y - Y) * (y - Y)
def coneW (n R : Int) : Nat := subW 1065353216 (quoW (rootW (floatOfInt .f32 n)) (floatOfInt .f32 R))
def bellT (n F : Int) : Nat := subW 1065353216 (quoW (floatOfInt .f32 n) (floatOfInt .f32 F))
/-- The weight, by the square of the distance. -/
def weiW (k n R : Int) : Nat := if R * R ≤ n then 0 else if k = 2 then coneW n R else if k = 3 then mulW (bellT n (R * R)) (bellT n (R * R)) else 1065353216

theorem one_minus {q : Nat} {c : Int} (hb : Bd 0 q) (hc : vS q = some c) (c0 : 0 ≤ c) : ∃ r, floatBits .sub .f32 1065353216 q = some r ∧ Same2 .sub 1 1065353216 q ∧ ∃ d, vS r = some d ∧ 0 ≤ d ∧ d ≤ (one : Int) := by
  obtain ⟨a, ha, hab⟩ := val_bd hb
  rw [hc] at ha
  have ha' := Option.some.inj ha
  subst ha'
  obtain ⟨J, hJ⟩ : ∃ J : Nat, J = 1074 := ⟨_, rfl⟩
  have c1 : c ≤ (one : Int) := by
    rw [one_pow hJ]; rw [Nat.add_zero, ← hJ] at hab; omega
  have s : Same2 .sub 1 1065353216 q := sub_same (k := 0) (by omega) (bd_one 0) hb
  obtain ⟨r, e, _⟩ := same_ex s
  obtain ⟨B, hB⟩ : ∃ B : Nat, B = 1100 := ⟨_, rfl⟩
  have lt : one < 2 ^ B := one_lt (by omega)
  have v : vS r = some (rdS ((one : Int) - c)) := vS_sub (B := B) e vS_one hc (by omega) (by omega)
  refine ⟨r, e, s, _, v, rdS_nonneg (by omega), ?_⟩
  have := rdS_mono (show (one : Int) - c ≤ (one : Int) by omega)
  rwa [rdS_self vS_one] at this

structure ConeAt (n R : Int) (X Z : Nat) (c : Int) (q r : Nat) : Prop where
  rt : RootAt (floatOfInt .f32 n) (n * (one : Int)) X Z c
  q1 : floatBits .quo .f32 (rootW (floatOfInt .f32 n)) (floatOfInt .f32 R) = some q
  q2 : Same2 .quo 0 (rootW (floatOfInt .f32 n)) (floatOfInt .f32 R)
  r1 : floatBits .sub .f32 1065353216 q = some r
  r2 : Same2 .sub 1 1065353216 q
  w : coneW n R = r
  v : ∃ d, vS r = some d ∧ 0 ≤ d ∧ d ≤ (one : Int)

theorem cone_parts {n R : Int} (n0 : 0 ≤ n) (r1 : 1 ≤ R) (r2 : R ≤ 256) (h : n < R * R) : ∃ X Z c q r, ConeAt n R X Z c q r := by
  have hR : R * R ≤ 65536 := by
    have := Int.mul_le_mul r2 r2 (by omega) (by omega); omega
  obtain ⟨vn, bn⟩ := int_val (n := n) (by omega)
  obtain ⟨vr, _⟩ := int_val (n := R) (by omega)
  have hp : (0 : Int) < (one : Int) := Int.natCast_pos.2 one_pos
  obtain ⟨X, Z, c, RT⟩ := root_parts vn (Int.mul_nonneg n0 (by omega)) bn (by omega)
  obtain ⟨g, hg⟩ : ∃ g : Nat, R = g := ⟨R.toNat, by omega⟩
  have cR : c ≤ R * (one : Int) := by
    rw [hg]
    refine RT.hi g (by omega) ?_
    rw [Int.natCast_mul, ← hg]
    exact Int.mul_le_mul_of_nonneg_right (by omega) (by omega)
  have c0 := RT.nn
  have Rp : 0 < R * (one : Int) := Int.mul_pos (by omega) hp
  have q2 : Same2 .quo 0 (rootW (floatOfInt .f32 n)) (floatOfInt .f32 R) := div_val RT.val vr (by omega) (by omega) (by rw [Nat.pow_zero, Nat.mul_one]; omega)
  obtain ⟨q, q1, bq⟩ := same_ex q2
  obtain ⟨cq, hcq, _⟩ := val_bd bq
  obtain ⟨r, e1, e2, v⟩ := one_minus bq hcq (quo_sign q1 RT.val vr hcq c0 Rp)
  exact ⟨X, Z, c, q, r, RT, q1, q2, e1, e2, by unfold coneW quoW subW; rw [q1]; show (floatBits .sub .f32 1065353216 q).getD 0 = r; rw [e1]; rfl, v⟩

structure BellAt (n F : Int) (q t r : Nat) : Prop where
  q1 : floatBits .quo .f32 (floatOfInt .f32 n) (floatOfInt .f32 F) = some q
  q2 : Same2 .quo 0 (floatOfInt .f32 n) (floatOfInt .f32 F)
  t1 : floatBits .sub .f32 1065353216 q = some t
  t2 : Same2 .sub 1 1065353216 q
  r1 : floatBits .mul .f32 t t = some r
  r2 : Same2 .mul 0 t t
  w : mulW (bellT n F) (bellT n F) = r
  v : ∃ d, vS r = some d ∧ 0 ≤ d ∧ d ≤ (one : Int)

theorem unit_square {t : Nat} {a : Int} (h : vS t = some a) (a0 : 0 ≤ a) (a1 : a ≤ (one : Int)) : ∃ r, floatBits .mul .f32 t t = some r ∧ Same2 .mul 0 t t ∧ ∃ d, vS r = some d ∧ 0 ≤ d ∧ d ≤ (one : Int) := by
  have bt := bd_unit h (by omega) a1
  have s : Same2 .mul 0 t t := mul_same (a := 0) (b := 0) (by omega) bt bt
  obtain ⟨r, e, _⟩ := same_ex s
  obtain ⟨P, hP⟩ := mul_unit h h
  have hone : (0 : Int) < (one : Int) := Int.natCast_pos.2 one_pos
  have P0 : 0 ≤ P := by
    have := Int.mul_nonneg a0 a0
    rw [hP] at this
    exact Int.le_of_mul_le_mul_right (by rw [Int.zero_mul]; exact this) hone
  have P1 : P ≤ (one : Int) := by
    have := Int.mul_le_mul a1 a1 a0 (Int.le_of_lt hone)
    rw [hP] at this
    exact Int.le_of_mul_le_mul_right this hone
  obtain ⟨B, hB⟩ : ∃ B : Nat, B = 1100 := ⟨_, rfl⟩
  have lt : one < 2 ^ B := one_lt (by omega)
  have v := vS_mul (B := B) e h h hP (by omega) (by omega)
  refine ⟨r, e, s, _, v, rdS_nonneg P0, ?_⟩
  have := rdS_mono P1
  rwa [rdS_self vS_one] at this

theorem bell_parts {n F : Int} (n0 : 0 ≤ n) (f2 : F ≤ 65536) (h : n < F) : ∃ q t r, BellAt n F q t r := by
  obtain ⟨vn, bn⟩ := int_val (n := n) (by omega)
  obtain ⟨vf, _⟩ := int_val (n := F) (by omega)
  have hp : (0 : Int) < (one : Int) := Int.natCast_pos.2 one_pos
  have Fp : 0 < F * (one : Int) := Int.mul_pos (by omega) hp
  have N0 : 0 ≤ n * (one : Int) := Int.mul_nonneg n0 (by omega)
  have NF : n * (one : Int) ≤ F * (one : Int) := Int.mul_le_mul_of_nonneg_right (by omega) (by omega)
  have q2 : Same2 .quo 0 (floatOfInt .f32 n) (floatOfInt .f32 F) := div_val vn vf (by omega) (by omega) (by rw [Nat.pow_zero, Nat.mul_one]; omega)
  obtain ⟨q, q1, bq⟩ := same_ex q2
  obtain ⟨cq, hcq, _⟩ := val_bd bq
  obtain ⟨t, t1, t2, d, vd, d0, d1⟩ := one_minus bq hcq (quo_sign q1 vn vf hcq N0 Fp)
  obtain ⟨r, r1, r2, v⟩ := unit_square vd d0 d1
  have et : bellT n F = t := by unfold bellT quoW subW; rw [q1]; show (floatBits .sub .f32 1065353216 q).getD 0 = t; rw [t1]; rfl
  exact ⟨q, t, r, q1, q2, t1, t2, r1, r2, by rw [et]; unfold mulW; rw [r1]; rfl, v⟩

/-- A weight lies from 0 to 1. -/
theorem wei_in {k n R : Int} (n0 : 0 ≤ n) (r1 : 1 ≤ R) (r2 : R ≤ 256) : ∃ d, vS (weiW k n R) = some d ∧ 0 ≤ d ∧ d ≤ (one : Int) := by
  have hp := one_pos
  have hR : R * R ≤ 65536 := by
    have := Int.mul_le_mul r2 r2 (by omega) (by omega); omega
  unfold weiW
  split
  · exact ⟨0, vS_zero, by omega, by omega⟩
  · rename_i h
    split
    · obtain ⟨X, Z, c, q, r, C⟩ := cone_parts n0 r1 r2 (by omega)
      rw [C.w]; exact C.v
    · split
      · obtain ⟨q, t, r, C⟩ := bell_parts n0 hR (by omega)
        rw [C.w]; exact C.v
      · exact ⟨_, vS_one, by omega, by omega⟩
end Go.Proofs.Ytkcehbnmcdppkaa

/- Contracts: slices.Contains of the three kinds, CheckPlace, CheckBrush of both sides, the boxes. -/
namespace Go.Proofs.Ytkcehbnmcdppkaa
open Go.RowKit Fl
set_option linter.unusedVariables false

abbrev kindsObj : Obj := .cells #[.int .i64 1, .int .i64 2, .int .i64 3] 3

/-- The error of a place. -/
def plcE (x y : Int) : Int := if withinB x (-4194304) 4194304 = true ∧ withinB y (-4194304) 4194304 = true then 0 else 5

/-- A brush as a value; its cells. -/
abbrev bru (k X Y R : Int) (h : Nat) : Value := .agg #[.int .i64 k, .int .i64 X, .int .i64 Y, .int .i64 R, .float .f32 h]
/-- The error of a brush. -/
def bruE (k X Y R : Int) (h : Nat) : Int := if withinB k 1 3 = false then 1 else if plcE X Y ≠ 0 then plcE X Y else if withinB R 1 256 = false then 3 else fldE 1 (fun _ => h)

theorem plcE_cases (x y : Int) : plcE x y = 0 ∨ plcE x y = 5 := by unfold plcE; split <;> simp

end Go.Proofs.Ytkcehbnmcdppkaa

/- Contracts: far, onLine; the reference's Div. -/
namespace Go.Proofs.Ytkcehbnmcdppkaa
open Go.RowKit Fl
set_option linter.unusedVariables false

abbrev ptObj (x y : Int) : Obj := .cells #[.int .i64 x, .int .i64 y] 73
theorem run_maxI4 (ts : Array TypeId) (t : TypeId) (a b c d : Int) (w : World) :
    (Builtin.max_ ts t #[.int .i64 a, .int .i64 b, .int .i64 c, .int .i64 d]).run Try.prog w = .ok (.int .i64 (maxI (maxI (maxI a b) c) d)) w := by
  unfold maxI
  simp [Builtin.max_, Builtin.max2, List.foldlM, go_sem]
  <;> rfl

end Go.Proofs.Ytkcehbnmcdppkaa

/- Contracts: line; Line. -/
namespace Go.Proofs.Ytkcehbnmcdppkaa
open Go.RowKit Fl
set_option linter.unusedVariables false

/-- What a line of places is. -/
def PtsPost (w : World) (n : Nat) (T : Nat → Pnt) (e : Ending) (w' : World) : Prop :=
  ∃ g cap, e = .returned (.slice (some ⟨g, 0, none⟩) n cap) ∧ w.heap.size ≤ g ∧ PtRow w' g n T ∧ Below w.heap.size w w'

/-- Behind the first append: one place is there. -/
def OnePt (w1 : World) (T : Nat → Pnt) (s6 : Value) (wx : World) : Prop := PtAt w1 w1.heap.size T 1 s6 wx

theorem ptDrew {w : World} {b : Nat} {o : Obj} (h : w.heap[b]? = some o) : w.drew.heap[b]? = some o := h
theorem take_two {cs : Array Value} (a b : Value) (h : 2 ≤ cs.size) : ((cs.setIfInBounds 0 a).setIfInBounds 1 b).toList.take 2 = [a, b] := by
  obtain ⟨l⟩ := cs
  match l, h with
  | x :: y :: r, _ => simp
theorem onePt_of {w1 w6 : World} {T : Nat → Pnt} {p n : Nat} {cs : Array Value} {x y : Int} (hn : n ≤ 65536) (hs : cs.size = (n + 1) * 2) (hL : (T 0).cells.toList = [.int .i64 x, .int .i64 y]) (hb : Below w1.heap.size w1 w6) (hp : w1.heap.size ≤ p)
    (h : w6.heap[p]? = some (.cells ((cs.setIfInBounds 0 (.int .i64 x)).setIfInBounds 1 (.int .i64 y)) 73 (0, 0))) : OnePt w1 T (.slice (some ⟨p, 0, none⟩) 1 (n + 1)) w6 :=
  ⟨⟨by simp [ptsL], .inr ⟨_, n + 1, _, rfl, hp, h, by omega, by unfold maxLen; omega, by simp [hs], by rw [show 1 * 2 = 2 by rfl, take_two _ _ (by omega)]; simp only [ptsL, List.nil_append]; exact hL.symm⟩⟩, hb, hb.size⟩

end Go.Proofs.Ytkcehbnmcdppkaa

/- Contracts: Line. -/
namespace Go.Proofs.Ytkcehbnmcdppkaa
open Go.RowKit Fl
set_option linter.unusedVariables false

/-- What Line answers. -/
def linE (ax ay cx cy : Int) : Int := if plcE ax ay ≠ 0 then 5 else if plcE cx cy ≠ 0 then 5 else if 65536 ≤ farI ⟨ax, ay⟩ ⟨cx, cy⟩ then 4 else 0
theorem plcE_ok {x y : Int} (h : plcE x y = 0) : -4194304 ≤ x ∧ x ≤ 4194304 ∧ -4194304 ≤ y ∧ y ≤ 4194304 := by
  unfold plcE at h
  split at h
  · rename_i c
    have a := withinB_iff.1 c.1
    have b := withinB_iff.1 c.2
    omega
  · cases h
/-- A line of places is there. -/
def LinePost (w : World) (n : Nat) (T : Nat → Pnt) (e : Ending) (w' : World) : Prop :=
  ∃ g cap, e = .returned (.tuple #[.slice (some ⟨g, 0, none⟩) n cap, .int .i64 0]) ∧ w.heap.size ≤ g ∧ PtRow w' g n T ∧ Below w.heap.size w w'
end Go.Proofs.Ytkcehbnmcdppkaa

/- Contracts: the second reference's Has, Cell, Place; bits of the second laws. -/
namespace Go.Proofs.Ytkcehbnmcdppkaa
open Go.RowKit Fl
set_option linter.unusedVariables false

theorem ret_two {a b a' b' : Int} (h : a = a') (h' : b = b') : Ending.returned (.tuple #[.int .i64 a, .int .i64 b]) = .returned (.tuple #[.int .i64 a', .int .i64 b']) := by rw [h, h']

set_option maxHeartbeats 1000000 in
theorem qHas_any (X Y W H x y : Int) (w : World) (hX1 : -16777216 ≤ X) (hX2 : X ≤ 16777216) (hY1 : -16777216 ≤ Y) (hY2 : Y ≤ 16777216) (hW1 : 0 ≤ W) (hW2 : W ≤ 512) (hH1 : 0 ≤ H) (hH2 : H ≤ 512) :
    Calls Try.prog 123 #[reg X Y W H, .int .i64 x, .int .i64 y] w fun e w' => e = .returned (.bool (hasB X Y W H x y)) ∧ Below w.heap.size w w' := by
  have HB := Lib.hid (show hasB X Y W H x y = (decide (X ≤ x ∧ x ≤ X + W - 1) && decide (Y ≤ y ∧ y ≤ Y + H - 1)) by
    unfold hasB; rw [Bool.eq_iff_iff]; simp [withinB_iff])
  go_enter Try.func123, Try.ntmps123
  go_wp2
  all_goals go_ret
  all_goals exact ⟨ret_bool (by rw [HB.out, Bool.eq_iff_iff]; simp; omega), (by repeat (first | exact Below.refl _ _ | refine Below.alloc ?_ (by first | omega | (simp; done) | (simp; omega)) _ | refine Below.setCell ?_ (by first | omega | (simp; done) | (simp; omega)) _ | refine Below.drew ?_))⟩

set_option maxHeartbeats 1000000 in
theorem qCell_any (X Y W H x y : Int) (w : World) (hX1 : -16777216 ≤ X) (hX2 : X ≤ 16777216) (hY1 : -16777216 ≤ Y) (hY2 : Y ≤ 16777216) (hW1 : 0 ≤ W) (hW2 : W ≤ 512)
    (h1 : -16777216 ≤ x) (h2 : x ≤ 16777216) (h3 : -16777216 ≤ y) (h4 : y ≤ 16777216) :
    Calls Try.prog 119 #[reg X Y W H, .int .i64 x, .int .i64 y] w fun e w' => e = .returned (.int .i64 ((y - Y) * W + (x - X))) ∧ Below w.heap.size w w' := by
  have q1 : (y - Y) * W ≤ 33554432 * W := Int.mul_le_mul_of_nonneg_right (by omega) hW1
  have q2 : (-33554432) * W ≤ (y - Y) * W := Int.mul_le_mul_of_nonneg_right (by omega) hW1
  have e2 : wrap64 ((y - Y) * W) = (y - Y) * W := IntWalk.wrap64_in _ ⟨by omega, by omega⟩
  have e3 : wrap64 ((y - Y) * W + x) = (y - Y) * W + x := IntWalk.wrap64_in _ ⟨by omega, by omega⟩
  have e4 : wrap64 ((y - Y) * W + x - X) = (y - Y) * W + (x - X) := by rw [IntWalk.wrap64_in _ ⟨by omega, by omega⟩]; omega
  clear q1 q2
  go_enter Try.func119, Try.ntmps119
  go_wp2
  go_ret
  exact ⟨ret_int e4, (by repeat (first | exact Below.refl _ _ | refine Below.alloc ?_ (by first | omega | (simp; done) | (simp; omega)) _ | refine Below.setCell ?_ (by first | omega | (simp; done) | (simp; omega)) _ | refine Below.drew ?_))⟩

set_option maxHeartbeats 1000000 in
theorem qPlace_any (X Y : Int) (W H i : Nat) (w : World) (hX1 : -4194304 ≤ X) (hX2 : X ≤ 4194304) (hY1 : -4194304 ≤ Y) (hY2 : Y ≤ 4194304) (hW1 : 1 ≤ W) (hW2 : W ≤ 512) (hi : i < 65536) :
    Calls Try.prog 117 #[reg X Y W H, .int .i64 i] w fun e w' => e = .returned (.tuple #[.int .i64 (X + ((i % W : Nat) : Int)), .int .i64 (Y + ((i / W : Nat) : Int))]) ∧ Below w.heap.size w w' := by
  obtain ⟨a, ha⟩ : ∃ a : Nat, a = i % W := ⟨_, rfl⟩
  obtain ⟨b, hb'⟩ : ∃ b : Nat, b = i / W := ⟨_, rfl⟩
  have b1 : (a : Int) < 512 := by have := Nat.mod_lt i (show 0 < W by omega); omega
  have b2 : (b : Int) < 65536 := by have := Nat.div_le_self i W; omega
  have t1 : (i : Int).tmod (W : Int) = (a : Int) := by rw [ha]; rw [Int.tmod_eq_emod_of_nonneg (by omega)]; simp
  have t2 : (i : Int).tdiv (W : Int) = (b : Int) := by rw [hb']; rw [Int.tdiv_eq_ediv_of_nonneg (by omega)]; simp
  have t3 : (i : Int) % (W : Int) = (a : Int) := by rw [ha]; simp
  have t4 : (i : Int) / (W : Int) = (b : Int) := by rw [hb']; simp
  have u1 : IntKind.i64.wrap (X + (a : Int)) = X + a := IntWalk.i64_in _ (by omega)
  have u2 : IntKind.i64.wrap (Y + (b : Int)) = Y + b := IntWalk.i64_in _ (by omega)
  have u3 : IntKind.i64.wrap (b : Int) = b := IntWalk.i64_in _ (by omega)
  have w0 : ¬ ((W : Int) = 0) := by omega
  have w0' : ¬ (W = 0) := by omega
  have t6 : i % W = a := ha.symm
  have t7 : i / W = b := hb'.symm
  have w1 : (1 : Int) ≤ (W : Int) := by omega
  have i0 : (0 : Int) ≤ (i : Int) := by omega
  rw [t6, t7]
  clear ha hb'
  go_enter Try.func117, Try.ntmps117
  go_wp2
  go_region
  all_goals go_wp2
  all_goals refine bodyPost_ret (v := .tuple #[.int .i64 (X + (a : Int)), .int .i64 (Y + (b : Int))]) (by simp [results, Try.results117, go_sem]) rfl ?_
  all_goals exact ⟨rfl, by repeat (first | exact Below.refl _ _ | refine Below.drew ?_ | refine Below.alloc ?_ (by simp; try omega) _ | refine Below.setCell ?_ (by simp; try omega) _)⟩

theorem enters_bits1 : Enters 121 := by intro args W; simp [callFunc, Try.func121, Try.f121]

set_option maxHeartbeats 400000 in
theorem bits1_self (x : Nat) (w : World) :
    Calls Try.prog 121 #[.float .f32 x, .float .f32 x] w fun e w' => e = .returned (.bool true) ∧ w = w' := by
  have h1 := f32bits
  go_enter Try.func121, Try.ntmps121
  go_wp2
  go_ret
  exact ⟨rfl, rfl⟩

set_option maxHeartbeats 1000000 in
theorem equalFuncB_row (b b' cap cap' n : Nat) (v : Nat → Nat) (hl : n ≤ 9223372036854775807) (w : World) (hc : FlAt w b 0 n v) (hc' : FlAt w b' 0 n v) :
    Calls Try.prog 120 #[.slice (some ⟨b, 0, none⟩) n cap, .slice (some ⟨b', 0, none⟩) n cap', .func (.func 121) #[] #[]] w fun e w' => e = .returned (.bool true) ∧ w = w' := by
  have hcall := enters_bits1
  unfold Enters at hcall
  go_enter Try.func120, Try.ntmps120
  go_wp2
  go_loop [17] (fun i => ∃ k : Nat, k ≤ n ∧ i = .int .i64 k) (fun i => n - (intOf i).toNat)
  case atStart => exact ⟨0, Nat.zero_le _, rfl⟩
  case round =>
    obtain ⟨k, hk, rfl⟩ := hrel
    by_cases hlt : k < n
    · have hcell := hc k hlt
      have hcell' := hc' k hlt
      rw [Nat.zero_add] at hcell hcell'
      have IH := Lib.hid (fun w => bits1_self (v k) w)
      go_wp2_with fail
      refine (IH.out _).mono ?_
      rintro e w' ⟨rfl, rfl⟩
      go_wp2
      go_round
      case rel => exact ⟨k + 1, by omega, by go_num⟩
      case measure => simp [intOf]; omega
    · go_wp2
      go_ret
      exact ⟨rfl, rfl⟩

set_option maxHeartbeats 1000000 in
theorem bits_any (b b' cap cap' n : Nat) (v : Nat → Nat) (hl : n ≤ 9223372036854775807) (w : World) (hc : FlAt w b 0 n v) (hc' : FlAt w b' 0 n v) :
    Calls Try.prog 53 #[.slice (some ⟨b, 0, none⟩) n cap, .slice (some ⟨b', 0, none⟩) n cap'] w fun e w' => e = .returned (.bool true) ∧ w = w' := by
  have EF := Lib.hid (equalFuncB_row b b' cap cap' n v hl w hc hc')
  clear hc hc'
  go_enter Try.func53, Try.ntmps53
  go_wp2_with (go_at_call 120; refine EF.out.mono ?_; rintro e w' ⟨rfl, rfl⟩)
  go_ret
  exact ⟨rfl, rfl⟩
end Go.Proofs.Ytkcehbnmcdppkaa

/- Whether a single is finite, whether it is a height, as the references of chapters 4 to 10 ask it: by comparisons. -/
namespace Go.Proofs.Ytkcehbnmcdppkaa.Fl
open Ieee

/-- A finite single passes all three tests. -/
theorem num_fin {x : Nat} (h : finB x = true) : (single.order x x == some .eq) = true ∧ (single.order x 2139095039 == some .gt) = false ∧ (single.order x 4286578687 == some .lt) = false := by
  unfold finB at h
  cases hv : vS x with
  | none => rw [hv] at h; cases h
  | some a =>
    obtain ⟨h1, h2⟩ := vS_le hv
    refine ⟨by rw [eql_val hv hv]; simp, by rw [gtr_val hv vS_max]; simp; omega, by rw [lss_val hv vS_min]; simp; omega⟩
/-- Any other falls at one of them. -/
theorem num_inf {x : Nat} (h : finB x = false) : (single.order x x == some .eq) = false ∨ ((single.order x x == some .eq) = true ∧ (single.order x 2139095039 == some .gt) = true) ∨
    ((single.order x x == some .eq) = true ∧ (single.order x 2139095039 == some .gt) = false ∧ (single.order x 4286578687 == some .lt) = true) := by
  unfold finB at h
  cases hv : vS x with
  | some a => rw [hv] at h; cases h
  | none =>
    rcases vS_none hv with ⟨s, hs⟩ | hn
    · right
      have e := self_eq (x := x) (by rw [hs]; rfl)
      cases s with
      | false => exact .inl ⟨e, by unfold Format.order; rw [hs, readMax]; rfl⟩
      | true => exact .inr ⟨e, by unfold Format.order; rw [hs, readMax]; rfl, by unfold Format.order; rw [hs, readMin]; rfl⟩
    · exact .inl (self_ne hn)
/-- A height passes both tests. -/
theorem num_hgt {x : Nat} (h : hgtB x = true) : (single.order x 1233125376 == some .gt) = false ∧ (single.order x 3380609024 == some .lt) = false := by
  unfold hgtB at h
  cases hv : vS x with
  | none => rw [hv] at h; cases h
  | some a =>
    rw [hv] at h
    simp at h
    refine ⟨by rw [gtr_val hv vS_top]; simp; omega, by rw [lss_val hv vS_bot]; simp; omega⟩
/-- A finite single that is none falls at one. -/
theorem num_out {x : Nat} (f : finB x = true) (h : hgtB x = false) : (single.order x 1233125376 == some .gt) = true ∨ ((single.order x 1233125376 == some .gt) = false ∧ (single.order x 3380609024 == some .lt) = true) := by
  unfold finB at f
  unfold hgtB at h
  cases hv : vS x with
  | none => rw [hv] at f; cases f
  | some a =>
    rw [hv] at h
    simp at h
    rw [gtr_val hv vS_top, lss_val hv vS_bot]
    by_cases c : vTop < a
    · exact .inl (by simp [c])
    · exact .inr ⟨by simp [c], by simp; by_cases d : -vTop ≤ a; have := h d; omega; omega⟩
end Go.Proofs.Ytkcehbnmcdppkaa.Fl

/- Contract: the references' NumberError over a list of singles that is known cell by cell. -/
namespace Go.Proofs.Ytkcehbnmcdppkaa
open Go.RowKit Fl
set_option linter.unusedVariables false

set_option maxHeartbeats 2000000 in
theorem qNumberError_row (b off cap n : Nat) (v : Nat → Nat) (hl : n ≤ 9223372036854775807) (w : World) (hc : FlAt w b off n v) :
    Calls Try.prog 24 #[.slice (some ⟨b, off, none⟩) n cap] w fun e w' => e = .returned (.int .i64 (fldE n v)) ∧ w = w' := by
  go_enter Try.func24, Try.ntmps24
  go_wp2
  go_loop [9] (fun i => ∃ k : Nat, k ≤ n ∧ i = .int .i64 k ∧ allB k (fun i => finB (v i)) = true) (fun i => n - (intOf i).toNat)
  case atStart => exact ⟨0, Nat.zero_le _, rfl, rfl⟩
  case round =>
    obtain ⟨k, hk, rfl, hall⟩ := hrel
    have HA := Lib.hid hall
    clear hall
    by_cases hlt : k < n
    · have hcell := hc k hlt
      cases hf : finB (v k) with
      | true =>
        have HB := Lib.hid hf
        obtain ⟨t1, t2, t3⟩ := num_fin hf
        rw [← f32fmt] at t1 t2 t3
        have t1' : (FloatKind.f32.format.order (v k) (v k) != some .eq) = false := by rw [bne, t1]; rfl
        clear hf t1
        go_wp2
        go_round
        case rel => exact ⟨k + 1, by omega, by go_num, allB_iff.2 fun i hi => by rcases Nat.lt_or_ge i k with c | c; exact allB_iff.1 HA.out i c; rw [show i = k by omega]; exact HB.out⟩
        case measure => simp [intOf]; omega
      | false =>
        have HB := Lib.hid hf
        rcases num_inf hf with t1 | ⟨t1, t2⟩ | ⟨t1, t2, t3⟩
        · rw [← f32fmt] at t1
          have t1' : (FloatKind.f32.format.order (v k) (v k) != some .eq) = true := by rw [bne, t1]; rfl
          clear hf t1
          go_wp2
          go_ret
          exact ⟨ret_int (by unfold fldE; rw [allB_no hlt HB.out]; rfl), rfl⟩
        · rw [← f32fmt] at t1 t2
          have t1' : (FloatKind.f32.format.order (v k) (v k) != some .eq) = false := by rw [bne, t1]; rfl
          clear hf t1
          go_wp2
          go_ret
          exact ⟨ret_int (by unfold fldE; rw [allB_no hlt HB.out]; rfl), rfl⟩
        · rw [← f32fmt] at t1 t2 t3
          have t1' : (FloatKind.f32.format.order (v k) (v k) != some .eq) = false := by rw [bne, t1]; rfl
          clear hf t1
          go_wp2
          go_ret
          exact ⟨ret_int (by unfold fldE; rw [allB_no hlt HB.out]; rfl), rfl⟩
    · have hkn : k = n := by omega
      subst hkn
      go_wp2
      go_loop [27] (fun i => ∃ j : Nat, j ≤ k ∧ i = .int .i64 j ∧ allB j (fun i => hgtB (v i)) = true) (fun i => k - (intOf i).toNat)
      case atStart => exact ⟨0, Nat.zero_le _, rfl, rfl⟩
      case round =>
        obtain ⟨j, hj, rfl, hall2⟩ := hrel
        have HH := Lib.hid hall2
        clear hall2
        by_cases hlt2 : j < k
        · have hcell := hc j hlt2
          cases hb : hgtB (v j) with
          | true =>
            have HB := Lib.hid hb
            obtain ⟨t1, t2⟩ := num_hgt hb
            rw [← f32fmt] at t1 t2
            clear hb
            go_wp2
            go_round
            case rel => exact ⟨j + 1, by omega, by go_num, allB_iff.2 fun i hi => by rcases Nat.lt_or_ge i j with c | c; exact allB_iff.1 HH.out i c; rw [show i = j by omega]; exact HB.out⟩
            case measure => simp [intOf]; omega
          | false =>
            have HB := Lib.hid hb
            rcases num_out (allB_iff.1 HA.out j hlt2) hb with t1 | ⟨t1, t2⟩
            · rw [← f32fmt] at t1
              clear hb
              go_wp2
              go_ret
              exact ⟨ret_int (by unfold fldE hgtE; rw [HA.out, allB_no hlt2 HB.out]; rfl), rfl⟩
            · rw [← f32fmt] at t1 t2
              clear hb
              go_wp2
              go_ret
              exact ⟨ret_int (by unfold fldE hgtE; rw [HA.out, allB_no hlt2 HB.out]; rfl), rfl⟩
        · go_wp2
          go_ret
          have : j = k := by omega
          subst this
          exact ⟨ret_int (by unfold fldE hgtE; rw [HA.out, HH.out]; rfl), rfl⟩
end Go.Proofs.Ytkcehbnmcdppkaa

/- Contracts: the laws' within, when, first (of two, of three). -/
namespace Go.Proofs.Ytkcehbnmcdppkaa
open Go.RowKit
set_option linter.unusedVariables false

set_option maxHeartbeats 400000 in
theorem mWithin_any (n a b : Int) (w : World) :
    Calls Try.prog 29 #[.int .i64 n, .int .i64 a, .int .i64 b] w fun e w' => e = .returned (.bool (withinB n a b)) ∧ w = w' := by
  go_enter Try.func29, Try.ntmps29
  go_wp2
  all_goals go_ret
  all_goals exact ⟨ret_bool (by rw [Bool.eq_iff_iff, withinB_iff]; simp; omega), rfl⟩

def whenE (c : Bool) (k : Int) : Int := if c = true then k else 0
set_option maxHeartbeats 400000 in
theorem when_any (c : Bool) (k : Int) (w : World) :
    Calls Try.prog 28 #[.bool c, .int .i64 k] w fun e w' => e = .returned (.int .i64 (whenE c k)) ∧ w = w' := by
  unfold whenE
  cases c
  all_goals
    go_enter Try.func28, Try.ntmps28
    go_wp2
    go_ret
    exact ⟨rfl, rfl⟩

inductive FirstAt (a b : Int) : Value → Prop where
  | z : FirstAt a b (.int .i64 0)
  | a (h : a = 0) : FirstAt a b (.int .i64 1)
  | b (h : a = 0) (h' : b = 0) : FirstAt a b (.int .i64 2)
def firstE (a b : Int) : Int := if a = 0 then b else a
set_option maxHeartbeats 1000000 in
theorem first2_any (a b : Int) (p : Nat) (w : World) (h : w.heap[p]? = some (.cells #[.int .i64 a, .int .i64 b] 25)) :
    Calls Try.prog 22 #[.slice (some ⟨p, 0, none⟩) 2 2] w fun e w' => e = .returned (.int .i64 (firstE a b)) ∧ w = w' := by
  unfold firstE
  obtain ⟨c, f, z⟩ := blkC h
  clear h
  go_enter Try.func22, Try.ntmps22
  go_wp2
  go_loop [7] (fun i => FirstAt a b i) (fun i => 2 - (intOf i).toNat)
  case atStart => exact .z
  case round =>
    rcases hrel with _ | ha | ⟨ha, hb⟩
    · by_cases h0 : a = 0
      · subst h0
        go_wp2
        go_round
        case rel => exact .a rfl
        case measure => simp [intOf]
      · go_wp2
        go_ret
        exact ⟨by simp, rfl⟩
    · subst ha
      by_cases h0 : b = 0
      · subst h0
        go_wp2
        go_round
        case rel => exact .b rfl rfl
        case measure => simp [intOf]
      · go_wp2
        go_ret
        exact ⟨rfl, rfl⟩
    · subst ha hb
      go_wp2
      go_ret
      exact ⟨rfl, rfl⟩

theorem firstE_zero {a b : Int} (h : firstE a b = 0) : a = 0 ∧ b = 0 := by
  unfold firstE at h
  by_cases q : a = 0
  · rw [if_pos q] at h; exact ⟨q, h⟩
  · rw [if_neg q] at h; exact absurd h q
theorem whenE_zero {c : Bool} {k : Int} (hk : k ≠ 0) (h : whenE c k = 0) : c = false := by
  unfold whenE at h
  cases c with
  | false => rfl
  | true => rw [if_pos rfl] at h; exact absurd h hk

inductive First3At (a b c : Int) : Value → Prop where
  | z : First3At a b c (.int .i64 0)
  | a (h : a = 0) : First3At a b c (.int .i64 1)
  | b (h : a = 0) (h' : b = 0) : First3At a b c (.int .i64 2)
  | c (h : a = 0) (h' : b = 0) (h'' : c = 0) : First3At a b c (.int .i64 3)
set_option maxHeartbeats 1000000 in
theorem first3_any (a b c : Int) (p : Nat) (w : World) (h : w.heap[p]? = some (.cells #[.int .i64 a, .int .i64 b, .int .i64 c] 25)) :
    Calls Try.prog 22 #[.slice (some ⟨p, 0, none⟩) 3 3] w fun e w' => e = .returned (.int .i64 (firstE (firstE a b) c)) ∧ w = w' := by
  unfold firstE
  obtain ⟨cc, f, z⟩ := blkC h
  clear h
  go_enter Try.func22, Try.ntmps22
  go_wp2
  go_loop [7] (fun i => First3At a b c i) (fun i => 3 - (intOf i).toNat)
  case atStart => exact .z
  case round =>
    rcases hrel with _ | ha | ⟨ha, hb⟩ | ⟨ha, hb, hc⟩
    · by_cases h0 : a = 0
      · subst h0
        go_wp2
        go_round
        case rel => exact .a rfl
        case measure => simp [intOf]
      · go_wp2
        go_ret
        exact ⟨by first | (simp; done) | simp [h0], rfl⟩
    · subst ha
      by_cases h0 : b = 0
      · subst h0
        go_wp2
        go_round
        case rel => exact .b rfl rfl
        case measure => simp [intOf]
      · go_wp2
        go_ret
        exact ⟨by first | (simp; done) | simp [h0], rfl⟩
    · subst ha hb
      by_cases h0 : c = 0
      · subst h0
        go_wp2
        go_round
        case rel => exact .c rfl rfl rfl
        case measure => simp [intOf]
      · go_wp2
        go_ret
        exact ⟨by first | (simp; done) | simp [h0], rfl⟩
    · subst ha hb hc
      go_wp2
      go_ret
      exact ⟨rfl, rfl⟩
end Go.Proofs.Ytkcehbnmcdppkaa

/- Contracts: the reference's RegionError, Place, Mixed; the law's within, when, first (of two). -/
namespace Go.Proofs.Ytkcehbnmcdppkaa
open Go.RowKit Fl
set_option linter.unusedVariables false

set_option maxHeartbeats 400000 in
theorem qRegionError_any (x y ww hh : Int) (w : World) :
    Calls Try.prog 83 #[reg x y ww hh] w fun e w' => e = .returned (.int .i64 (checkR x y ww hh)) ∧ w' = w.alloc (regObj x y ww hh) := by
  go_enter Try.func83, Try.ntmps83
  go_wp2
  all_goals go_ret
  all_goals refine ⟨ret_int (Eq.symm ?_), rfl⟩
  all_goals first
    | exact checkR_range (by simp only [withinB_no]; omega)
    | exact checkR_large (by simp only [withinB_iff]; omega) (by simp only [withinB_iff]; omega) (by omega)
    | exact checkR_place (by simp only [withinB_iff]; omega) (by simp only [withinB_iff]; omega) (by omega) (by simp only [withinB_no]; omega)
    | exact checkR_ok (by simp only [withinB_iff]; omega) (by simp only [withinB_iff]; omega) (by omega) (by simp only [withinB_iff]; omega) (by simp only [withinB_iff]; omega)

end Go.Proofs.Ytkcehbnmcdppkaa

/- Contracts: Check of any field, and the references' FieldError: one answer. -/
namespace Go.Proofs.Ytkcehbnmcdppkaa
open Go.RowKit Fl
set_option linter.unusedVariables false

/-- The error of a field whose numbers have the error er. -/
def fldChk (X Y W H : Int) (n : Nat) (er : Int) : Int := if checkR X Y W H ≠ 0 then checkR X Y W H else if (n : Int) ≠ W * H then 2 else er

set_option maxHeartbeats 1000000 in
theorem checkA_any (X Y W H : Int) (a : Option Addr) (n cap : Nat) (er : Int) (w : World) (CH0 : ∀ W', Below w.heap.size w W' → Calls Try.prog 76 #[.slice a n cap] W' fun e w' => e = .returned (.int .i64 er) ∧ W' = w') :
    Calls Try.prog 87 #[fldV X Y W H (.slice a n cap)] w fun e w' => e = .returned (.int .i64 (fldChk X Y W H n er)) ∧ Below w.heap.size w w' := by
  have CH := Lib.hid CH0
  clear CH0
  have RC := Lib.hid (fun w => checkRegion_any X Y W H w)
  unfold fldChk
  by_cases h0 : checkR X Y W H = 0
  · obtain ⟨b1, b2, b3, b4, b5, _⟩ := checkR_zero h0
    rw [if_neg (by simp [h0])]
    rw [h0] at RC
    have en : wrap64 (W * H) = W * H := IntWalk.wrap64_in _ ⟨by have := (mul_side b1 b2 b3 b4).1; omega, by omega⟩
    by_cases hl : (n : Int) = W * H
    · rw [if_neg (by simp [hl])]
      have en : wrap64 (W * H) = (n : Int) := by rw [en, hl]
      clear h0 b1 b2 b3 b4 b5 hl
      go_enter Try.func87, Try.ntmps87
      go_wp2_with (first | (go_at_call 84; refine (RC.out _).mono ?_; rintro e w' ⟨rfl, rfl⟩) | (go_at_call 76; refine (CH.out _ (by repeat (first | exact Below.refl _ _ | refine Below.alloc ?_ (by first | omega | (simp; done) | (simp; omega)) _ | refine Below.setCell ?_ (by first | omega | (simp; done) | (simp; omega)) _ | refine Below.drew ?_))).mono ?_; rintro e w' ⟨rfl, rfl⟩))
      go_ret
      exact ⟨rfl, (by repeat (first | exact Below.refl _ _ | refine Below.alloc ?_ (by first | omega | (simp; done) | (simp; omega)) _ | refine Below.setCell ?_ (by first | omega | (simp; done) | (simp; omega)) _ | refine Below.drew ?_))⟩
    · rw [if_pos hl]
      have hl' : ((n : Int) != W * H) = true := by simpa using hl
      clear h0 b1 b2 b3 b4 b5 hl CH
      go_enter Try.func87, Try.ntmps87
      go_wp2_with (first | (go_at_call 84; refine (RC.out _).mono ?_; rintro e w' ⟨rfl, rfl⟩))
      go_ret
      exact ⟨rfl, (by repeat (first | exact Below.refl _ _ | refine Below.alloc ?_ (by first | omega | (simp; done) | (simp; omega)) _ | refine Below.setCell ?_ (by first | omega | (simp; done) | (simp; omega)) _ | refine Below.drew ?_))⟩
  · rw [if_pos h0]
    generalize checkR X Y W H = r at *
    have h1 : (r != 0) = true := by simpa using h0
    clear h0 CH
    go_enter Try.func87, Try.ntmps87
    go_wp2_with (first | (go_at_call 84; refine (RC.out _).mono ?_; rintro e w' ⟨rfl, rfl⟩))
    go_ret
    exact ⟨rfl, (by repeat (first | exact Below.refl _ _ | refine Below.alloc ?_ (by first | omega | (simp; done) | (simp; omega)) _ | refine Below.setCell ?_ (by first | omega | (simp; done) | (simp; omega)) _ | refine Below.drew ?_))⟩

set_option maxHeartbeats 1000000 in
theorem qFieldError_any (X Y W H : Int) (a : Option Addr) (n cap : Nat) (er : Int) (w : World) (CH0 : ∀ W', Below w.heap.size w W' → Calls Try.prog 24 #[.slice a n cap] W' fun e w' => e = .returned (.int .i64 er) ∧ W' = w') :
    Calls Try.prog 32 #[fldV X Y W H (.slice a n cap)] w fun e w' => e = .returned (.int .i64 (fldChk X Y W H n er)) ∧ Below w.heap.size w w' := by
  have CH := Lib.hid CH0
  clear CH0
  have RC := Lib.hid (fun w => qRegionError_any X Y W H w)
  unfold fldChk
  by_cases h0 : checkR X Y W H = 0
  · obtain ⟨b1, b2, b3, b4, b5, _⟩ := checkR_zero h0
    rw [if_neg (by simp [h0])]
    rw [h0] at RC
    have en : wrap64 (W * H) = W * H := IntWalk.wrap64_in _ ⟨by have := (mul_side b1 b2 b3 b4).1; omega, by omega⟩
    by_cases hl : (n : Int) = W * H
    · rw [if_neg (by simp [hl])]
      have en : wrap64 (W * H) = (n : Int) := by rw [en, hl]
      clear h0 b1 b2 b3 b4 b5 hl
      go_enter Try.func32, Try.ntmps32
      go_wp2_with (first | (go_at_call 83; refine (RC.out _).mono ?_; rintro e w' ⟨rfl, rfl⟩) | (go_at_call 24; refine (CH.out _ (by repeat (first | exact Below.refl _ _ | refine Below.alloc ?_ (by first | omega | (simp; done) | (simp; omega)) _ | refine Below.setCell ?_ (by first | omega | (simp; done) | (simp; omega)) _ | refine Below.drew ?_))).mono ?_; rintro e w' ⟨rfl, rfl⟩))
      go_ret
      exact ⟨rfl, (by repeat (first | exact Below.refl _ _ | refine Below.alloc ?_ (by first | omega | (simp; done) | (simp; omega)) _ | refine Below.setCell ?_ (by first | omega | (simp; done) | (simp; omega)) _ | refine Below.drew ?_))⟩
    · rw [if_pos hl]
      have hl' : ((n : Int) != W * H) = true := by simpa using hl
      clear h0 b1 b2 b3 b4 b5 hl CH
      go_enter Try.func32, Try.ntmps32
      go_wp2_with (first | (go_at_call 83; refine (RC.out _).mono ?_; rintro e w' ⟨rfl, rfl⟩))
      go_ret
      exact ⟨rfl, (by repeat (first | exact Below.refl _ _ | refine Below.alloc ?_ (by first | omega | (simp; done) | (simp; omega)) _ | refine Below.setCell ?_ (by first | omega | (simp; done) | (simp; omega)) _ | refine Below.drew ?_))⟩
  · rw [if_pos h0]
    generalize checkR X Y W H = r at *
    have h1 : (r != 0) = true := by simpa using h0
    clear h0 CH
    go_enter Try.func32, Try.ntmps32
    go_wp2_with (first | (go_at_call 83; refine (RC.out _).mono ?_; rintro e w' ⟨rfl, rfl⟩))
    go_ret
    exact ⟨rfl, (by repeat (first | exact Below.refl _ _ | refine Below.alloc ?_ (by first | omega | (simp; done) | (simp; omega)) _ | refine Below.setCell ?_ (by first | omega | (simp; done) | (simp; omega)) _ | refine Below.drew ?_))⟩

set_option maxHeartbeats 400000 in
theorem empty_no (w : World) : Calls Try.prog 51 #[fldV 0 0 0 0 (.slice none 0 0)] w fun e w' => e = .returned (.bool true) ∧ Below w.heap.size w w' := by
  go_enter Try.func51, Try.ntmps51
  go_wp2
  go_ret
  exact ⟨rfl, (by repeat (first | exact Below.refl _ _ | refine Below.alloc ?_ (by first | omega | (simp; done) | (simp; omega)) _ | refine Below.setCell ?_ (by first | omega | (simp; done) | (simp; omega)) _ | refine Below.drew ?_))⟩
end Go.Proofs.Ytkcehbnmcdppkaa

/- Contracts: valueAt, checkInside, of places; Profile. -/
namespace Go.Proofs.Ytkcehbnmcdppkaa
open Go.RowKit Fl
set_option linter.unusedVariables false

set_option maxHeartbeats 2000000 in
theorem valueAt_any (X Y : Int) (W H n b off cap : Nat) (v : Nat → Nat) (x y : Int) (j : Nat) (w : World) (hr : FlAt w b off n v) (hn : n ≤ 65536)
    (hX1 : -16777216 ≤ X) (hX2 : X ≤ 16777216) (hY1 : -16777216 ≤ Y) (hY2 : Y ≤ 16777216) (hW1 : 1 ≤ W) (hW2 : W ≤ 512) (hH2 : H ≤ 512) (hnn : n = H * W)
    (h1 : X ≤ x) (h2 : x < X + W) (h3 : Y ≤ y) (h4 : y < Y + H) (hj : (j : Int) = (y - Y) * W + (x - X)) :
    Calls Try.prog 157 #[fldV X Y W H (.slice (some ⟨b, off, none⟩) n cap), ptV x y] w fun e w' => e = .returned (.float .f32 (v j)) ∧ Below w.heap.size w w' := by
  have hi : j < n := num_lt hW1 h1 h2 h4 hj hnn
  have hcell := hr j hi
  have zb : b < w.heap.size := World.block_lt_of_cell? w _ hcell
  have IX := Lib.hid (fun w => index_any X Y W H j x y w hX1 hX2 hY1 hY2 hW1 hW2 hH2 h1 h2 h3 h4 hj (by omega))
  have HC := Lib.hid hcell
  have GF := Lib.hid (show ((w.alloc (fldO X Y W H (.slice (some ⟨b, off, none⟩) n cap))).alloc (ptObj x y)).heap[w.heap.size]? = some (fldO X Y W H (.slice (some ⟨b, off, none⟩) n cap)) from by (first | (rw [heap_alloc_get, if_pos rfl]; done) | ((simp only [heap_alloc_get, heap_size_alloc, if_true]) <;> ((repeat' split) <;> first | rfl | omega))))
  have GP := Lib.hid (show ((w.alloc (fldO X Y W H (.slice (some ⟨b, off, none⟩) n cap))).alloc (ptObj x y)).heap[w.heap.size + 1]? = some (ptObj x y) from by (first | (rw [heap_alloc_get, if_pos rfl]; done) | ((simp only [heap_alloc_get, heap_size_alloc, if_true]) <;> ((repeat' split) <;> first | rfl | omega))))
  have hi2 : (j : Int) < (n : Int) := by omega
  have hi3 : (0 : Int) ≤ (j : Int) := by omega
  clear hr hcell h1 h2 h3 h4 hX1 hX2 hY1 hY2 hW1 hW2 hH2 hnn hi hn hj
  go_enter Try.func157, Try.ntmps157
  go_wp2
  go_region_held3 (fun w' => (∀ o, w'.cell? ⟨w.heap.size, o, none⟩ = #[.int .i64 X, .int .i64 Y, .int .i64 W, .int .i64 H, .slice (some ⟨b, off, none⟩) n cap][o]?) ∧ (∀ o, w'.cell? ⟨w.heap.size + 1, o, none⟩ = #[.int .i64 x, .int .i64 y][o]?) ∧ w'.cell? ⟨b, off + j, none⟩ = some (.float .f32 (v j)) ∧ Below w.heap.size w w') (first | exact ⟨(blkC (blkStay GF.out (by repeat (first | exact Below.refl _ _ | refine Below.alloc ?_ (by first | omega | (simp; done) | (simp; omega)) _ | refine Below.setCell ?_ (by first | omega | (simp; done) | (simp; omega)) _ | refine Below.drew ?_)))).1, (blkC (blkStay GP.out (by repeat (first | exact Below.refl _ _ | refine Below.alloc ?_ (by first | omega | (simp; done) | (simp; omega)) _ | refine Below.setCell ?_ (by first | omega | (simp; done) | (simp; omega)) _ | refine Below.drew ?_)))).1, (Below.cell (p := ⟨b, off + j, none⟩) (w := w) (B := w.heap.size) (by repeat (first | exact Below.refl _ _ | refine Below.alloc ?_ (by first | omega | (simp; done) | (simp; omega)) _ | refine Below.setCell ?_ (by first | omega | (simp; done) | (simp; omega)) _ | refine Below.drew ?_)) zb).trans HC.out, (by repeat (first | exact Below.refl _ _ | refine Below.alloc ?_ (by first | omega | (simp; done) | (simp; omega)) _ | refine Below.setCell ?_ (by first | omega | (simp; done) | (simp; omega)) _ | refine Below.drew ?_))⟩) (first | (go_at_call 112; (with_reducible refine Calls.mono (IX.out _) ?_); rintro e w' ⟨rfl, rfl⟩))
  rename_i hHeld
  go_wp2
  go_ret
  exact ⟨rfl, hHeld.2.2.2⟩

/-- What checkInside answers of two places. -/
def insE (X Y W H ax ay cx cy : Int) : Int := if hasB X Y W H ax ay = false then 5 else if hasB X Y W H cx cy = false then 5 else 0
set_option maxRecDepth 100000 in
set_option maxHeartbeats 2000000 in
theorem checkInside_two (X Y W H ax ay cx cy : Int) (p : Nat) (w : World) (hp : w.heap[p]? = some (.cells #[.int .i64 ax, .int .i64 ay, .int .i64 cx, .int .i64 cy] 73))
    (hX1 : -16777216 ≤ X) (hX2 : X ≤ 16777216) (hY1 : -16777216 ≤ Y) (hY2 : Y ≤ 16777216) (hW1 : 0 ≤ W) (hW2 : W ≤ 512) (hH1 : 0 ≤ H) (hH2 : H ≤ 512) :
    Calls Try.prog 160 #[reg X Y W H, .slice (some ⟨p, 0, none⟩) 2 2] w fun e w' => e = .returned (.int .i64 (insE X Y W H ax ay cx cy)) ∧ Below w.heap.size w w' := by
  have HA := Lib.hid (fun w => has_any X Y W H ax ay w hX1 hX2 hY1 hY2 hW1 hW2 hH1 hH2)
  have HC := Lib.hid (fun w => has_any X Y W H cx cy w hX1 hX2 hY1 hY2 hW1 hW2 hH1 hH2)
  have HP := Lib.hid hp
  have HE := Lib.hid (show insE X Y W H ax ay cx cy = if hasB X Y W H ax ay = false then 5 else if hasB X Y W H cx cy = false then 5 else 0 from rfl)
  generalize insE X Y W H ax ay cx cy = er at *
  clear hp hX1 hX2 hY1 hY2 hW1 hW2 hH1 hH2
  obtain ⟨a, ha⟩ : ∃ a, hasB X Y W H ax ay = a := ⟨_, rfl⟩
  obtain ⟨c, hc⟩ : ∃ c, hasB X Y W H cx cy = c := ⟨_, rfl⟩
  rw [ha] at HA HE
  rw [hc] at HC HE
  clear ha hc
  cases a with
  | false =>
    have he := HE.out
    simp only [if_true] at he
    subst he
    clear HE HC
    go_enter Try.func160, Try.ntmps160
    go_wp2
    go_loopw [9] (fun s9 wr => s9 = .int .i64 0 ∧ wr.heap[w.heap.size]? = some (regObj X Y W H) ∧ Below w.heap.size w wr) (fun _ _ => 0)
    case atStart => exact ⟨rfl, by (first | (rw [heap_alloc_get, if_pos rfl]; done) | ((simp only [heap_alloc_get, heap_size_alloc, if_true]) <;> ((repeat' split) <;> first | rfl | omega))), (by repeat (first | exact Below.refl _ _ | refine Below.alloc ?_ (by first | omega | (simp; done) | (simp; omega)) _ | refine Below.setCell ?_ (by first | omega | (simp; done) | (simp; omega)) _ | refine Below.drew ?_))⟩
    case round =>
      obtain ⟨rfl, hr, hb⟩ := hrel
      have HR := Lib.hid hr
      have HB := Lib.hid hb
      obtain ⟨cR, fR, zR⟩ := blkC hr
      obtain ⟨cP, fP, zP⟩ := blkC (blkStay HP.out hb)
      clear hr hb
      go_wp2_with (go_at_call 177; refine (HA.out _).mono ?_; rintro e w1 ⟨rfl, rfl⟩)
      go_ret
      exact ⟨rfl, HB.out.trans (Below.mono (show Below wr.heap.size wr _ from (by repeat (first | exact Below.refl _ _ | refine Below.alloc ?_ (by first | omega | (simp; done) | (simp; omega)) _ | refine Below.setCell ?_ (by first | omega | (simp; done) | (simp; omega)) _ | refine Below.drew ?_))) HB.out.size)⟩
  | true =>
    have he := HE.out
    rw [if_neg (by simp)] at he
    cases c with
    | false =>
      simp only [if_true] at he
      subst he
      clear HE
      go_enter Try.func160, Try.ntmps160
      go_wp2
      go_loopw [9] (fun s9 wr => (s9 = .int .i64 0 ∨ s9 = .int .i64 1) ∧ wr.heap[w.heap.size]? = some (regObj X Y W H) ∧ Below w.heap.size w wr) (fun s9 _ => 2 - (intOf s9).toNat)
      case atStart => exact ⟨.inl rfl, by (first | (rw [heap_alloc_get, if_pos rfl]; done) | ((simp only [heap_alloc_get, heap_size_alloc, if_true]) <;> ((repeat' split) <;> first | rfl | omega))), (by repeat (first | exact Below.refl _ _ | refine Below.alloc ?_ (by first | omega | (simp; done) | (simp; omega)) _ | refine Below.setCell ?_ (by first | omega | (simp; done) | (simp; omega)) _ | refine Below.drew ?_))⟩
      case round =>
        obtain ⟨hs, hr, hb⟩ := hrel
        have HR := Lib.hid hr
        have HB := Lib.hid hb
        obtain ⟨cR, fR, zR⟩ := blkC hr
        obtain ⟨cP, fP, zP⟩ := blkC (blkStay HP.out hb)
        clear hr hb
        rcases hs with rfl | rfl
        · go_wp2_with (go_at_call 177; refine (HA.out _).mono ?_; rintro e w1 ⟨rfl, rfl⟩)
          go_roundw
          case rel => exact ⟨.inr rfl, (heap_alloc_old _ _ (by simp; omega)).trans ((heap_alloc_old _ _ zR).trans HR.out), HB.out.trans (Below.mono (show Below wr.heap.size wr _ from (by repeat (first | exact Below.refl _ _ | refine Below.alloc ?_ (by first | omega | (simp; done) | (simp; omega)) _ | refine Below.setCell ?_ (by first | omega | (simp; done) | (simp; omega)) _ | refine Below.drew ?_))) HB.out.size)⟩
          case measure => simp [intOf]
        · go_wp2_with (go_at_call 177; refine (HC.out _).mono ?_; rintro e w1 ⟨rfl, rfl⟩)
          go_ret
          exact ⟨rfl, HB.out.trans (Below.mono (show Below wr.heap.size wr _ from (by repeat (first | exact Below.refl _ _ | refine Below.alloc ?_ (by first | omega | (simp; done) | (simp; omega)) _ | refine Below.setCell ?_ (by first | omega | (simp; done) | (simp; omega)) _ | refine Below.drew ?_))) HB.out.size)⟩
    | true =>
      rw [if_neg (by simp)] at he
      subst he
      clear HE
      go_enter Try.func160, Try.ntmps160
      go_wp2
      go_loopw [9] (fun s9 wr => (s9 = .int .i64 0 ∨ s9 = .int .i64 1 ∨ s9 = .int .i64 2) ∧ wr.heap[w.heap.size]? = some (regObj X Y W H) ∧ Below w.heap.size w wr) (fun s9 _ => 3 - (intOf s9).toNat)
      case atStart => exact ⟨.inl rfl, by (first | (rw [heap_alloc_get, if_pos rfl]; done) | ((simp only [heap_alloc_get, heap_size_alloc, if_true]) <;> ((repeat' split) <;> first | rfl | omega))), (by repeat (first | exact Below.refl _ _ | refine Below.alloc ?_ (by first | omega | (simp; done) | (simp; omega)) _ | refine Below.setCell ?_ (by first | omega | (simp; done) | (simp; omega)) _ | refine Below.drew ?_))⟩
      case round =>
        obtain ⟨hs, hr, hb⟩ := hrel
        have HR := Lib.hid hr
        have HB := Lib.hid hb
        obtain ⟨cR, fR, zR⟩ := blkC hr
        obtain ⟨cP, fP, zP⟩ := blkC (blkStay HP.out hb)
        clear hr hb
        rcases hs with rfl | rfl | rfl
        · go_wp2_with (go_at_call 177; refine (HA.out _).mono ?_; rintro e w1 ⟨rfl, rfl⟩)
          go_roundw
          case rel => exact ⟨.inr (.inl rfl), (heap_alloc_old _ _ (by simp; omega)).trans ((heap_alloc_old _ _ zR).trans HR.out), HB.out.trans (Below.mono (show Below wr.heap.size wr _ from (by repeat (first | exact Below.refl _ _ | refine Below.alloc ?_ (by first | omega | (simp; done) | (simp; omega)) _ | refine Below.setCell ?_ (by first | omega | (simp; done) | (simp; omega)) _ | refine Below.drew ?_))) HB.out.size)⟩
          case measure => simp [intOf]
        · go_wp2_with (go_at_call 177; refine (HC.out _).mono ?_; rintro e w1 ⟨rfl, rfl⟩)
          go_roundw
          case rel => exact ⟨.inr (.inr rfl), (heap_alloc_old _ _ (by simp; omega)).trans ((heap_alloc_old _ _ zR).trans HR.out), HB.out.trans (Below.mono (show Below wr.heap.size wr _ from (by repeat (first | exact Below.refl _ _ | refine Below.alloc ?_ (by first | omega | (simp; done) | (simp; omega)) _ | refine Below.setCell ?_ (by first | omega | (simp; done) | (simp; omega)) _ | refine Below.drew ?_))) HB.out.size)⟩
          case measure => simp [intOf]
        · go_wp2
          go_ret
          exact ⟨rfl, HB.out⟩
end Go.Proofs.Ytkcehbnmcdppkaa

/- The error of a slice of singles, as both sides ask it. -/
namespace Go.Proofs.Ytkcehbnmcdppkaa
open Go.RowKit Fl
set_option linter.unusedVariables false

set_option maxHeartbeats 400000 in
theorem qNumberError_nil (a : Option Addr) (cap : Nat) (w : World) :
    Calls Try.prog 24 #[.slice a 0 cap] w fun e w' => e = .returned (.int .i64 0) ∧ w = w' := by
  go_enter Try.func24, Try.ntmps24
  go_wp2
  go_loop [9] (fun i => i = .int .i64 0) (fun _ => 0)
  case atStart => rfl
  case round =>
    subst hrel
    go_wp2
    go_loop [27] (fun i => i = .int .i64 0) (fun _ => 0)
    case atStart => rfl
    case round =>
      subst hrel
      go_wp2
      go_ret
      exact ⟨rfl, rfl⟩

/-- The error of a slice of singles, as both sides ask it, in whatever world behind. -/
def SlE (w : World) (a : Option Addr) (n cap : Nat) (er : Int) : Prop :=
  (∀ W', Below w.heap.size w W' → Calls Try.prog 76 #[.slice a n cap] W' fun e w' => e = .returned (.int .i64 er) ∧ W' = w') ∧
  (∀ W', Below w.heap.size w W' → Calls Try.prog 24 #[.slice a n cap] W' fun e w' => e = .returned (.int .i64 er) ∧ W' = w')

theorem SlE.stay {w w' : World} {a : Option Addr} {n cap : Nat} {er : Int} (h : SlE w a n cap er) (hb : Below w.heap.size w w') : SlE w' a n cap er :=
  ⟨fun W' hB => h.1 W' (hb.trans (hB.mono hb.size)), fun W' hB => h.2 W' (hb.trans (hB.mono hb.size))⟩

theorem slE_nil (w : World) (a : Option Addr) (cap : Nat) : SlE w a 0 cap 0 := ⟨fun W' _ => CheckHeights_nil a cap W', fun W' _ => qNumberError_nil a cap W'⟩

theorem slE_row {w : World} {b off n cap : Nat} {v : Nat → Nat} (h1 : 0 < n) (hl : n ≤ 9223372036854775807) (hc : FlAt w b off n v) : SlE w (some ⟨b, off, none⟩) n cap (fldE n v) := by
  have z : b < w.heap.size := World.block_lt_of_cell? w _ (hc 0 h1)
  exact ⟨fun W' hB => CheckHeights_row b off cap n v hl W' (flAt_congr hc (hB.block _ z)), fun W' hB => qNumberError_row b off cap n v hl W' (flAt_congr hc (hB.block _ z))⟩
end Go.Proofs.Ytkcehbnmcdppkaa

/- Contracts: squareAt, mean, Down. -/
namespace Go.Proofs.Ytkcehbnmcdppkaa
open Go.RowKit Fl
set_option linter.unusedVariables false

abbrev sqV (a b c d : Nat) : Value := .agg #[.float .f32 a, .float .f32 b, .float .f32 c, .float .f32 d]
/-- The mean of four singles, as the words on the way. -/
structure MeanAt (a b c d s1 s2 s3 m : Nat) : Prop where
  e1 : floatBits .add .f32 a b = some s1
  e2 : floatBits .add .f32 c d = some s2
  e3 : floatBits .add .f32 s1 s2 = some s3
  e4 : floatBits .mul .f32 s3 1048576000 = some m
/-- The mean as a word. -/
def meanW (a b c d : Nat) : Nat :=
  (floatBits .mul .f32 ((floatBits .add .f32 ((floatBits .add .f32 a b).getD 0) ((floatBits .add .f32 c d).getD 0)).getD 0) 1048576000).getD 0
theorem MeanAt.w {a b c d s1 s2 s3 m : Nat} (h : MeanAt a b c d s1 s2 s3 m) : meanW a b c d = m := by
  unfold meanW
  rw [h.e1, h.e2, Option.getD_some, Option.getD_some, h.e3, Option.getD_some, h.e4, Option.getD_some]

set_option maxHeartbeats 1000000 in
theorem mean_any (a b c d s1 s2 s3 m : Nat) (h : MeanAt a b c d s1 s2 s3 m) (w : World) :
    Calls Try.prog 113 #[sqV a b c d] w fun e w' => e = .returned (.float .f32 m) ∧ Below w.heap.size w w' := by
  have x1 := fun (ww : World) => run_float_arith (P := Try.prog) ww .add 22 .f32 a b s1 h.e1
  have x2 := fun (ww : World) => run_float_arith (P := Try.prog) ww .add 22 .f32 c d s2 h.e2
  have x3 := fun (ww : World) => run_float_arith (P := Try.prog) ww .add 22 .f32 s1 s2 s3 h.e3
  have x4 := fun (ww : World) => run_float_arith (P := Try.prog) ww .mul 22 .f32 s3 1048576000 m h.e4
  clear h
  go_enter Try.func113, Try.ntmps113
  go_wp2
  go_ret
  exact ⟨rfl, (by repeat (first | exact Below.refl _ _ | refine Below.alloc ?_ (by first | omega | (simp; done) | (simp; omega)) _ | refine Below.setCell ?_ (by first | omega | (simp; done) | (simp; omega)) _ | refine Below.drew ?_))⟩

theorem store_sq0 {w : World} {p o x : Nat} {cs : Array Value} {t : TypeId} {m : Mode} (h : w.heap[p]? = some (.cells cs t (0, 0))) (ho : o < cs.size) :
    (store ⟨p, o, none⟩ (.float .f32 x) m).run Try.prog w = .ok () (w.setCell ⟨p, o, none⟩ (.float .f32 x)) := by
  obtain ⟨c, f, z⟩ := blkC h
  have c0 := c o
  have f0 := f o
  rw [run_store_float]
  have : cs[o]? = some cs[o] := Array.getElem?_eq_getElem ho
  rw [this] at c0
  simp [stored, c0, f0]
theorem store_sq {w : World} {p o x : Nat} {cs : Array Value} {t : TypeId} {m : Mode} (h : w.heap[p]? = some (.cells cs t (0, 0))) (ho : o < cs.size) :
    (store ⟨p, o, none⟩ (.float .f32 x) m).run Try.prog w.drew = .ok () (w.setCell ⟨p, o, none⟩ (.float .f32 x)).drew := store_sq0 (w := w.drew) h ho
theorem store4_sq {w : World} {p : Nat} {z0 z1 z2 z3 : Value} {t : TypeId} (h : w.heap[p]? = some (.cells #[z0, z1, z2, z3] t (0, 0))) (a b c d : Nat) :
    (store ⟨p, 0, none⟩ (.float .f32 a) .plain).run Try.prog w.drew = .ok () (w.setCell ⟨p, 0, none⟩ (.float .f32 a)).drew ∧
    (store ⟨p, 1, none⟩ (.float .f32 b) .plain).run Try.prog (w.setCell ⟨p, 0, none⟩ (.float .f32 a)).drew = .ok () ((w.setCell ⟨p, 0, none⟩ (.float .f32 a)).setCell ⟨p, 1, none⟩ (.float .f32 b)).drew ∧
    (store ⟨p, 2, none⟩ (.float .f32 c) .plain).run Try.prog ((w.setCell ⟨p, 0, none⟩ (.float .f32 a)).setCell ⟨p, 1, none⟩ (.float .f32 b)).drew = .ok () (((w.setCell ⟨p, 0, none⟩ (.float .f32 a)).setCell ⟨p, 1, none⟩ (.float .f32 b)).setCell ⟨p, 2, none⟩ (.float .f32 c)).drew ∧
    (store ⟨p, 3, none⟩ (.float .f32 d) .plain).run Try.prog (((w.setCell ⟨p, 0, none⟩ (.float .f32 a)).setCell ⟨p, 1, none⟩ (.float .f32 b)).setCell ⟨p, 2, none⟩ (.float .f32 c)).drew = .ok () ((((w.setCell ⟨p, 0, none⟩ (.float .f32 a)).setCell ⟨p, 1, none⟩ (.float .f32 b)).setCell ⟨p, 2, none⟩ (.float .f32 c)).setCell ⟨p, 3, none⟩ (.float .f32 d)).drew := by
  have h1 := heap_setCell_same w p 0 _ _ (.float .f32 a) h
  have h2 := heap_setCell_same _ p 1 _ _ (.float .f32 b) h1
  have h3 := heap_setCell_same _ p 2 _ _ (.float .f32 c) h2
  exact ⟨store_sq h (by simp), store_sq h1 (by simp), store_sq h2 (by simp), store_sq h3 (by simp)⟩
abbrev sqO : Obj := .cells #[.float .f32 0, .float .f32 0, .float .f32 0, .float .f32 0] 133
set_option maxRecDepth 100000 in
set_option maxHeartbeats 4000000 in
theorem squareAt_any (X Y : Int) (W H n b off cap : Nat) (v : Nat → Nat) (i : Nat) (w : World) (hr : FlAt w b off n v) (hn : n ≤ 65536) (hW : W ≤ 512) (hi : i + W + 1 < n) :
    Calls Try.prog 111 #[fldV X Y W H (.slice (some ⟨b, off, none⟩) n cap), .int .i64 i] w fun e w' => e = .returned (sqV (v i) (v (i + 1)) (v (i + W)) (v (i + W + 1))) ∧ Below w.heap.size w w' := by
  have k0 := hr i (by omega)
  have k1 := hr (i + 1) (by omega)
  have k2 := hr (i + W) (by omega)
  have k3 := hr (i + W + 1) (by omega)
  have zb : b < w.heap.size := World.block_lt_of_cell? w _ k0
  obtain ⟨i1, e1⟩ : ∃ k, k = i + 1 := ⟨_, rfl⟩
  obtain ⟨i2, e2⟩ : ∃ k, k = i + W := ⟨_, rfl⟩
  obtain ⟨i3, e3⟩ : ∃ k, k = i + W + 1 := ⟨_, rfl⟩
  rw [← e3, ← e1, ← e2]
  rw [← e1] at k1
  rw [← e2] at k2
  rw [← e3] at k3
  have f1 : (i : Int) + 1 = (i1 : Int) := by omega
  have f2 : (i : Int) + (W : Int) = (i2 : Int) := by omega
  have f3 : (i2 : Int) + 1 = (i3 : Int) := by omega
  have u1 : IntKind.i64.wrap ((i : Int) + 1) = (i1 : Int) := by rw [f1]; exact IntWalk.i64_in _ (by omega)
  have u2 : IntKind.i64.wrap ((i : Int) + (W : Int)) = (i2 : Int) := by rw [f2]; exact IntWalk.i64_in _ (by omega)
  have u3 : IntKind.i64.wrap ((i2 : Int) + 1) = (i3 : Int) := by rw [f3]; exact IntWalk.i64_in _ (by omega)
  have g0 : (i : Int) < (n : Int) := by omega
  have g1 : (i1 : Int) < (n : Int) := by omega
  have g2 : (i2 : Int) < (n : Int) := by omega
  have g3 : (i3 : Int) < (n : Int) := by omega
  have p0 : (0 : Int) ≤ (i : Int) := by omega
  have p1 : (0 : Int) ≤ (i1 : Int) := by omega
  have p2 : (0 : Int) ≤ (i2 : Int) := by omega
  have p3 : (0 : Int) ≤ (i3 : Int) := by omega
  have hsf := fun (w : World) (a : Addr) (m : Mode) (k : FloatKind) (b : Nat) => run_store_float (P := Try.prog) (w := w) (a := a) (m := m) k b
  clear hr hn hW hi e1 e2 e3 f1 f2 f3
  go_enter Try.func111, Try.ntmps111
  go_wp2
  have HF := Lib.hid (show ((w.alloc (fldO X Y W H (.slice (some ⟨b, off, none⟩) n cap))).alloc sqO).heap[w.heap.size]? = some (fldO X Y W H (.slice (some ⟨b, off, none⟩) n cap)) from by (first | (rw [heap_alloc_get, if_pos rfl]; done) | ((simp only [heap_alloc_get, heap_size_alloc, if_true]) <;> ((repeat' split) <;> first | rfl | omega))))
  have HR := Lib.hid (show ((w.alloc (fldO X Y W H (.slice (some ⟨b, off, none⟩) n cap))).alloc sqO).heap[w.heap.size + 1]? = some sqO from by (first | (rw [heap_alloc_get, if_pos rfl]; done) | ((simp only [heap_alloc_get, heap_size_alloc, if_true]) <;> ((repeat' split) <;> first | rfl | omega))))
  have HB := Lib.hid (show Below w.heap.size w ((w.alloc (fldO X Y W H (.slice (some ⟨b, off, none⟩) n cap))).alloc sqO) from (by repeat (first | exact Below.refl _ _ | refine Below.alloc ?_ (by first | omega | (simp; done) | (simp; omega)) _ | refine Below.setCell ?_ (by first | omega | (simp; done) | (simp; omega)) _ | refine Below.drew ?_)))
  generalize (w.alloc (fldO X Y W H (.slice (some ⟨b, off, none⟩) n cap))).alloc sqO = w2 at *
  obtain ⟨cF, fF, zF⟩ := blkC HF.out
  have j0 := (Below.cell (p := ⟨b, off + i, none⟩) HB.out zb).trans k0
  have j1 := (Below.cell (p := ⟨b, off + i1, none⟩) HB.out zb).trans k1
  have j2 := (Below.cell (p := ⟨b, off + i2, none⟩) HB.out zb).trans k2
  have j3 := (Below.cell (p := ⟨b, off + i3, none⟩) HB.out zb).trans k3
  obtain ⟨s0, s1, s2, s3⟩ := store4_sq HR.out (v i) (v i1) (v i2) (v i3)
  have h1 := heap_setCell_same w2 (w.heap.size + 1) 0 _ _ (.float .f32 (v i)) HR.out
  have h2 := heap_setCell_same _ (w.heap.size + 1) 1 _ _ (.float .f32 (v i1)) h1
  have h3 := heap_setCell_same _ (w.heap.size + 1) 2 _ _ (.float .f32 (v i2)) h2
  have h4 := heap_setCell_same _ (w.heap.size + 1) 3 _ _ (.float .f32 (v i3)) h3
  have h5 : ((((w2.setCell ⟨w.heap.size + 1, 0, none⟩ (.float .f32 (v i))).setCell ⟨w.heap.size + 1, 1, none⟩ (.float .f32 (v i1))).setCell ⟨w.heap.size + 1, 2, none⟩ (.float .f32 (v i2))).setCell ⟨w.heap.size + 1, 3, none⟩ (.float .f32 (v i3))).drew.heap[w.heap.size + 1]? = _ := h4
  have HRES := (blkC h5).1
  have HBEL := Lib.hid ((((HB.out.setCell (p := ⟨w.heap.size + 1, 0, none⟩) (show w.heap.size ≤ w.heap.size + 1 by omega) (.float .f32 (v i))).setCell (p := ⟨w.heap.size + 1, 1, none⟩) (show w.heap.size ≤ w.heap.size + 1 by omega) (.float .f32 (v i1))).setCell (p := ⟨w.heap.size + 1, 2, none⟩) (show w.heap.size ≤ w.heap.size + 1 by omega) (.float .f32 (v i2))).setCell (p := ⟨w.heap.size + 1, 3, none⟩) (show w.heap.size ≤ w.heap.size + 1 by omega) (.float .f32 (v i3))).drew
  clear h1 h2 h3 h4 h5 k0 k1 k2 k3 hsf
  go_still_tail 31, (by kernel_rfl)
  change wpList _ _ _ _ _ w2.drew
  go_wp2
  refine bodyPost_ret (v := sqV (v i) (v i1) (v i2) (v i3)) (by simp [results, Try.results111, go_sem, HRES]) rfl ?_
  exact ⟨rfl, HBEL.out⟩
end Go.Proofs.Ytkcehbnmcdppkaa

/- min and max of singles that have values. -/
namespace Go.Proofs.Ytkcehbnmcdppkaa
open Go.RowKit Fl
set_option linter.unusedVariables false

theorem max2_val {x y : Nat} {a b : Int} (hx : vS x = some a) (hy : vS y = some b) : ∃ r, Builtin.max2 (.float .f32 x) (.float .f32 y) = pure (.float .f32 r) ∧ vS r = some (if a < b then b else a) ∧ (b < a → r = x) ∧ (a < b → r = y) ∧ (r = x ∨ r = y) := by
  have o : FloatKind.f32.format.order x y = some (compare a b) := order_val hx hy
  unfold Builtin.max2
  dsimp only
  rw [o]
  rcases h : compare a b with _ | _ | _
  · have : a < b := Int.compare_eq_lt.1 h
    exact ⟨y, rfl, by rw [if_pos this]; exact hy, fun q => by omega, fun _ => rfl, .inr rfl⟩
  · have : a = b := Int.compare_eq_eq.1 h
    subst this
    dsimp only
    split
    · exact ⟨y, rfl, by rw [if_neg (by omega)]; exact hy, fun q => by omega, fun q => by omega, .inr rfl⟩
    · exact ⟨x, rfl, by rw [if_neg (by omega)]; exact hx, fun q => by omega, fun q => by omega, .inl rfl⟩
  · have : b < a := Int.compare_eq_gt.1 h
    exact ⟨x, rfl, by rw [if_neg (by omega)]; exact hx, fun _ => rfl, fun q => by omega, .inl rfl⟩
theorem min2_val {x y : Nat} {a b : Int} (hx : vS x = some a) (hy : vS y = some b) : ∃ r, Builtin.min2 (.float .f32 x) (.float .f32 y) = pure (.float .f32 r) ∧ vS r = some (if b < a then b else a) := by
  have o : FloatKind.f32.format.order x y = some (compare a b) := order_val hx hy
  unfold Builtin.min2
  dsimp only
  rw [o]
  rcases h : compare a b with _ | _ | _
  · have : a < b := Int.compare_eq_lt.1 h
    exact ⟨x, rfl, by rw [if_neg (by omega)]; exact hx⟩
  · have : a = b := Int.compare_eq_eq.1 h
    subst this
    dsimp only
    split
    · exact ⟨x, rfl, by rw [if_neg (by omega)]; exact hx⟩
    · exact ⟨y, rfl, by rw [if_neg (by omega)]; exact hy⟩
  · have : b < a := Int.compare_eq_gt.1 h
    exact ⟨y, rfl, by rw [if_pos this]; exact hy⟩

/-- The builtin max of two. -/
theorem run_max_two (ts : Array TypeId) (t : TypeId) {x y : Nat} {a b : Int} (hx : vS x = some a) (hy : vS y = some b) : ∃ r, (∀ w : World, (Builtin.max_ ts t #[.float .f32 x, .float .f32 y]).run Try.prog w = .ok (.float .f32 r) w) ∧ vS r = some (if a < b then b else a) ∧ (b < a → r = x) ∧ (a < b → r = y) ∧ (r = x ∨ r = y) := by
  obtain ⟨r, m, v⟩ := max2_val hx hy
  refine ⟨r, fun w => ?_, v⟩
  show (([Value.float .f32 y]).foldlM Builtin.max2 (Value.float .f32 x)).run Try.prog w = _
  simp only [List.foldlM]
  rw [m]
  rfl

theorem min_fold : ∀ (l : List (Nat × Int)) (x : Nat) (a : Int), vS x = some a → (∀ q ∈ l, vS q.1 = some q.2) → ∃ r m, (∀ w : World, ((l.map fun q => Value.float .f32 q.1).foldlM Builtin.min2 (Value.float .f32 x)).run Try.prog w = .ok (.float .f32 r) w) ∧ vS r = some m ∧ (m < 0 ↔ a < 0 ∨ ∃ q ∈ l, q.2 < 0)
  | [], x, a, hx, _ => ⟨x, a, fun w => rfl, hx, by simp⟩
  | q :: l, x, a, hx, hl => by
    obtain ⟨r, m, v⟩ := min2_val hx (hl q (by simp))
    obtain ⟨r', m', h1, h2, h3⟩ := min_fold l r _ v (fun p hp => hl p (by simp [hp]))
    refine ⟨r', m', fun w => ?_, h2, ?_⟩
    · simp only [List.map_cons, List.foldlM]
      rw [m]
      exact h1 w
    · rw [h3]
      simp only [List.mem_cons, exists_eq_or_imp]
      split <;> constructor
      · rintro (h | h)
        · exact .inr (.inl h)
        · exact .inr (.inr h)
      · rintro (h | h | h)
        · exact .inl (by omega)
        · exact .inl h
        · exact .inr h
      · rintro (h | h)
        · exact .inl h
        · exact .inr (.inr h)
      · rintro (h | h | h)
        · exact .inl h
        · exact .inl (by omega)
        · exact .inr h

/-- The builtin min of seven. -/
theorem run_min_seven (ts : Array TypeId) (t : TypeId) {x1 x2 x3 x4 x5 x6 x7 : Nat} {a1 a2 a3 a4 a5 a6 a7 : Int} (h1 : vS x1 = some a1) (h2 : vS x2 = some a2) (h3 : vS x3 = some a3) (h4 : vS x4 = some a4) (h5 : vS x5 = some a5) (h6 : vS x6 = some a6) (h7 : vS x7 = some a7) :
    ∃ r m, (∀ w : World, (Builtin.min_ ts t #[.float .f32 x1, .float .f32 x2, .float .f32 x3, .float .f32 x4, .float .f32 x5, .float .f32 x6, .float .f32 x7]).run Try.prog w = .ok (.float .f32 r) w) ∧ vS r = some m ∧ (m < 0 ↔ a1 < 0 ∨ a2 < 0 ∨ a3 < 0 ∨ a4 < 0 ∨ a5 < 0 ∨ a6 < 0 ∨ a7 < 0) := by
  obtain ⟨r, m, e, v, i⟩ := min_fold [(x2, a2), (x3, a3), (x4, a4), (x5, a5), (x6, a6), (x7, a7)] x1 a1 h1 (by
    intro q hq
    simp only [List.mem_cons, List.not_mem_nil, or_false] at hq
    rcases hq with rfl | rfl | rfl | rfl | rfl | rfl <;> assumption)
  exact ⟨r, m, fun w => e w, v, by rw [i]; simp⟩
end Go.Proofs.Ytkcehbnmcdppkaa

/- A whole single as an integer; magnitudes of singles. -/
namespace Go.Proofs.Ytkcehbnmcdppkaa.Fl
open Ieee

theorem cut_zero (s : Bool) (M k : Nat) : Toward.zero.cut s M k = M / 2 ^ k := by
  unfold Toward.cut
  simp only [Nat.one_shiftLeft]
  rcases Nat.le_total k (M.log2 + 2) with c | c
  · rw [Nat.min_eq_left c]; simp
  · rw [Nat.min_eq_right c]
    have h : M < 2 ^ (M.log2 + 2) := by
      rcases Nat.eq_zero_or_pos M with z | z
      · subst z; exact Nat.two_pow_pos _
      · exact Nat.lt_trans (Nat.lt_log2_self) (Nat.pow_lt_pow_right (by omega) (by omega))
    have h' : M < 2 ^ k := Nat.lt_of_lt_of_le h (Nat.pow_le_pow_right (by omega) c)
    rw [Nat.div_eq_of_lt h, Nat.div_eq_of_lt h']; simp

theorem integral_zero {s : Bool} {M : Nat} {I : Int} {A : Nat} (hI : -1074 ≤ I) (hA : M * 2 ^ (I + 1074).toNat = A) :
    (Datum.number s M I).integral .zero = .number s (A / one) 0 := by
  show Datum.number s (Toward.zero.cut s (M <<< I.toNat) (-I).toNat) 0 = _
  rw [cut_zero, Nat.shiftLeft_eq]
  congr 1
  obtain ⟨j, hj⟩ : ∃ j : Nat, j = 1074 := ⟨_, rfl⟩
  rcases Int.le_total 0 I with c | c
  · have e : (I + 1074).toNat = I.toNat + j := by omega
    rw [e, Nat.pow_add, ← Nat.mul_assoc] at hA
    rw [show (-I).toNat = 0 by omega, Nat.pow_zero, Nat.div_one, ← hA, one_pow hj, Nat.mul_div_cancel _ (Nat.two_pow_pos j)]
  · obtain ⟨k, hk⟩ : ∃ k : Nat, k = (-I).toNat := ⟨_, rfl⟩
    have eo : one = 2 ^ k * 2 ^ (I + 1074).toNat := one_split (by omega)
    have p : 0 < 2 ^ (I + 1074).toNat := Nat.two_pow_pos _
    rw [show I.toNat = 0 by omega, Nat.pow_zero, Nat.mul_one, ← hk, ← hA, eo, Nat.mul_div_mul_right _ _ p]

theorem toInt_whole {x : Nat} {g : Int} (h : vS x = some (g * (one : Int))) (hb : -1073741824 ≤ g) (hb' : g ≤ 1073741824) : Go.floatToIntVal .f32 x .i64 = some g := by
  obtain ⟨s, m, p, e, hv⟩ := vS_some h
  have lo := (read_single e).low
  obtain ⟨A, hA⟩ : ∃ A, m * 2 ^ (p + 1074).toNat = A := ⟨_, rfl⟩
  have hp : (0 : Int) < (one : Int) := Int.natCast_pos.2 one_pos
  have hs : g * (one : Int) = (if s then -1 else 1) * (A : Int) := by rw [← hv]; unfold vOf; rw [signed_eq, hA]
  have hAg : A = g.natAbs * one := by
    have := congrArg Int.natAbs hs
    rw [Int.natAbs_mul, Int.natAbs_mul, Int.natAbs_natCast, Int.natAbs_natCast] at this
    cases s <;> simpa using this.symm
  have hq : A / one = g.natAbs := by rw [hAg, Nat.mul_div_cancel _ one_pos]
  have hg : (if s then -1 else 1) * (g.natAbs : Int) = g := by
    refine Int.eq_of_mul_eq_mul_right (Int.ne_of_gt hp) ?_
    rw [hs, hAg, Int.natCast_mul, Int.mul_assoc]
  unfold Go.floatToIntVal
  have hd : Go.FloatKind.f32.decode x = .number s m p := e
  have ht : (Datum.number s m p).toInt .zero = some g := by
    unfold Datum.toInt
    rw [integral_zero (s := s) (by omega) hA, hq]
    show some (signed s g.natAbs 0) = some g
    rw [signed_eq, Nat.pow_zero, Nat.mul_one, hg]
  rw [hd, ht]
  have e1 : Go.IntKind.i64.min = -9223372036854775808 := by decide
  have e2 : Go.IntKind.i64.max = 9223372036854775807 := by decide
  simp only [e1, e2]
  rw [if_pos ⟨by omega, by omega⟩]

theorem flV_whole (a : Int) : ∃ g : Int, g = a / (one : Int) ∧ flV a = g * (one : Int) := ⟨_, rfl, rfl⟩

theorem abs_val {x : Nat} {a : Int} (h : vS x = some a) : vS (x % 2147483648) = some ((a.natAbs : Nat) : Int) := by
  obtain ⟨s, m, p, e, rfl⟩ := vS_some h
  have hr := read_abs single x
  rw [swS, e] at hr
  rw [vS_num hr]
  unfold vOf
  rw [signed_eq, signed_eq, Int.natAbs_mul, Int.natAbs_natCast]
  cases s <;> simp

end Go.Proofs.Ytkcehbnmcdppkaa.Fl
