/- Contract: the reference's made, whatever function it is given. -/
import Derived.Test.YtncgcjeihihkfaaByCell
import Derived.Deep.AppendLies
import Derived.Deep.RegionLaw
namespace Go.Proofs.Ytncgcjeihihkfaa
open Go.RowKit Fl
set_option linter.unusedVariables false

def rowL (f : Nat → Nat) (k : Nat) : List Value := (List.range k).map fun i => Value.float .f32 (f i)
theorem rowL_succ (f : Nat → Nat) (k : Nat) : rowL f (k + 1) = rowL f k ++ [.float .f32 (f k)] := by simp [rowL, List.range_succ]
theorem ownsRow_below {w w' : World} {base : Nat} {e : TypeId} {size : Nat} {v : Value} {n : Nat} {xs : List Value} (h : w.ownsRow base e size v n xs) (hb : Below w.heap.size w w') : w'.ownsRow base e size v n xs := by
  obtain ⟨h1, h2⟩ := h
  refine ⟨h1, ?_⟩
  rcases h2 with h2 | ⟨g, cap, cur, hv, hg, hh, r⟩
  · exact .inl h2
  · exact .inr ⟨g, cap, cur, hv, hg, blkStay hh hb, r⟩
theorem ownsRow_far {w : World} {base : Nat} {e : TypeId} {size : Nat} {v : Value} {n : Nat} {xs : List Value} (h : w.ownsRow base e size v n xs) {b : Nat} (hb : b < base) : some b ≠ v.ownBlock := by
  rcases h.2 with ⟨rfl, _⟩ | ⟨g, cap, cur, rfl, hg, _⟩
  · simp [Value.ownBlock]
  · intro c
    have : b = g := by simpa [Value.ownBlock] using c
    omega
theorem ownsRow_flAt {w : World} {base b cap k : Nat} {f : Nat → Nat} (h : w.ownsRow base 39 1 (.slice (some ⟨b, 0, none⟩) k cap) k (rowL f k)) (hk : 0 < k) : FlAt w b 0 k f ∧ b < w.heap.size ∧ base ≤ b := by
  rcases h.2 with ⟨h0, _⟩ | ⟨g, cap', cur, hv, hg, hh, h1, h2, h3, h4⟩
  · cases h0
  · cases hv
    refine ⟨fun i hi => ?_, (blkC hh).2.2, hg⟩
    rw [Nat.zero_add, (blkC hh).1 i]
    have : (cur.toList.take (k * 1))[i]? = some (.float .f32 (f i)) := by rw [h4]; simp [rowL, hi]
    rw [List.getElem?_take, if_pos (by omega)] at this
    simpa using this

/-- A function of a cell's place, as a closure. -/
def Clos2 (g : Nat) (caps : Array Value) (X Y W H : Int) (f : Nat → Nat) (w : World) : Prop :=
  ∀ (x y : Int) (i : Nat) (W' : World), X ≤ x → x < X + W → Y ≤ y → y < Y + H → (i : Int) = (y - Y) * W + (x - X) → Below w.heap.size w W' →
    Calls Try.prog g (#[.int .i64 x, .int .i64 y] ++ caps) W' fun e W'' => e = .returned (.float .f32 (f i)) ∧ Below W'.heap.size W' W''

/-- What holds of the world at each head of made's loops, when k values have been made. -/
def MadeAt (w : World) (X Y W H : Int) (f : Nat → Nat) (k : Nat) (wr : World) : Prop :=
  ∃ ov, wr.ownsRow (w.heap.size + 1 + 1 + 1) 39 1 ov k (rowL f k) ∧ wr.heap[w.heap.size]? = some (regObj X Y W H) ∧ wr.heap[w.heap.size + 1]? = some (fldO 0 0 0 0 (.slice none 0 0)) ∧
    wr.heap[w.heap.size + 1 + 1]? = some (fldO X Y W H ov) ∧ Below w.heap.size w wr

theorem flAt_congr {w w' : World} {b off n : Nat} {f : Nat → Nat} (h : FlAt w b off n f) (e : w'.heap[b]? = w.heap[b]?) : FlAt w' b off n f := fun i hi => by
  rw [← h i hi]; exact World.cell?_of_block (w := w) (a := ⟨b, off + i, none⟩) e

theorem made_step {w wr w2 w3 : World} {X Y W H : Int} {f : Nat → Nat} {k gg cap : Nat} {ov : Value} {o : Obj}
    (HO : wr.ownsRow (w.heap.size + 1 + 1 + 1) 39 1 ov k (rowL f k)) (HB : wr.heap[w.heap.size]? = some (regObj X Y W H)) (HS : wr.heap[w.heap.size + 1]? = some (fldO 0 0 0 0 (.slice none 0 0)))
    (HV : wr.heap[w.heap.size + 1 + 1]? = some (fldO X Y W H ov)) (hbel : Below w.heap.size w wr) (hb2 : Below wr.heap.size wr w2) (hgrow : (w2.alloc o).grownBy w3 ov.ownBlock)
    (hown3 : w3.ownsRow (w.heap.size + 1 + 1 + 1) 39 1 (.slice (some ⟨gg, 0, none⟩) (k + 1) cap) (k + 1) (rowL f k ++ [.float .f32 (f k)])) :
    MadeAt w X Y W H f (k + 1) (w3.setCell ⟨w.heap.size + 1 + 1, 4, none⟩ (.slice (some ⟨gg, 0, none⟩) (k + 1) cap)) := by
  have go : ∀ b o', wr.heap[b]? = some o' → b < w.heap.size + 1 + 1 + 1 → w3.heap[b]? = some o' := by
    intro b o' h hb
    have h2 := blkStay h hb2
    have hlt : b < w2.heap.size := by
      rcases Nat.lt_or_ge b w2.heap.size with x | x
      · exact x
      · rw [Array.getElem?_eq_none x] at h2; cases h2
    rw [hgrow.block b (by rw [heap_size_alloc]; omega) (ownsRow_far HO hb), heap_alloc_old _ _ hlt, h2]
  refine ⟨.slice (some ⟨gg, 0, none⟩) (k + 1) cap, ?_, ?_, ?_, ?_, ?_⟩
  · rw [rowL_succ]; exact ownsRow_setCell_below hown3 (show w.heap.size + 1 + 1 < w.heap.size + 1 + 1 + 1 by omega) _
  · exact (Below.heap_setCell _ _ _ _ (show w.heap.size ≠ w.heap.size + 1 + 1 by omega)).trans (go _ _ HB (by omega))
  · exact (Below.heap_setCell _ _ _ _ (show w.heap.size + 1 ≠ w.heap.size + 1 + 1 by omega)).trans (go _ _ HS (by omega))
  · rw [heap_setCell_same w3 (w.heap.size + 1 + 1) 4 _ _ _ (go _ _ HV (by omega))]; rfl
  · have h2 : Below w.heap.size w w2 := hbel.trans (hb2.mono hbel.size)
    have h3 := (h2.alloc h2.size o).grown hgrow (by rw [heap_size_alloc]; have := h2.size; omega) (fun b hb => by
      rcases HO.2 with ⟨rfl, _⟩ | ⟨g, _, _, rfl, hg, _⟩
      · cases hb
      · have : b = g := by simpa [Value.ownBlock] using hb.symm
        omega)
    exact h3.setCell (p := ⟨w.heap.size + 1 + 1, 4, none⟩) (show w.heap.size ≤ w.heap.size + 1 + 1 by omega) _

set_option maxRecDepth 100000 in
set_option maxHeartbeats 4000000 in
theorem made_any (X Y : Int) (W H n : Nat) (g : Nat) (caps : Array Value) (f : Nat → Nat) (w : World) (hcall : Enters g) (hcl : Clos2 g caps X Y W H f w) (hwf : wf32 n f) (hX1 : -16777216 ≤ X) (hX2 : X ≤ 16777216) (hY1 : -16777216 ≤ Y) (hY2 : Y ≤ 16777216) (hW1 : 1 ≤ W) (hW2 : W ≤ 512) (hH1 : 1 ≤ H) (hH2 : H ≤ 512) (hn : n = H * W) :
    Calls Try.prog 68 #[reg X Y W H, .func (.func g) #[] caps] w (MadePost w X Y W H n f) := by
  have HCL := Lib.hid hcl
  have HWF := Lib.hid hwf
  unfold Enters at hcall
  have HN := Lib.hid hn
  have hinfo : (Try.prog.info? 39).map (fun i => (i.zero, i.size, i.bytes)) = some (some (.float .f32 0), 1, 4) := by kernel_rfl
  obtain ⟨i0, hi, hz0, hz1, hz2⟩ := info_parts hinfo
  clear hcl hn hinfo hwf
  go_enter Try.func68, Try.ntmps68
  go_wp2
  go_loopw [7, 8] (fun y x wr => ∃ j : Nat, j ≤ H ∧ y = .int .i64 (Y + j) ∧ MadeAt w X Y W H f (j * W) wr) (fun y _ _ => (Y + H - intOf y).toNat)
  case atStart =>
    refine ⟨0, by omega, by simp, .slice none 0 0, ⟨by simp [rowL], .inl ⟨rfl, by simp⟩⟩, ?_, ?_, ?_, (by repeat (first | exact Below.refl _ _ | refine Below.alloc ?_ (by first | omega | (simp; done) | (simp; omega)) _ | refine Below.setCell ?_ (by first | omega | (simp; done) | (simp; omega)) _ | refine Below.drew ?_))⟩
    · simp only [heap_alloc_get, heap_size_alloc]; simp <;> omega
    · simp only [heap_alloc_get, heap_size_alloc]; simp <;> omega
    · simp only [heap_alloc_get, heap_size_alloc]; simp <;> omega
  case round =>
    obtain ⟨j, hj, rfl, hmade⟩ := hrel
    have HM := Lib.hid hmade
    obtain ⟨_, _, hbox, _⟩ := hmade
    obtain ⟨cB, fB, zB⟩ := blkC hbox
    clear hbox
    by_cases hlt : j < H
    · go_wp2
      clear cB fB zB
      obtain ⟨w1, rfl⟩ : ∃ w1, w1 = wr := ⟨_, rfl⟩
      go_loopw [8] (fun x wr => ∃ i : Nat, i ≤ W ∧ x = .int .i64 (X + i) ∧ MadeAt w X Y W H f (j * W + i) wr) (fun x _ => (X + W - intOf x).toNat)
      case atStart => exact ⟨0, by omega, by simp, HM.out⟩
      case round =>
        obtain ⟨i, hi1, rfl, hmi⟩ := hrel
        have HMi := Lib.hid hmi
        obtain ⟨ov, hown, hbox, hres, hout, hbel⟩ := hmi
        have HO := Lib.hid hown
        have HB := Lib.hid hbox
        have HS := Lib.hid hres
        have HV := Lib.hid hout
        obtain ⟨cB, fB, zB⟩ := blkC hbox
        obtain ⟨cV, fV, zV⟩ := blkC hout
        clear hbox hown hres hout
        by_cases hlt2 : i < W
        · have CC := Lib.hid (fun W' hb => HCL.out (X + i) (Y + j) (j * W + i) W' (by omega) (by omega) (by omega) (by omega) (by rw [show (Y + (j : Int) - Y) = j by omega, show (X + (i : Int) - X) = i by omega]; simp) hb)
          have hk : j * W + i < 262144 := by
            have : j * W ≤ 511 * 512 := Nat.mul_le_mul (by omega) hW2
            omega
          have hx : f (j * W + i) < 4294967296 := HWF.out _ (by
            rw [HN.out]
            have : (j + 1) * W ≤ H * W := Nat.mul_le_mul_right _ hlt
            rw [Nat.succ_mul] at this; omega)
          obtain ⟨k, hke⟩ : ∃ k, j * W + i = k := ⟨_, rfl⟩
          rw [hke] at CC hk hx HO
          have KE := Lib.hid (show j * W + (i + 1) = k + 1 by omega)
          clear hke
          have hrd : Below w.heap.size w wr.drew := hbel.drew
          have hb1 : k + 1 ≤ maxLen := by unfold maxLen; omega
          have hb2 : (k + 1) * 4 ≤ 140737488355328 := by omega
          have HB1 := Lib.hid hb1
          have HB2 := Lib.hid hb2
          clear hb1 hb2
          go_wp2_with fail
          go_region_law (first
            | (go_simp; (with_reducible refine (CC.out _ hrd).mono ?_); rintro e w2 ⟨rfl, hb2'⟩; have hb2 : Below wr.heap.size wr w2 := ⟨hb2'.os, hb2'.tape, hb2'.output, hb2'.size, hb2'.block⟩; have own2 := Lib.hid (ownsRow_below HO.out hb2); have out2 := Lib.hid (blkStay HV.out hb2); obtain ⟨cV2, fV2, zV2⟩ := blkC out2.out)
            | (refine step_append_lies _ (by rfl) _ _ _ (by rfl) (w.heap.size + 1 + 1 + 1) 39 i0 _ 1 4 Try.underlying34 hi hz0 hz1 hz2 rfl (by omega) ov k (rowL f k) (by rfl) (own2.out.alloc _) ⟨w2.heap.size, 0, none⟩ 1 1 [.float .f32 (f k)] (by rfl) (by rfl) (World.news_of_block (cs := #[.float .f32 (f k)]) (t := 39) (fr := (0, 0)) (heap_alloc_new w2 _)) (by simp [Value.oneCell']) (by omega) HB1.out HB2.out (by simp; omega) (w2.heap.size + 1) (by simp) ?_; intro gg cap w3 hown3 hgrow hat hlt3; have hF := ownsRow_far HO.out (show w.heap.size + 1 + 1 < w.heap.size + 1 + 1 + 1 by omega); have out3 := Lib.hid ((hgrow.block (w.heap.size + 1 + 1) (by rw [heap_size_alloc]; omega) hF).trans ((heap_alloc_old _ _ zV2).trans out2.out)); obtain ⟨cV3, fV3, zV3⟩ := blkC out3.out))
          all_goals
            have HM2 := Lib.hid (made_step HO.out HB.out HS.out HV.out hbel hb2 hgrow hown3)
            clear hown3 hgrow hat hlt3 hF cV3 fV3 zV3 cV2 fV2 zV2 cV fV zV
            go_wp2
            go_roundw
            case rel => exact ⟨i + 1, by omega, by go_num, by rw [KE.out]; exact HM2.out⟩
            case measure => simp [intOf]; omega
        · have hiW : i = W := by omega
          have HM3 : Hid (MadeAt w X Y W H f ((j + 1) * W) wr) := by
            have h := HMi.out
            rw [hiW, ← Nat.succ_mul] at h
            exact h
          have hge : ¬ X + (i : Int) < X + W := by omega
          clear hiW
          go_wp2
          go_roundw
          case rel => exact ⟨j + 1, by omega, by go_num, HM3.out⟩
          case measure => simp [intOf]; omega
    · have hjH : j = H := by omega
      have hn1 : 0 < n := by rw [HN.out]; exact Nat.mul_pos hH1 hW1
      have hn2 : n ≤ 262144 := by rw [HN.out]; exact Nat.le_trans (Nat.mul_le_mul hH2 hW2) (by omega)
      have hm := HM.out
      rw [hjH, ← HN.out] at hm
      obtain ⟨ov, hown, hbox, hres, hout, hbel⟩ := hm
      obtain ⟨gb, cap, rfl, hgb, _⟩ := hown.form hn1
      obtain ⟨hfl, hgl, _⟩ := ownsRow_flAt hown hn1
      obtain ⟨cV, fV, zV⟩ := blkC hout
      obtain ⟨cS, fS, zS⟩ := blkC hres
      have HF := Lib.hid hfl
      have OUT := Lib.hid (refOut_row gb 0 cap n f (by omega) wr hfl HWF.out)
      have HBL := Lib.hid hbel
      clear hjH hown hbox hres hout hfl hbel
      cases hall : allB n (fun i => hgtB (f i)) with
      | true =>
        have HA := Lib.hid hall
        rw [hall] at OUT
        clear hall
        go_wp2_with (go_at_call 100; refine OUT.out.mono ?_; rintro e w' ⟨rfl, rfl⟩)
        refine bodyPost_ret (v := .tuple #[fldV X Y W H (.slice (some ⟨gb, 0, none⟩) n cap), .int .i64 0]) (by simp [results, Try.results68, go_sem, cS]) rfl ?_
        exact .inl ⟨HA.out, gb, cap, rfl, by omega, by rw [set5_size]; exact hgl, flAt_congr HF.out (set5_heap wr (w.heap.size + 1) gb _ _ _ _ _ (by omega)), set5_below HBL.out (w.heap.size + 1) _ _ _ _ _ (by omega)⟩
      | false =>
        have HA := Lib.hid hall
        rw [hall] at OUT
        clear hall
        go_wp2_with (go_at_call 100; refine OUT.out.mono ?_; rintro e w' ⟨rfl, rfl⟩)
        refine bodyPost_ret (v := .tuple #[fldV 0 0 0 0 (.slice none 0 0), .int .i64 3]) (by simp [results, Try.results68, go_sem, cS]) rfl ?_
        exact .inr ⟨HA.out, rfl, set5_below HBL.out (w.heap.size + 1) _ _ _ _ _ (by omega)⟩

end Go.Proofs.Ytncgcjeihihkfaa
