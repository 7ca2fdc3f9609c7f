/- Lemmas and contracts for the proof that the last text of this claim holds. -/
import Derived.Test.YtihjemookgnafaaScJA
import Derived.Deep.AppendLies
import Derived.Deep.RegionLaw
import Derived.WalkKit
import Derived.Deep.RegionHeld3

/- Contract: byCell, whatever function it is given. -/
namespace Go.Proofs.Ytihjemookgnafaa
open Go.RowKit Fl

/-- Block b has at least n singles; the first k are f. -/
def RowPart (wr : World) (b n k : Nat) (f : Nat → Nat) : Prop :=
  ∃ cs : Array Value, wr.heap[b]? = some (.cells cs 37 (0, 0)) ∧ n ≤ cs.size ∧ ∀ j, j < k → cs[j]? = some (.float .f32 (f j))
theorem RowPart.congr {w w' : World} {b n k : Nat} {f : Nat → Nat} (h : RowPart w b n k f) (e : w'.heap[b]? = w.heap[b]?) : RowPart w' b n k f := by
  obtain ⟨cs, h1, h2⟩ := h
  exact ⟨cs, by rw [e]; exact h1, h2⟩
theorem RowPart.lt {w : World} {b n k : Nat} {f : Nat → Nat} (h : RowPart w b n k f) : b < w.heap.size := by
  obtain ⟨cs, h1, _⟩ := h
  exact (blkC h1).2.2
theorem RowPart.free {w : World} {b n k : Nat} {f : Nat → Nat} (h : RowPart w b n k f) (j : Nat) : w.frozen? ⟨b, j, none⟩ = false := by
  obtain ⟨cs, h1, _⟩ := h
  exact (blkC h1).2.1 j
theorem RowPart.cell {w : World} {b n k : Nat} {f : Nat → Nat} (h : RowPart w b n k f) {j : Nat} (hj : j < n) : ∃ x, w.cell? ⟨b, j, none⟩ = some x := by
  obtain ⟨cs, h1, h2, _⟩ := h
  exact ⟨cs[j]'(by omega), by rw [(blkC h1).1 j, Array.getElem?_eq_getElem (by omega)]⟩
theorem RowPart.flAt {w : World} {b n k : Nat} {f : Nat → Nat} (h : RowPart w b n k f) : FlAt w b 0 k f := by
  intro i hi
  obtain ⟨cs, h1, h2, h3⟩ := h
  rw [Nat.zero_add, (blkC h1).1 i]
  exact h3 i hi
theorem RowPart.put {w : World} {b n k : Nat} {f : Nat → Nat} (h : RowPart w b n k f) (hk : k < n) : RowPart (w.setCell ⟨b, k, none⟩ (.float .f32 (f k))) b n (k + 1) f := by
  obtain ⟨cs, h1, h2, h3⟩ := h
  refine ⟨cs.setIfInBounds k (.float .f32 (f k)), heap_setCell_same w b k cs _ _ h1, by simp [h2], fun j hj => ?_⟩
  by_cases e : k = j
  · subst e; rw [Array.getElem?_setIfInBounds_self_of_lt (by omega)]
  · rw [Array.getElem?_setIfInBounds_ne e]; exact h3 j (by omega)

/-- A function of a cell's number, as a closure: in any world that has grown out of w it answers f, and leaves what was there. -/
def Clos1 (g : Nat) (caps : Array Value) (n : Nat) (f : Nat → Nat) (w : World) : Prop :=
  ∀ (i : Nat) (W : World), i < n → Below w.heap.size w W → Calls Try.prog g (#[.int .i64 i] ++ caps) W fun e W' => e = .returned (.float .f32 (f i)) ∧ Below W.heap.size W W'
def Enters (g : Nat) : Prop := ∀ (args : Array Value) (W : World), (callFunc g args).run Try.prog W = .ok (.enter g args) W

/-- A field that is made of f, or the error. -/
def MadePost (w : World) (X Y W H : Int) (n : Nat) (f : Nat → Nat) (e : Ending) (w' : World) : Prop :=
  (allB n (fun i => hgtB (f i)) = true ∧ ∃ b cap, e = .returned (.tuple #[fldV X Y W H (.slice (some ⟨b, 0, none⟩) n cap), .int .i64 0]) ∧ w.heap.size ≤ b ∧ b < w'.heap.size ∧ FlAt w' b 0 n f ∧ Below w.heap.size w w') ∨
  (allB n (fun i => hgtB (f i)) = false ∧ e = .returned (.tuple #[fldV 0 0 0 0 (.slice none 0 0), .int .i64 3]) ∧ Below w.heap.size w w')

/-- A field's five cells stored into block b. -/
abbrev set5 (wr : World) (b : Nat) (u1 u2 u3 u4 u5 : Value) : World :=
  ((((wr.setCell ⟨b, 0, none⟩ u1).setCell ⟨b, 1, none⟩ u2).setCell ⟨b, 2, none⟩ u3).setCell ⟨b, 3, none⟩ u4).setCell ⟨b, 4, none⟩ u5
theorem set5_heap (wr : World) (b k : Nat) (u1 u2 u3 u4 u5 : Value) (h : k ≠ b) : (set5 wr b u1 u2 u3 u4 u5).heap[k]? = wr.heap[k]? := by
  rw [Below.heap_setCell _ _ _ _ h, Below.heap_setCell _ _ _ _ h, Below.heap_setCell _ _ _ _ h, Below.heap_setCell _ _ _ _ h, Below.heap_setCell _ _ _ _ h]
theorem set5_below {w wr : World} {B : Nat} (hb : Below B w wr) (b : Nat) (u1 u2 u3 u4 u5 : Value) (h : B ≤ b) : Below B w (set5 wr b u1 u2 u3 u4 u5) :=
  ((((hb.setCell (p := ⟨b, 0, none⟩) h u1).setCell (p := ⟨b, 1, none⟩) h u2).setCell (p := ⟨b, 2, none⟩) h u3).setCell (p := ⟨b, 3, none⟩) h u4).setCell (p := ⟨b, 4, none⟩) h u5
theorem set5_size (wr : World) (b : Nat) (u1 u2 u3 u4 u5 : Value) : (set5 wr b u1 u2 u3 u4 u5).heap.size = wr.heap.size := by simp [set5]

set_option maxHeartbeats 2000000 in
theorem byCell_any (X Y W H : Int) (n : Nat) (g : Nat) (caps : Array Value) (f : Nat → Nat) (w : World) (hcall : Enters g) (hcl : Clos1 g caps n f w) (hn : (n : Int) = W * H) (hn1 : 1 ≤ n) (hn2 : n ≤ 65536) :
    Calls Try.prog 76 #[reg X Y W H, .func (.func g) #[] caps] w (MadePost w X Y W H n f) := by
  have en : wrap64 (W * H) = (n : Int) := by rw [← hn]; exact IntWalk.wrap64_in _ ⟨by omega, by omega⟩
  have hmk := make_f32 n hn2
  have HCL := Lib.hid hcl
  unfold Enters at hcall
  clear hn hcl
  have hsf := fun (w : World) (a : Addr) (m : Mode) (k : FloatKind) (b : Nat) => run_store_float (P := Try.prog) (w := w) (a := a) (m := m) k b
  go_enter Try.func76, Try.ntmps76
  go_wp2
  clear en hmk
  go_loopw [17] (fun i wr => ∃ k : Nat, k ≤ n ∧ i = .int .i64 k ∧ RowPart wr (w.heap.size + 1 + 1) n k f ∧ wr.heap[w.heap.size]? = some (regObj X Y W H) ∧ wr.heap[w.heap.size + 1]? = some (fldO 0 0 0 0 (.slice none 0 0)) ∧ Below w.heap.size w wr) (fun i _ => n - (intOf i).toNat)
  case atStart =>
    refine ⟨0, Nat.zero_le _, rfl, ⟨madeCells #[Value.float .f32 0] n, ?_, by rw [size_madeCells]; exact Nat.le_refl _, fun j hj => by omega⟩, ?_, ?_, (by repeat (first | exact Below.refl _ _ | refine Below.alloc ?_ (by first | omega | (simp; done) | (simp; omega)) _ | refine Below.setCell ?_ (by first | omega | (simp; done) | (simp; omega)) _ | refine Below.drew ?_))⟩
    · simp only [heap_alloc_get, heap_size_alloc]; simp <;> omega
    · simp only [heap_alloc_get, heap_size_alloc]; simp <;> omega
    · simp only [heap_alloc_get, heap_size_alloc]; simp <;> omega
  case round =>
    obtain ⟨k, hk, rfl, hrow, hbox, hres, hbel⟩ := hrel
    have HR := Lib.hid hrow
    have HB := Lib.hid hbox
    have HS := Lib.hid hres
    clear hrow hbox hres
    by_cases hlt : k < n
    · have CC := Lib.hid (HCL.out k wr hlt hbel)
      go_wp2_with fail
      refine CC.out.mono ?_
      rintro e w2 ⟨rfl, hb2⟩
      have R2 := Lib.hid (HR.out.congr (hb2.block _ HR.out.lt))
      have B2 := Lib.hid (blkStay HB.out hb2)
      have S2 := Lib.hid (blkStay HS.out hb2)
      have L2 : Below w.heap.size w w2 := hbel.trans (hb2.mono hbel.size)
      have z2 := R2.out.lt
      have f2 := R2.out.free k
      obtain ⟨x0, hx0⟩ := R2.out.cell hlt
      clear hb2 CC HR HB HS hbel
      go_wp2
      go_roundw
      case rel =>
        exact ⟨k + 1, by omega, by go_num, R2.out.put hlt, (Below.heap_setCell _ _ _ _ (show w.heap.size ≠ w.heap.size + 1 + 1 by omega)).trans B2.out, (Below.heap_setCell _ _ _ _ (show w.heap.size + 1 ≠ w.heap.size + 1 + 1 by omega)).trans S2.out, L2.setCell (p := ⟨w.heap.size + 1 + 1, k, none⟩) (show w.heap.size ≤ w.heap.size + 1 + 1 by omega) _⟩
      case measure => simp [intOf]; omega
    · have hkn : k = n := by omega
      subst hkn
      obtain ⟨cB, fB, zB⟩ := blkC HB.out
      obtain ⟨cS, fS, zS⟩ := blkC HS.out
      have HF := HR.out.flAt
      have CH := Lib.hid (checkRange_row (w.heap.size + 1 + 1) 0 k k f (by omega) wr HF)
      clear HF
      cases hall : allB k (fun i => hgtB (f i)) with
      | true =>
        have e : hgtE k f = 0 := by unfold hgtE; rw [hall]; rfl
        rw [e] at CH
        clear e
        go_wp2_with (go_at_call 138; refine CH.out.mono ?_; rintro e w' ⟨rfl, rfl⟩)
        refine bodyPost_ret (v := .tuple #[fldV X Y W H (.slice (some ⟨w.heap.size + 1 + 1, 0, none⟩) k k), .int .i64 0]) (by simp [results, Try.results76, go_sem, cS]) rfl ?_
        exact .inl ⟨hall, w.heap.size + 1 + 1, k, rfl, by omega, by rw [set5_size]; exact HR.out.lt, (HR.out.congr (set5_heap wr (w.heap.size + 1) (w.heap.size + 1 + 1) _ _ _ _ _ (by omega))).flAt, set5_below hbel (w.heap.size + 1) _ _ _ _ _ (by omega)⟩
      | false =>
        have e : hgtE k f = 3 := by unfold hgtE; rw [hall]; rfl
        rw [e] at CH
        clear e
        go_wp2_with (go_at_call 138; refine CH.out.mono ?_; rintro e w' ⟨rfl, rfl⟩)
        refine bodyPost_ret (v := .tuple #[fldV 0 0 0 0 (.slice none 0 0), .int .i64 3]) (by simp [results, Try.results76, go_sem, cS]) rfl ?_
        exact .inr ⟨hall, rfl, set5_below hbel (w.heap.size + 1) _ _ _ _ _ (by omega)⟩

end Go.Proofs.Ytihjemookgnafaa

/- Contract: the reference's made, whatever function it is given. -/
namespace Go.Proofs.Ytihjemookgnafaa
open Go.RowKit Fl
set_option linter.unusedVariables false

def rowL (f : Nat → Nat) (k : Nat) : List Value := (List.range k).map fun i => Value.float .f32 (f i)
theorem rowL_succ (f : Nat → Nat) (k : Nat) : rowL f (k + 1) = rowL f k ++ [.float .f32 (f k)] := by simp [rowL, List.range_succ]
theorem ownsRow_below {w w' : World} {base : Nat} {e : TypeId} {size : Nat} {v : Value} {n : Nat} {xs : List Value} (h : w.ownsRow base e size v n xs) (hb : Below w.heap.size w w') : w'.ownsRow base e size v n xs := by
  obtain ⟨h1, h2⟩ := h
  refine ⟨h1, ?_⟩
  rcases h2 with h2 | ⟨g, cap, cur, hv, hg, hh, r⟩
  · exact .inl h2
  · exact .inr ⟨g, cap, cur, hv, hg, blkStay hh hb, r⟩
theorem ownsRow_far {w : World} {base : Nat} {e : TypeId} {size : Nat} {v : Value} {n : Nat} {xs : List Value} (h : w.ownsRow base e size v n xs) {b : Nat} (hb : b < base) : some b ≠ v.ownBlock := by
  rcases h.2 with ⟨rfl, _⟩ | ⟨g, cap, cur, rfl, hg, _⟩
  · simp [Value.ownBlock]
  · intro c
    have : b = g := by simpa [Value.ownBlock] using c
    omega
theorem ownsRow_flAt {w : World} {base b cap k : Nat} {f : Nat → Nat} (h : w.ownsRow base 37 1 (.slice (some ⟨b, 0, none⟩) k cap) k (rowL f k)) (hk : 0 < k) : FlAt w b 0 k f ∧ b < w.heap.size ∧ base ≤ b := by
  rcases h.2 with ⟨h0, _⟩ | ⟨g, cap', cur, hv, hg, hh, h1, h2, h3, h4⟩
  · cases h0
  · cases hv
    refine ⟨fun i hi => ?_, (blkC hh).2.2, hg⟩
    rw [Nat.zero_add, (blkC hh).1 i]
    have : (cur.toList.take (k * 1))[i]? = some (.float .f32 (f i)) := by rw [h4]; simp [rowL, hi]
    rw [List.getElem?_take, if_pos (by omega)] at this
    simpa using this

/-- A function of a cell's place, as a closure. -/
def Clos2 (g : Nat) (caps : Array Value) (X Y W H : Int) (f : Nat → Nat) (w : World) : Prop :=
  ∀ (x y : Int) (i : Nat) (W' : World), X ≤ x → x < X + W → Y ≤ y → y < Y + H → (i : Int) = (y - Y) * W + (x - X) → Below w.heap.size w W' →
    Calls Try.prog g (#[.int .i64 x, .int .i64 y] ++ caps) W' fun e W'' => e = .returned (.float .f32 (f i)) ∧ Below W'.heap.size W' W''

/-- What holds of the world at each head of made's loops, when k values have been made. -/
def MadeAt (w : World) (X Y W H : Int) (f : Nat → Nat) (k : Nat) (wr : World) : Prop :=
  ∃ ov, wr.ownsRow (w.heap.size + 1 + 1 + 1) 37 1 ov k (rowL f k) ∧ wr.heap[w.heap.size]? = some (regObj X Y W H) ∧ wr.heap[w.heap.size + 1]? = some (fldO 0 0 0 0 (.slice none 0 0)) ∧
    wr.heap[w.heap.size + 1 + 1]? = some (fldO X Y W H ov) ∧ Below w.heap.size w wr

theorem flAt_congr {w w' : World} {b off n : Nat} {f : Nat → Nat} (h : FlAt w b off n f) (e : w'.heap[b]? = w.heap[b]?) : FlAt w' b off n f := fun i hi => by
  rw [← h i hi]; exact World.cell?_of_block (w := w) (a := ⟨b, off + i, none⟩) e

theorem made_step {w wr w2 w3 : World} {X Y W H : Int} {f : Nat → Nat} {k gg cap : Nat} {ov : Value} {o : Obj}
    (HO : wr.ownsRow (w.heap.size + 1 + 1 + 1) 37 1 ov k (rowL f k)) (HB : wr.heap[w.heap.size]? = some (regObj X Y W H)) (HS : wr.heap[w.heap.size + 1]? = some (fldO 0 0 0 0 (.slice none 0 0)))
    (HV : wr.heap[w.heap.size + 1 + 1]? = some (fldO X Y W H ov)) (hbel : Below w.heap.size w wr) (hb2 : Below wr.heap.size wr w2) (hgrow : (w2.alloc o).grownBy w3 ov.ownBlock)
    (hown3 : w3.ownsRow (w.heap.size + 1 + 1 + 1) 37 1 (.slice (some ⟨gg, 0, none⟩) (k + 1) cap) (k + 1) (rowL f k ++ [.float .f32 (f k)])) :
    MadeAt w X Y W H f (k + 1) (w3.setCell ⟨w.heap.size + 1 + 1, 4, none⟩ (.slice (some ⟨gg, 0, none⟩) (k + 1) cap)) := by
  have go : ∀ b o', wr.heap[b]? = some o' → b < w.heap.size + 1 + 1 + 1 → w3.heap[b]? = some o' := by
    intro b o' h hb
    have h2 := blkStay h hb2
    have hlt : b < w2.heap.size := by
      rcases Nat.lt_or_ge b w2.heap.size with x | x
      · exact x
      · rw [Array.getElem?_eq_none x] at h2; cases h2
    rw [hgrow.block b (by rw [heap_size_alloc]; omega) (ownsRow_far HO hb), heap_alloc_old _ _ hlt, h2]
  refine ⟨.slice (some ⟨gg, 0, none⟩) (k + 1) cap, ?_, ?_, ?_, ?_, ?_⟩
  · rw [rowL_succ]; exact ownsRow_setCell_below hown3 (show w.heap.size + 1 + 1 < w.heap.size + 1 + 1 + 1 by omega) _
  · exact (Below.heap_setCell _ _ _ _ (show w.heap.size ≠ w.heap.size + 1 + 1 by omega)).trans (go _ _ HB (by omega))
  · exact (Below.heap_setCell _ _ _ _ (show w.heap.size + 1 ≠ w.heap.size + 1 + 1 by omega)).trans (go _ _ HS (by omega))
  · rw [heap_setCell_same w3 (w.heap.size + 1 + 1) 4 _ _ _ (go _ _ HV (by omega))]; rfl
  · have h2 : Below w.heap.size w w2 := hbel.trans (hb2.mono hbel.size)
    have h3 := (h2.alloc h2.size o).grown hgrow (by rw [heap_size_alloc]; have := h2.size; omega) (fun b hb => by
      rcases HO.2 with ⟨rfl, _⟩ | ⟨g, _, _, rfl, hg, _⟩
      · cases hb
      · have : b = g := by simpa [Value.ownBlock] using hb.symm
        omega)
    exact h3.setCell (p := ⟨w.heap.size + 1 + 1, 4, none⟩) (show w.heap.size ≤ w.heap.size + 1 + 1 by omega) _

set_option maxRecDepth 100000 in
set_option maxHeartbeats 4000000 in
theorem made_any (X Y : Int) (W H n : Nat) (g : Nat) (caps : Array Value) (f : Nat → Nat) (w : World) (hcall : Enters g) (hcl : Clos2 g caps X Y W H f w) (hwf : wf32 n f) (hX1 : -16777216 ≤ X) (hX2 : X ≤ 16777216) (hY1 : -16777216 ≤ Y) (hY2 : Y ≤ 16777216) (hW1 : 1 ≤ W) (hW2 : W ≤ 512) (hH1 : 1 ≤ H) (hH2 : H ≤ 512) (hn : n = H * W) :
    Calls Try.prog 88 #[reg X Y W H, .func (.func g) #[] caps] w (MadePost w X Y W H n f) := by
  have HCL := Lib.hid hcl
  have HWF := Lib.hid hwf
  unfold Enters at hcall
  have HN := Lib.hid hn
  have hinfo : (Try.prog.info? 37).map (fun i => (i.zero, i.size, i.bytes)) = some (some (.float .f32 0), 1, 4) := by kernel_rfl
  obtain ⟨i0, hi, hz0, hz1, hz2⟩ := info_parts hinfo
  clear hcl hn hinfo hwf
  go_enter Try.func88, Try.ntmps88
  go_wp2
  go_loopw [7, 8] (fun y x wr => ∃ j : Nat, j ≤ H ∧ y = .int .i64 (Y + j) ∧ MadeAt w X Y W H f (j * W) wr) (fun y _ _ => (Y + H - intOf y).toNat)
  case atStart =>
    refine ⟨0, by omega, by simp, .slice none 0 0, ⟨by simp [rowL], .inl ⟨rfl, by simp⟩⟩, ?_, ?_, ?_, (by repeat (first | exact Below.refl _ _ | refine Below.alloc ?_ (by first | omega | (simp; done) | (simp; omega)) _ | refine Below.setCell ?_ (by first | omega | (simp; done) | (simp; omega)) _ | refine Below.drew ?_))⟩
    · simp only [heap_alloc_get, heap_size_alloc]; simp <;> omega
    · simp only [heap_alloc_get, heap_size_alloc]; simp <;> omega
    · simp only [heap_alloc_get, heap_size_alloc]; simp <;> omega
  case round =>
    obtain ⟨j, hj, rfl, hmade⟩ := hrel
    have HM := Lib.hid hmade
    obtain ⟨_, _, hbox, _⟩ := hmade
    obtain ⟨cB, fB, zB⟩ := blkC hbox
    clear hbox
    by_cases hlt : j < H
    · go_wp2
      clear cB fB zB
      obtain ⟨w1, rfl⟩ : ∃ w1, w1 = wr := ⟨_, rfl⟩
      go_loopw [8] (fun x wr => ∃ i : Nat, i ≤ W ∧ x = .int .i64 (X + i) ∧ MadeAt w X Y W H f (j * W + i) wr) (fun x _ => (X + W - intOf x).toNat)
      case atStart => exact ⟨0, by omega, by simp, HM.out⟩
      case round =>
        obtain ⟨i, hi1, rfl, hmi⟩ := hrel
        have HMi := Lib.hid hmi
        obtain ⟨ov, hown, hbox, hres, hout, hbel⟩ := hmi
        have HO := Lib.hid hown
        have HB := Lib.hid hbox
        have HS := Lib.hid hres
        have HV := Lib.hid hout
        obtain ⟨cB, fB, zB⟩ := blkC hbox
        obtain ⟨cV, fV, zV⟩ := blkC hout
        clear hbox hown hres hout
        by_cases hlt2 : i < W
        · have CC := Lib.hid (fun W' hb => HCL.out (X + i) (Y + j) (j * W + i) W' (by omega) (by omega) (by omega) (by omega) (by rw [show (Y + (j : Int) - Y) = j by omega, show (X + (i : Int) - X) = i by omega]; simp) hb)
          have hk : j * W + i < 262144 := by
            have : j * W ≤ 511 * 512 := Nat.mul_le_mul (by omega) hW2
            omega
          have hx : f (j * W + i) < 4294967296 := HWF.out _ (by
            rw [HN.out]
            have : (j + 1) * W ≤ H * W := Nat.mul_le_mul_right _ hlt
            rw [Nat.succ_mul] at this; omega)
          obtain ⟨k, hke⟩ : ∃ k, j * W + i = k := ⟨_, rfl⟩
          rw [hke] at CC hk hx HO
          have KE := Lib.hid (show j * W + (i + 1) = k + 1 by omega)
          clear hke
          have hrd : Below w.heap.size w wr.drew := hbel.drew
          have hb1 : k + 1 ≤ maxLen := by unfold maxLen; omega
          have hb2 : (k + 1) * 4 ≤ 140737488355328 := by omega
          have HB1 := Lib.hid hb1
          have HB2 := Lib.hid hb2
          clear hb1 hb2
          go_wp2_with fail
          go_region_law (first
            | (go_simp; (with_reducible refine (CC.out _ hrd).mono ?_); rintro e w2 ⟨rfl, hb2'⟩; have hb2 : Below wr.heap.size wr w2 := ⟨hb2'.os, hb2'.tape, hb2'.output, hb2'.size, hb2'.block⟩; have own2 := Lib.hid (ownsRow_below HO.out hb2); have out2 := Lib.hid (blkStay HV.out hb2); obtain ⟨cV2, fV2, zV2⟩ := blkC out2.out)
            | (refine step_append_lies _ (by rfl) _ _ _ (by rfl) (w.heap.size + 1 + 1 + 1) 37 i0 _ 1 4 Try.underlying34 hi hz0 hz1 hz2 rfl (by omega) ov k (rowL f k) (by rfl) (own2.out.alloc _) ⟨w2.heap.size, 0, none⟩ 1 1 [.float .f32 (f k)] (by rfl) (by rfl) (World.news_of_block (cs := #[.float .f32 (f k)]) (t := 37) (fr := (0, 0)) (heap_alloc_new w2 _)) (by simp [Value.oneCell']) (by omega) HB1.out HB2.out (by simp; omega) (w2.heap.size + 1) (by simp) ?_; intro gg cap w3 hown3 hgrow hat hlt3; have hF := ownsRow_far HO.out (show w.heap.size + 1 + 1 < w.heap.size + 1 + 1 + 1 by omega); have out3 := Lib.hid ((hgrow.block (w.heap.size + 1 + 1) (by rw [heap_size_alloc]; omega) hF).trans ((heap_alloc_old _ _ zV2).trans out2.out)); obtain ⟨cV3, fV3, zV3⟩ := blkC out3.out))
          all_goals
            have HM2 := Lib.hid (made_step HO.out HB.out HS.out HV.out hbel hb2 hgrow hown3)
            clear hown3 hgrow hat hlt3 hF cV3 fV3 zV3 cV2 fV2 zV2 cV fV zV
            go_wp2
            go_roundw
            case rel => exact ⟨i + 1, by omega, by go_num, by rw [KE.out]; exact HM2.out⟩
            case measure => simp [intOf]; omega
        · have hiW : i = W := by omega
          have HM3 : Hid (MadeAt w X Y W H f ((j + 1) * W) wr) := by
            have h := HMi.out
            rw [hiW, ← Nat.succ_mul] at h
            exact h
          have hge : ¬ X + (i : Int) < X + W := by omega
          clear hiW
          go_wp2
          go_roundw
          case rel => exact ⟨j + 1, by omega, by go_num, HM3.out⟩
          case measure => simp [intOf]; omega
    · have hjH : j = H := by omega
      have hn1 : 0 < n := by rw [HN.out]; exact Nat.mul_pos hH1 hW1
      have hn2 : n ≤ 262144 := by rw [HN.out]; exact Nat.le_trans (Nat.mul_le_mul hH2 hW2) (by omega)
      have hm := HM.out
      rw [hjH, ← HN.out] at hm
      obtain ⟨ov, hown, hbox, hres, hout, hbel⟩ := hm
      obtain ⟨gb, cap, rfl, hgb, _⟩ := hown.form hn1
      obtain ⟨hfl, hgl, _⟩ := ownsRow_flAt hown hn1
      obtain ⟨cV, fV, zV⟩ := blkC hout
      obtain ⟨cS, fS, zS⟩ := blkC hres
      have HF := Lib.hid hfl
      have OUT := Lib.hid (refOut_row gb 0 cap n f (by omega) wr hfl HWF.out)
      have HBL := Lib.hid hbel
      clear hjH hown hbox hres hout hfl hbel
      cases hall : allB n (fun i => hgtB (f i)) with
      | true =>
        have HA := Lib.hid hall
        rw [hall] at OUT
        clear hall
        go_wp2_with (go_at_call 142; refine OUT.out.mono ?_; rintro e w' ⟨rfl, rfl⟩)
        refine bodyPost_ret (v := .tuple #[fldV X Y W H (.slice (some ⟨gb, 0, none⟩) n cap), .int .i64 0]) (by simp [results, Try.results88, go_sem, cS]) rfl ?_
        exact .inl ⟨HA.out, gb, cap, rfl, by omega, by rw [set5_size]; exact hgl, flAt_congr HF.out (set5_heap wr (w.heap.size + 1) gb _ _ _ _ _ (by omega)), set5_below HBL.out (w.heap.size + 1) _ _ _ _ _ (by omega)⟩
      | false =>
        have HA := Lib.hid hall
        rw [hall] at OUT
        clear hall
        go_wp2_with (go_at_call 142; refine OUT.out.mono ?_; rintro e w' ⟨rfl, rfl⟩)
        refine bodyPost_ret (v := .tuple #[fldV 0 0 0 0 (.slice none 0 0), .int .i64 3]) (by simp [results, Try.results88, go_sem, cS]) rfl ?_
        exact .inr ⟨HA.out, rfl, set5_below HBL.out (w.heap.size + 1) _ _ _ _ _ (by omega)⟩

end Go.Proofs.Ytihjemookgnafaa

/- Values of rounded results, in units of 2 ^ -1074: sums, differences, products, whole numbers; rounding is monotone, exact on few digits, and errs by half a unit of the last place. -/
namespace Go.Proofs.Ytihjemookgnafaa.Fl
open Ieee

theorem vS_some {x : Nat} {a : Int} (h : vS x = some a) : ∃ s m p, single.read x = .number s m p ∧ vOf s m p = a := by
  unfold vS at h
  split at h
  · rename_i s m p e
    exact ⟨s, m, p, e, Option.some.inj h⟩
  · cases h

/-- The value of the single nearest to a value. -/
def rdS (c : Int) : Int := if c < 0 then -((rd single 925 c.natAbs : Nat) : Int) else ((rd single 925 c.natAbs : Nat) : Int)

theorem rdS_zero : rdS 0 = 0 := by
  unfold rdS
  rw [if_neg (by omega), show (0 : Int).natAbs = 0 from rfl, rd_zero]; rfl

theorem rdS_sign {c : Int} {sg : Bool} (h : c = 0 ∨ sg = decide (c < 0)) : (if sg then -1 else 1) * ((rd single 925 c.natAbs : Nat) : Int) = rdS c := by
  rcases h with rfl | rfl
  · rw [rdS_zero, show (0 : Int).natAbs = 0 from rfl, rd_zero]; simp
  · unfold rdS
    by_cases h : c < 0
    · rw [if_pos h]; simp [h]
    · rw [if_neg h]; simp [h]

theorem vS_word {sg : Bool} {V B : Nat} (hB : V < 2 ^ B) (hB' : B < 1202) : vS (wordAt single 925 sg V) = some ((if sg then -1 else 1) * ((rd single 925 V : Nat) : Int)) := by
  obtain ⟨M, I, q1, _, q3⟩ := read_val single sg (-1074) 925 leastS V (rungS_lt hB hB')
  rw [vS_num q1]; unfold vOf; rw [signed_eq]
  have e : (I - (-1074)).toNat = (I + 1074).toNat := by omega
  rw [e] at q3; rw [q3]

theorem vS_sum {s t : Bool} {m n : Nat} {i j : Int} {r B : Nat} (hi : -1074 ≤ i) (hj : -1074 ≤ j) (h : ((Datum.number s m i).sum (.number t n j)).map single.write = some r)
    (hB : (vOf s m i + vOf t n j).natAbs < 2 ^ B) (hB' : B < 1202) : vS r = some (rdS (vOf s m i + vOf t n j)) := by
  obtain ⟨p, q, q1, q2, q3⟩ := sum_val (s := s) (t := t) (m := m) (n := n) hi hj
  rw [q1] at h
  have h' := Option.some.inj h
  rw [← h']
  show vS (single.nearest _ p q) = _
  rw [nearest_val single _ (-1074) 925 leastS p (p := q) q2, show (q - (-1074)).toNat = (q + 1074).toNat by omega, q3, vS_word hB hB', rdS_sign]
  by_cases z : vOf s m i + vOf t n j = 0
  · exact .inl z
  · right; rw [if_neg z]

theorem vS_add {x y r B : Nat} {a b : Int} (h : Go.floatBits .add .f32 x y = some r) (ha : vS x = some a) (hb : vS y = some b) (hB : (a + b).natAbs < 2 ^ B) (hB' : B < 1202) : vS r = some (rdS (a + b)) := by
  obtain ⟨s, m, i, h1, rfl⟩ := vS_some ha
  obtain ⟨t, n, j, h2, rfl⟩ := vS_some hb
  have g1 := (read_single h1).low
  have g2 := (read_single h2).low
  have h' : ((single.read x).sum (single.read y)).map single.write = some r := h
  rw [h1, h2] at h'
  exact vS_sum (by omega) (by omega) h' hB hB'

theorem vOf_opp (t : Bool) (n : Nat) (j : Int) : vOf (!t) n j = - vOf t n j := by
  unfold vOf; rw [signed_eq, signed_eq]; cases t <;> simp

theorem vS_sub {x y r B : Nat} {a b : Int} (h : Go.floatBits .sub .f32 x y = some r) (ha : vS x = some a) (hb : vS y = some b) (hB : (a - b).natAbs < 2 ^ B) (hB' : B < 1202) : vS r = some (rdS (a - b)) := by
  obtain ⟨s, m, i, h1, rfl⟩ := vS_some ha
  obtain ⟨t, n, j, h2, rfl⟩ := vS_some hb
  have g1 := (read_single h1).low
  have g2 := (read_single h2).low
  have h' : ((single.read x).sum (single.read y).opposite).map single.write = some r := h
  rw [h1, h2] at h'
  have e : vOf s m i - vOf t n j = vOf s m i + vOf (!t) n j := by rw [vOf_opp]; omega
  rw [e] at hB ⊢
  exact vS_sum (t := !t) (by omega) (by omega) h' hB hB'

/-- One, in units. -/
def one : Nat := 2 ^ (1074 : Int).toNat
theorem one_eq : one = 2 ^ (1074 : Int).toNat := rfl
theorem one_pos : 0 < one := Nat.two_pow_pos _

theorem vS_mul {x y r B : Nat} {a b c : Int} (h : Go.floatBits .mul .f32 x y = some r) (ha : vS x = some a) (hb : vS y = some b) (hc : a * b = c * (one : Int)) (hB : c.natAbs < 2 ^ B) (hB' : B < 1202) : vS r = some (rdS c) := by
  obtain ⟨s, m, i, h1, rfl⟩ := vS_some ha
  obtain ⟨t, n, j, h2, rfl⟩ := vS_some hb
  have g1 := (read_single h1).low
  have g2 := (read_single h2).low
  have h' : ((single.read x).product (single.read y)).map single.write = some r := h
  rw [h1, h2] at h'
  have h'' := Option.some.inj h'
  rw [← h'']
  show vS (single.nearest (s ^^ t) (m * n) (i + j)) = _
  rw [nearest_val single _ (-1074) 925 leastS (m * n) (p := i + j) (by omega), show (i + j - (-1074)).toNat = (i + j + 1074).toNat by omega]
  have hv : c = (if (s ^^ t) then -1 else 1) * ((m * n * 2 ^ (i + j + 1074).toNat : Nat) : Int) := by
    have hp : (0 : Int) < (one : Int) := Int.natCast_pos.2 one_pos
    refine Int.eq_of_mul_eq_mul_right (Int.ne_of_gt hp) ?_
    rw [← hc]
    unfold vOf
    rw [signed_eq, signed_eq, one_eq]
    have p2 := pow_add_toNat (I := i + j + 1074) (J := 1074) (K := i + 1074) (L := j + 1074) (by omega) (by omega) (by omega) (by omega) (by omega)
    have e : m * n * 2 ^ (i + j + 1074).toNat * 2 ^ (1074 : Int).toNat = (m * 2 ^ (i + 1074).toNat) * (n * 2 ^ (j + 1074).toNat) := by
      rw [Nat.mul_assoc (m * n), p2]; simp only [Nat.mul_assoc, Nat.mul_left_comm]
    have e' : ((m * n * 2 ^ (i + j + 1074).toNat : Nat) : Int) * ((2 ^ (1074 : Int).toNat : Nat) : Int) = ((m * 2 ^ (i + 1074).toNat : Nat) : Int) * ((n * 2 ^ (j + 1074).toNat : Nat) : Int) := by
      rw [← Int.natCast_mul, e, Int.natCast_mul]
    refine Eq.trans ?_ (Int.mul_assoc _ _ _).symm
    rw [e']
    generalize ((m * 2 ^ (i + 1074).toNat : Nat) : Int) = u
    generalize ((n * 2 ^ (j + 1074).toNat : Nat) : Int) = v
    cases s <;> cases t <;> simp [Int.neg_mul, Int.mul_neg]
  have hn : c.natAbs = m * n * 2 ^ (i + j + 1074).toNat := by
    rw [hv, Int.natAbs_mul, Int.natAbs_natCast]; cases (s ^^ t) <;> simp
  rw [← hn, vS_word hB hB', rdS_sign]
  by_cases z : c = 0
  · exact .inl z
  · right
    have : 0 < m * n * 2 ^ (i + j + 1074).toNat := by omega
    generalize m * n * 2 ^ (i + j + 1074).toNat = V at *
    rw [hv]
    cases (s ^^ t)
    · simp
    · simp; omega

/-- A whole number as a single. -/
theorem vS_int {n : Int} {B : Nat} (hB : (n * (one : Int)).natAbs < 2 ^ B) (hB' : B < 1202) : vS (Go.floatOfInt .f32 n) = some (rdS (n * (one : Int))) := by
  show vS (single.nearest (n < 0) n.natAbs 0) = _
  rw [nearest_val single _ (-1074) 925 leastS n.natAbs (p := 0) (by omega), show ((0 : Int) - (-1074)).toNat = (1074 : Int).toNat by rfl]
  have e : (n * (one : Int)).natAbs = n.natAbs * 2 ^ (1074 : Int).toNat := by rw [Int.natAbs_mul, Int.natAbs_natCast, one_eq]
  rw [← e, vS_word hB hB', rdS_sign]
  by_cases z : n = 0
  · left; rw [z, Int.zero_mul]
  · right
    have hp : (0 : Int) < (one : Int) := Int.natCast_pos.2 one_pos
    by_cases h : n < 0
    · have := Int.mul_neg_of_neg_of_pos h hp
      simp [h, this]
    · have := Int.mul_nonneg (Int.not_lt.1 h) (Int.le_of_lt hp)
      simp [h]; omega

theorem rdS_neg (c : Int) : rdS (-c) = - rdS c := by
  rcases Int.lt_trichotomy c 0 with h | h | h
  · unfold rdS; rw [if_neg (by omega), if_pos h, Int.natAbs_neg]; omega
  · subst h; rw [show -(0 : Int) = 0 from rfl, rdS_zero]; rfl
  · unfold rdS; rw [if_pos (by omega), if_neg (by omega), Int.natAbs_neg]

theorem rdS_nat (V : Nat) : rdS (V : Int) = (rd single 925 V : Nat) := by
  unfold rdS; rw [if_neg (by omega), Int.natAbs_natCast]

theorem rd_mono {V W : Nat} (h : V ≤ W) : rd single 925 V ≤ rd single 925 W := by
  rcases Nat.eq_zero_or_pos V with z | z
  · subst z; rw [rd_zero]; exact Nat.zero_le _
  have z' : 0 < W := by omega
  obtain ⟨l1, l2, l3⟩ := last_le single 925 V z
  obtain ⟨k1, k2, k3⟩ := last_le single 925 W z'
  unfold rd
  generalize lastOf single 925 V = l at *
  generalize lastOf single 925 W = k at *
  rw [fbS] at l2 l3 k2 k3
  have pl : 0 < 2 ^ l := Nat.two_pow_pos l
  have pk : 0 < 2 ^ k := Nat.two_pow_pos k
  rcases Nat.lt_trichotomy l k with c | c | c
  · -- W reaches a higher binade
    have a : rnq V (2 ^ l) ≤ 2 ^ 24 := by
      have := rnq_mono (M := 2 ^ l) pl (N := V) (N' := 2 ^ 24 * 2 ^ l) (by rw [← Nat.pow_add]; exact Nat.le_of_lt (by rwa [show 24 + l = l + 23 + 1 by omega]))
      rwa [rnq_mul _ _ pl] at this
    have b : 2 ^ 23 ≤ rnq W (2 ^ k) := by
      have e : 2 ^ (k + 23) ≤ W := by rcases k3 with x | x; omega; exact x
      have := rnq_mono (M := 2 ^ k) pk (N := 2 ^ 23 * 2 ^ k) (N' := W) (by rw [← Nat.pow_add, show 23 + k = k + 23 by omega]; exact e)
      rwa [rnq_mul _ _ pk] at this
    calc rnq V (2 ^ l) * 2 ^ l ≤ 2 ^ 24 * 2 ^ l := Nat.mul_le_mul_right _ a
      _ = 2 ^ (24 + l) := by rw [Nat.pow_add]
      _ ≤ 2 ^ (23 + k) := Nat.pow_le_pow_right (by omega) (by omega)
      _ = 2 ^ 23 * 2 ^ k := by rw [Nat.pow_add]
      _ ≤ rnq W (2 ^ k) * 2 ^ k := Nat.mul_le_mul_right _ b
  · subst c
    exact Nat.mul_le_mul_right _ (rnq_mono pl h)
  · exfalso
    rcases l3 with x | x
    · omega
    · have : 2 ^ (l + 23) < 2 ^ (k + 23 + 1) := Nat.lt_of_le_of_lt (Nat.le_trans x h) k2
      have := (Nat.pow_lt_pow_iff_right (by omega : 1 < 2)).1 this
      omega

theorem rdS_mono {a b : Int} (h : a ≤ b) : rdS a ≤ rdS b := by
  have p : ∀ {a b : Int}, 0 ≤ a → a ≤ b → rdS a ≤ rdS b := by
    intro a b h0 h
    obtain ⟨m, rfl⟩ := Int.eq_ofNat_of_zero_le h0
    obtain ⟨n, rfl⟩ := Int.eq_ofNat_of_zero_le (Int.le_trans h0 h)
    rw [rdS_nat, rdS_nat]
    exact Int.ofNat_le.2 (rd_mono (Int.ofNat_le.1 h))
  rcases Int.lt_or_le a 0 with c | c
  · rcases Int.lt_or_le b 0 with d | d
    · have := p (a := -b) (b := -a) (by omega) (by omega)
      rw [rdS_neg, rdS_neg] at this; omega
    · have u := p (a := 0) (b := b) (by omega) d
      have v := p (a := 0) (b := -a) (by omega) (by omega)
      rw [rdS_neg] at v
      rw [rdS_zero] at u v
      omega
  · exact p c h

theorem rdS_exact {c : Int} (t : Int) (j : Nat) (ht : t.natAbs < 16777216) (hj : 925 ≤ j) (h : c = t * ((2 ^ j : Nat) : Int)) : rdS c = c := by
  have key : ∀ t : Nat, t < 16777216 → rdS ((t : Int) * ((2 ^ j : Nat) : Int)) = (t : Int) * ((2 ^ j : Nat) : Int) := by
    intro t ht
    rw [← Int.natCast_mul, rdS_nat, rd_exact single 925 t j (by rw [fbS]; exact ht) hj]
  subst h
  rcases Int.lt_or_le t 0 with c | c
  · obtain ⟨n, hn⟩ := Int.eq_ofNat_of_zero_le (show 0 ≤ -t by omega)
    have e : t * ((2 ^ j : Nat) : Int) = -((n : Int) * ((2 ^ j : Nat) : Int)) := by rw [← hn, Int.neg_mul, Int.neg_neg]
    rw [e, rdS_neg, key n (by omega)]
  · obtain ⟨n, rfl⟩ := Int.eq_ofNat_of_zero_le c
    exact key n (by omega)

/-- The error: at most half of 2 ^ e, below 2 ^ (e + 24). -/
theorem rdS_err {c : Int} {e : Nat} (he : 925 ≤ e) (hc : c.natAbs < 2 ^ (e + 24)) : 2 * (rdS c - c).natAbs ≤ 2 ^ e := by
  have key : ∀ V : Nat, V < 2 ^ (e + 24) → 2 * (rdS (V : Int) - (V : Int)).natAbs ≤ 2 ^ e := by
    intro V hV
    rcases Nat.eq_zero_or_pos V with z | z
    · subst z; rw [show ((0 : Nat) : Int) = 0 from rfl, rdS_zero]; simp
    obtain ⟨l1, l2, l3⟩ := last_le single 925 V z
    rw [rdS_nat]
    unfold rd
    generalize lastOf single 925 V = l at *
    rw [fbS] at l2 l3
    have hl : l ≤ e := by
      rcases l3 with x | x
      · omega
      · have : 2 ^ (l + 23) < 2 ^ (e + 24) := Nat.lt_of_le_of_lt x hV
        have := (Nat.pow_lt_pow_iff_right (by omega : 1 < 2)).1 this
        omega
    have hn := rnq_near (N := V) (M := 2 ^ l) (Nat.two_pow_pos l)
    have a := hn.low
    have b := hn.high
    have m : 2 ^ l ≤ 2 ^ e := Nat.pow_le_pow_right (by omega) hl
    generalize rnq V (2 ^ l) * 2 ^ l = R at *
    omega
  rcases Int.lt_or_le c 0 with d | d
  · obtain ⟨n, hn⟩ := Int.eq_ofNat_of_zero_le (show 0 ≤ -c by omega)
    have := key n (by omega)
    rw [← hn, rdS_neg] at this
    omega
  · obtain ⟨n, rfl⟩ := Int.eq_ofNat_of_zero_le d
    exact key n (by omega)

end Go.Proofs.Ytihjemookgnafaa.Fl

/- Values of literals; the words of Unit and Signed: what Hash's upper bits come to. -/
namespace Go.Proofs.Ytihjemookgnafaa.Fl
open Ieee

theorem vS_lit {x m t k j : Nat} {s : Bool} {p : Int} (h : single.read x = .number s m p) (hm : m = t * 2 ^ k) (hj : k + (p + 1074).toNat = j) : vS x = some ((if s then -1 else 1) * ((t * 2 ^ j : Nat) : Int)) := by
  rw [vS_num h]; unfold vOf; rw [signed_eq, hm, Nat.mul_assoc, ← Nat.pow_add, hj]

theorem one_split {a j : Nat} (h : a + j = 1074) : one = 2 ^ a * 2 ^ j := by
  rw [one_eq, ← Nat.pow_add]; exact congrArg (2 ^ ·) (by omega)
theorem one_pow {j : Nat} (h : j = 1074) : one = 2 ^ j := by rw [one_eq]; exact congrArg (2 ^ ·) (by omega)

theorem vS_one : vS 1065353216 = some (one : Int) := by
  have h : single.read 1065353216 = .number false 8388608 (-23) := by decide
  obtain ⟨j, hj⟩ : ∃ j : Nat, j = 1074 := ⟨_, rfl⟩
  rw [vS_lit (t := 1) (k := 23) (j := j) h (by decide) (by rw [hj]; decide), one_pow hj]; simp
theorem vS_mone : vS 3212836864 = some (-(one : Int)) := by
  have h : single.read 3212836864 = .number true 8388608 (-23) := by decide
  obtain ⟨j, hj⟩ : ∃ j : Nat, j = 1074 := ⟨_, rfl⟩
  rw [vS_lit (t := 1) (k := 23) (j := j) h (by decide) (by rw [hj]; decide), one_pow hj]; simp
theorem vS_two : vS 1073741824 = some (2 * (one : Int)) := by
  have h : single.read 1073741824 = .number false 8388608 (-22) := by decide
  obtain ⟨j, hj⟩ : ∃ j : Nat, j = 1074 := ⟨_, rfl⟩
  rw [vS_lit (t := 1) (k := 23) (j := j + 1) h (by decide) (by rw [hj]; decide), Nat.pow_succ, one_pow hj]; simp; omega
theorem vS_three : vS 1077936128 = some (3 * (one : Int)) := by
  have h : single.read 1077936128 = .number false 12582912 (-22) := by decide
  obtain ⟨j, hj⟩ : ∃ j : Nat, j = 1074 := ⟨_, rfl⟩
  rw [vS_lit (t := 3) (k := 22) (j := j) h (by decide) (by rw [hj]; decide), one_pow hj]; simp
theorem vS_zero : vS 0 = some 0 := by
  have h : single.read 0 = .number false 0 (-149) := by decide
  obtain ⟨j, hj⟩ : ∃ j : Nat, j = 925 := ⟨_, rfl⟩
  rw [vS_lit (t := 0) (k := 0) (j := j) h (by decide) (by rw [hj]; decide)]; simp
theorem vS_eps {j : Nat} (hj : j = 1050) : vS 864026624 = some ((2 ^ j : Nat) : Int) := by
  have h : single.read 864026624 = .number false 8388608 (-47) := by decide
  rw [vS_lit (t := 1) (k := 23) (j := j) h (by decide) (by rw [hj]; decide)]; simp

theorem bd_val {x k : Nat} {a : Int} (h : vS x = some a) (hb : a.natAbs ≤ 2 ^ (1074 + k)) : Bd k x := by
  obtain ⟨s, m, p, e, rfl⟩ := vS_some h
  refine ⟨s, m, p, e, ?_⟩
  unfold vOf at hb
  rw [signed_eq, Int.natAbs_mul, Int.natAbs_natCast] at hb
  cases s <;> simpa using hb
theorem val_bd {x k : Nat} (h : Bd k x) : ∃ a, vS x = some a ∧ a.natAbs ≤ 2 ^ (1074 + k) := by
  obtain ⟨s, m, p, e, hb⟩ := h
  refine ⟨_, vS_num e, ?_⟩
  unfold vOf
  rw [signed_eq, Int.natAbs_mul, Int.natAbs_natCast]
  cases s <;> simpa using hb

theorem bd_val' {x k j : Nat} {a : Int} (h : vS x = some a) (hj : j = 1074 + k) (hb : a.natAbs ≤ 2 ^ j) : Bd k x := by subst hj; exact bd_val h hb
theorem natAbs_lt_pow {a : Int} {B : Nat} {M : Int} (h1 : -M ≤ a) (h2 : a ≤ M) (h : M < ((2 ^ B : Nat) : Int)) : a.natAbs < 2 ^ B := by omega

/-- Unit of h as a word. -/
def unitW (h : Int) : Nat := (Go.floatBits .mul .f32 (Go.floatOfInt .f32 (h / 256)) 864026624).getD 0
/-- Signed of h as a word. -/
def sgnW (h : Int) : Nat := (Go.floatBits .sub .f32 ((Go.floatBits .mul .f32 (unitW h) 1073741824).getD 0) 1065353216).getD 0

theorem int_val {n : Int} (h : n.natAbs < 16777216) : vS (Go.floatOfInt .f32 n) = some (n * (one : Int)) ∧ Bd 24 (Go.floatOfInt .f32 n) := by
  obtain ⟨j, hj⟩ : ∃ j : Nat, j = 1074 := ⟨_, rfl⟩
  have e : 2 ^ (24 + j) = 16777216 * one := by rw [one_pow hj, Nat.pow_add]
  have hn : (n * (one : Int)).natAbs < 2 ^ (24 + j) := by
    rw [Int.natAbs_mul, Int.natAbs_natCast, e]
    exact Nat.mul_lt_mul_of_pos_right h one_pos
  have v := vS_int hn (by omega)
  rw [rdS_exact n j h (by omega) (by rw [one_pow hj])] at v
  exact ⟨v, bd_val' v (by omega) (Nat.le_of_lt hn)⟩

theorem unit_parts {h : Int} (h0 : 0 ≤ h) (h1 : h < 4294967296) :
    ∃ r, Go.floatBits .mul .f32 (Go.floatOfInt .f32 (h / 256)) 864026624 = some r ∧ Same2 .mul 24 (Go.floatOfInt .f32 (h / 256)) 864026624 ∧ r = unitW h := by
  obtain ⟨_, b⟩ := int_val (n := h / 256) (by omega)
  obtain ⟨j, hj⟩ : ∃ j : Nat, j = 1050 := ⟨_, rfl⟩
  have b2 : Bd 0 864026624 := bd_val' (j := 24 + j) (vS_eps hj) (by omega) (by rw [Int.natAbs_natCast]; exact Nat.pow_le_pow_right (by omega) (by omega))
  have S := mul_same (a := 24) (b := 0) (by omega) b b2
  obtain ⟨X, Y, Z, r, _, _, _, _, e, _⟩ := S.ex
  exact ⟨r, e, S, by unfold unitW; rw [e]; rfl⟩

theorem unit_val {h : Int} {j : Nat} (hj : j = 1050) (h0 : 0 ≤ h) (h1 : h < 4294967296) : vS (unitW h) = some (h / 256 * ((2 ^ j : Nat) : Int)) := by
  obtain ⟨r, e, S, rfl⟩ := unit_parts h0 h1
  obtain ⟨v, _⟩ := int_val (n := h / 256) (by omega)
  have hp : (0 : Int) < ((2 ^ j : Nat) : Int) := Int.natCast_pos.2 (Nat.two_pow_pos _)
  have eo : (2 : Nat) ^ (24 + j) = 16777216 * 2 ^ j := by rw [Nat.pow_add]
  have bd : (h / 256 * ((2 ^ j : Nat) : Int)).natAbs < 2 ^ (24 + j) := by
    rw [Int.natAbs_mul, Int.natAbs_natCast, eo]
    exact Nat.mul_lt_mul_of_pos_right (by omega) (Nat.two_pow_pos _)
  have m := vS_mul (c := h / 256 * ((2 ^ j : Nat) : Int)) e v (vS_eps hj) (by rw [Int.mul_assoc, Int.mul_assoc, Int.mul_comm (one : Int)]) bd (by omega)
  rwa [rdS_exact (h / 256) j (by omega) (by omega) rfl] at m

theorem sgn_parts {h : Int} (h0 : 0 ≤ h) (h1 : h < 4294967296) :
    ∃ p r, Go.floatBits .mul .f32 (unitW h) 1073741824 = some p ∧ Same2 .mul 2 (unitW h) 1073741824 ∧ Go.floatBits .sub .f32 p 1065353216 = some r ∧ Same2 .sub 3 p 1065353216 ∧ r = sgnW h := by
  obtain ⟨j, hj⟩ : ∃ j : Nat, j = 1050 := ⟨_, rfl⟩
  have u := unit_val hj h0 h1
  have b1 : Bd 0 (unitW h) := bd_val' (j := 24 + j) u (by omega) (by
    rw [Int.natAbs_mul, Int.natAbs_natCast, Nat.pow_add]
    exact Nat.mul_le_mul_right _ (by omega))
  obtain ⟨J, hJ⟩ : ∃ J : Nat, J = 1074 := ⟨_, rfl⟩
  have b2 : Bd 2 1073741824 := bd_val' (j := 2 + J) vS_two (by omega) (by
    rw [one_pow hJ, Nat.pow_add, Int.natAbs_mul, Int.natAbs_natCast]
    exact Nat.mul_le_mul_right _ (by decide))
  have b3 : Bd 2 1065353216 := bd_val' (j := 2 + J) vS_one (by omega) (by
    rw [one_pow hJ, Int.natAbs_natCast]; exact Nat.pow_le_pow_right (by omega) (by omega))
  have S := mul_same (a := 0) (b := 2) (by omega) b1 b2
  obtain ⟨X, Y, Z, p, _, _, _, _, e, bp⟩ := S.ex
  have T := sub_same (k := 2) (by omega) bp b3
  obtain ⟨X', Y', Z', r, _, _, _, _, e', _⟩ := T.ex
  exact ⟨p, r, e, S, e', T, by unfold sgnW; rw [e]; show r = (Go.floatBits .sub .f32 p 1065353216).getD 0; rw [e']; rfl⟩

theorem sgn_val {h : Int} {j : Nat} (hj : j = 1050) (h0 : 0 ≤ h) (h1 : h < 4294967296) : vS (sgnW h) = some ((2 * (h / 256) - 16777216) * ((2 ^ j : Nat) : Int)) := by
  obtain ⟨p, r, e, _, e', _, rfl⟩ := sgn_parts h0 h1
  have u := unit_val hj h0 h1
  have eo : one = 16777216 * 2 ^ j := by rw [one_split (a := 24) (j := j) (by omega)]
  obtain ⟨k, hk⟩ : ∃ k : Int, k = h / 256 := ⟨_, rfl⟩
  have k0 : 0 ≤ k := by omega
  have k1 : k < 16777216 := by omega
  rw [← hk] at u ⊢
  have ep : (2 : Nat) ^ (26 + j) = 67108864 * 2 ^ j := by rw [Nat.pow_add]
  have pj : 0 < 2 ^ j := Nat.two_pow_pos j
  have eJ : ((2 ^ (j + 1) : Nat) : Int) = 2 * ((2 ^ j : Nat) : Int) := by rw [Nat.pow_succ]; omega
  generalize hU : (2 ^ j : Nat) = U at *
  have hc : k * (U : Int) * (2 * (one : Int)) = 2 * k * (U : Int) * (one : Int) := by
    have G : ∀ a b c : Int, a * b * (2 * c) = 2 * a * b * c := fun a b c => by
      rw [Int.mul_left_comm, Int.mul_assoc 2 a b, Int.mul_assoc 2]
    exact G _ _ _
  have m := vS_mul (c := 2 * k * (U : Int)) e u vS_two hc (B := 26 + j) (by
      rw [ep, Int.natAbs_mul, Int.natAbs_natCast]
      exact Nat.mul_lt_mul_of_pos_right (by omega) pj) (by omega)
  rw [rdS_exact k (j + 1) (by omega) (by omega) (by rw [eJ, ← Int.mul_assoc, Int.mul_comm k 2])] at m
  have s := vS_sub e' m vS_one (B := 26 + j) (by
      rw [ep, eo]
      have a : (0 : Int) ≤ k * U := Int.mul_nonneg k0 (by omega)
      have b : k * U ≤ 16777216 * (U : Int) := Int.mul_le_mul_of_nonneg_right (by omega) (by omega)
      rw [Int.mul_assoc]
      omega) (by omega)
  have E : 2 * k * (U : Int) - ((one : Nat) : Int) = (2 * k - 16777216) * (U : Int) := by
    rw [eo, Int.sub_mul]; simp
  rw [E] at s
  have R : rdS ((2 * k - 16777216) * (U : Int)) = (2 * k - 16777216) * (U : Int) := by
    rcases Int.lt_or_le k 1 with c | c
    · have : k = 0 := by omega
      subst this
      refine rdS_exact (-1) (24 + j) (by decide) (by omega) ?_
      rw [Nat.pow_add, hU]; omega
    · exact rdS_exact (2 * k - 16777216) j (by omega) (by omega) (by rw [hU])
  rwa [R] at s

theorem unit_in {h : Int} (h0 : 0 ≤ h) (h1 : h < 4294967296) : ∃ a, vS (unitW h) = some a ∧ 0 ≤ a ∧ a < (one : Int) := by
  obtain ⟨j, hj⟩ : ∃ j : Nat, j = 1050 := ⟨_, rfl⟩
  have eo : one = 16777216 * 2 ^ j := by rw [one_split (a := 24) (j := j) (by omega)]
  have pj : 0 < 2 ^ j := Nat.two_pow_pos j
  refine ⟨_, unit_val hj h0 h1, Int.mul_nonneg (by omega) (by omega), ?_⟩
  rw [eo, Int.natCast_mul]
  exact Int.mul_lt_mul_of_pos_right (by omega) (Int.natCast_pos.2 pj)
theorem sgn_in {h : Int} (h0 : 0 ≤ h) (h1 : h < 4294967296) : ∃ a, vS (sgnW h) = some a ∧ -(one : Int) ≤ a ∧ a < (one : Int) := by
  obtain ⟨j, hj⟩ : ∃ j : Nat, j = 1050 := ⟨_, rfl⟩
  have eo : one = 16777216 * 2 ^ j := by rw [one_split (a := 24) (j := j) (by omega)]
  have pj : 0 < 2 ^ j := Nat.two_pow_pos j
  refine ⟨_, sgn_val hj h0 h1, ?_, ?_⟩
  · rw [eo, Int.natCast_mul, ← Int.neg_mul]
    exact Int.mul_le_mul_of_nonneg_right (by omega) (by omega)
  · rw [eo, Int.natCast_mul]
    exact Int.mul_lt_mul_of_pos_right (by omega) (Int.natCast_pos.2 pj)

end Go.Proofs.Ytihjemookgnafaa.Fl

/- Ease: t * t * (3 - 2 * t), each step rounded, lies from 0 to 1 where t does. -/
namespace Go.Proofs.Ytihjemookgnafaa.Fl
open Ieee

theorem vS_form {x : Nat} {a : Int} (h : vS x = some a) : ∃ (t : Int) (j : Nat), t.natAbs < 16777216 ∧ 925 ≤ j ∧ a = t * ((2 ^ j : Nat) : Int) := by
  obtain ⟨s, m, p, e, rfl⟩ := vS_some h
  have g := read_single e
  have l := g.low
  have sm := g.small
  refine ⟨(if s then -1 else 1) * (m : Int), (p + 1074).toNat, ?_, by omega, ?_⟩
  · rw [Int.natAbs_mul, Int.natAbs_natCast]; cases s <;> simp <;> omega
  · unfold vOf; rw [signed_eq, Int.natCast_mul, Int.mul_assoc]

theorem rdS_self {x : Nat} {a : Int} (h : vS x = some a) : rdS a = a := by
  obtain ⟨t, j, ht, hj, e⟩ := vS_form h
  exact rdS_exact t j ht hj e
theorem rdS_dbl {x : Nat} {a : Int} (h : vS x = some a) : rdS (2 * a) = 2 * a := by
  obtain ⟨t, j, ht, hj, e⟩ := vS_form h
  refine rdS_exact t (j + 1) ht (by omega) ?_
  rw [e, Nat.pow_succ]; generalize (2 : Nat) ^ j = U; grind

theorem mul_unit {x y : Nat} {a b : Int} (ha : vS x = some a) (hb : vS y = some b) : ∃ c, a * b = c * (one : Int) := by
  obtain ⟨t, i, _, hi, rfl⟩ := vS_form ha
  obtain ⟨u, j, _, hj, rfl⟩ := vS_form hb
  obtain ⟨k, hk⟩ : ∃ k : Nat, i + j = k + 1074 := ⟨i + j - 1074, by omega⟩
  obtain ⟨O, hO⟩ : ∃ O : Nat, O = 1074 := ⟨_, rfl⟩
  refine ⟨t * u * ((2 ^ k : Nat) : Int), ?_⟩
  have e : ((2 ^ i : Nat) : Int) * ((2 ^ j : Nat) : Int) = ((2 ^ k : Nat) : Int) * (one : Int) := by
    rw [one_pow hO, ← Int.natCast_mul, ← Int.natCast_mul, ← Nat.pow_add, ← Nat.pow_add]
    exact congrArg (fun n : Nat => ((2 ^ n : Nat) : Int)) (by omega)
  generalize ((2 ^ i : Nat) : Int) = I at *
  generalize ((2 ^ j : Nat) : Int) = J at *
  generalize ((2 ^ k : Nat) : Int) = K at *
  generalize (one : Int) = N at *
  rw [Int.mul_assoc (t * u), ← e]
  grind

theorem rdS_nonneg {c : Int} (h : 0 ≤ c) : 0 ≤ rdS c := by have := rdS_mono h; rwa [rdS_zero] at this

theorem rdS_tie {j : Nat} (hj : 925 ≤ j) : rdS (((16777217 * 2 ^ j : Nat) : Int)) = ((16777216 * 2 ^ j : Nat) : Int) := by
  rw [rdS_nat]
  congr 1
  have e : (16777217 * 2 ^ j).log2 = 24 + j := by
    rw [log2_mul_pow (by omega)]; rw [show Nat.log2 16777217 = 24 by decide]
  have l : lastOf single 925 (16777217 * 2 ^ j) = j + 1 := by
    unfold lastOf; rw [e, fbS]; omega
  unfold rd
  rw [l]
  have pj : 0 < 2 ^ j := Nat.two_pow_pos j
  have q : rnq (16777217 * 2 ^ j) (2 ^ (j + 1)) = 8388608 := by
    refine rnq_eq (Nat.two_pow_pos _) ?_
    rw [Nat.pow_succ]
    generalize 2 ^ j = U at *
    exact ⟨by omega, by omega, by omega, by omega⟩
  rw [q, Nat.pow_succ]; omega

/-- Ease as words. -/
def easeW (t : Nat) : Nat := (Go.floatBits .mul .f32 ((Go.floatBits .mul .f32 t t).getD 0) ((Go.floatBits .sub .f32 1077936128 ((Go.floatBits .mul .f32 1073741824 t).getD 0)).getD 0)).getD 0

theorem bd_two : Bd 2 1073741824 := by
  obtain ⟨J, hJ⟩ : ∃ J : Nat, J = 1074 := ⟨_, rfl⟩
  exact bd_val' (j := 2 + J) vS_two (by omega) (by
    rw [one_pow hJ, Nat.pow_add, Int.natAbs_mul, Int.natAbs_natCast]
    exact Nat.mul_le_mul_right _ (by decide))
theorem bd_three : Bd 2 1077936128 := by
  obtain ⟨J, hJ⟩ : ∃ J : Nat, J = 1074 := ⟨_, rfl⟩
  exact bd_val' (j := 2 + J) vS_three (by omega) (by
    rw [one_pow hJ, Nat.pow_add, Int.natAbs_mul, Int.natAbs_natCast]
    exact Nat.mul_le_mul_right _ (by decide))
theorem bd_unit {t : Nat} {a : Int} (h : vS t = some a) (a0 : -(one : Int) ≤ a) (a1 : a ≤ (one : Int)) : Bd 0 t := by
  obtain ⟨J, hJ⟩ : ∃ J : Nat, J = 1074 := ⟨_, rfl⟩
  exact bd_val' (j := J) h (by omega) (by rw [one_pow hJ] at a1 a0; omega)

structure EaseAt (t p q r v : Nat) : Prop where
  p1 : Go.floatBits .mul .f32 t t = some p
  p2 : Same2 .mul 0 t t
  q1 : Go.floatBits .mul .f32 1073741824 t = some q
  q2 : Same2 .mul 2 1073741824 t
  r1 : Go.floatBits .sub .f32 1077936128 q = some r
  r2 : Same2 .sub 3 1077936128 q
  v1 : Go.floatBits .mul .f32 p r = some v
  v2 : Same2 .mul 3 p r
  w : easeW t = v

theorem ease_parts {t : Nat} (b : Bd 0 t) : ∃ p q r v, EaseAt t p q r v := by
  have p2 := mul_same (a := 0) (b := 0) (by omega) b b
  obtain ⟨_, _, _, p, _, _, _, _, p1, bp⟩ := p2.ex
  have q2 := mul_same (a := 2) (b := 0) (by omega) bd_two b
  obtain ⟨_, _, _, q, _, _, _, _, q1, bq⟩ := q2.ex
  have r2 := sub_same (k := 2) (by omega) bd_three bq
  obtain ⟨_, _, _, r, _, _, _, _, r1, br⟩ := r2.ex
  have v2 := mul_same (a := 0) (b := 3) (by omega) bp br
  obtain ⟨_, _, _, v, _, _, _, _, v1, bv⟩ := v2.ex
  refine ⟨p, q, r, v, p1, p2, q1, q2, r1, r2, v1, v2, ?_⟩
  unfold easeW
  rw [p1, q1]
  show (Go.floatBits .mul .f32 p ((Go.floatBits .sub .f32 1077936128 q).getD 0)).getD 0 = v
  rw [r1]
  show (Go.floatBits .mul .f32 p r).getD 0 = v
  rw [v1]; rfl

theorem one_lt {B : Nat} (h : 1074 < B) : one < 2 ^ B := by
  obtain ⟨J, hJ⟩ : ∃ J : Nat, J = 1074 := ⟨_, rfl⟩
  rw [one_pow hJ]; exact Nat.pow_lt_pow_right (by omega) (by omega)
theorem small_of {c : Int} {n B : Nat} (h0 : 0 ≤ c) (h1 : c ≤ (2 ^ n : Nat) * (one : Int)) (hB : 1074 + n < B) : c.natAbs < 2 ^ B := by
  have : one < 2 ^ (B - n) := one_lt (by omega)
  have e : 2 ^ B = 2 ^ n * 2 ^ (B - n) := by rw [← Nat.pow_add]; exact congrArg (2 ^ ·) (by omega)
  have := Nat.mul_lt_mul_of_pos_left this (Nat.two_pow_pos n)
  rw [e]
  have h2 : c ≤ ((2 ^ n * one : Nat) : Int) := by rw [Int.natCast_mul]; exact h1
  omega

theorem ease_in {t : Nat} {a : Int} (h : vS t = some a) (a0 : 0 ≤ a) (a1 : a ≤ (one : Int)) : ∃ c, vS (easeW t) = some c ∧ 0 ≤ c ∧ c ≤ (one : Int) := by
  obtain ⟨p, q, r, v, E⟩ := ease_parts (bd_unit h (by omega) a1)
  rw [E.w]
  obtain ⟨P, hP⟩ := mul_unit h h
  have hone : (0 : Int) < (one : Int) := Int.natCast_pos.2 one_pos
  have P0 : 0 ≤ P := by
    have := Int.mul_nonneg a0 a0
    rw [hP] at this
    exact Int.le_of_mul_le_mul_right (by rw [Int.zero_mul]; exact this) hone
  have P1 : P ≤ (one : Int) := by
    have := Int.mul_le_mul a1 a1 a0 (Int.le_of_lt hone)
    rw [hP] at this
    exact Int.le_of_mul_le_mul_right this hone
  obtain ⟨B, hB⟩ : ∃ B : Nat, B = 1100 := ⟨_, rfl⟩
  have vp := vS_mul (B := B) E.p1 h h hP (small_of (n := 0) P0 (by rw [Nat.pow_zero]; omega) (by omega)) (by omega)
  have vq := vS_mul (B := B) (c := 2 * a) E.q1 vS_two h (by grind) (small_of (n := 2) (by omega) (by show _ ≤ (4 : Int) * _; omega) (by omega)) (by omega)
  rw [rdS_dbl h] at vq
  have vr := vS_sub (B := B) E.r1 vS_three vq (small_of (n := 2) (by omega) (by show _ ≤ (4 : Int) * _; omega) (by omega)) (by omega)
  have pp0 := rdS_nonneg P0
  have r0 : 0 ≤ rdS (3 * (one : Int) - 2 * a) := rdS_nonneg (by omega)
  obtain ⟨c, hc⟩ := mul_unit vp vr
  have c0 : 0 ≤ c := by
    have := Int.mul_nonneg pp0 r0
    rw [hc] at this
    exact Int.le_of_mul_le_mul_right (by rw [Int.zero_mul]; exact this) hone
  obtain ⟨O, hO⟩ : ∃ O : Nat, O = 1072 := ⟨_, rfl⟩
  -- the bound of the last product
  have key : c ≤ 4 * (one : Int) ∧ rdS c ≤ (one : Int) := by
    rcases Int.le_total (2 * a) (one : Int) with d | d
    · have eV : (one : Int) = 4 * ((2 ^ O : Nat) : Int) := by rw [one_split (a := 2) (j := O) (by omega), Int.natCast_mul]; rfl
      generalize hV : ((2 ^ O : Nat) : Int) = V at *
      have PV : P ≤ V := by
        have h4 : (2 * a) * (2 * a) ≤ (one : Int) * (one : Int) := Int.mul_le_mul d d (by omega) (Int.le_of_lt hone)
        refine Int.le_of_mul_le_mul_right (a := (one : Int)) ?_ hone
        have e1 : (2 * a) * (2 * a) = 4 * (P * (one : Int)) := by rw [← hP]; grind
        have e2 : (one : Int) * (one : Int) = 4 * (V * (one : Int)) := by rw [← Int.mul_assoc, ← eV]
        omega
      have p1 : rdS P ≤ V := by
        have := rdS_mono PV
        rwa [rdS_exact (c := V) 1 O (by decide) (by omega) (by rw [hV, Int.one_mul])] at this
      have r1 : rdS (3 * (one : Int) - 2 * a) ≤ 3 * (one : Int) := by
        have := rdS_mono (show 3 * (one : Int) - 2 * a ≤ 3 * (one : Int) by omega)
        rwa [rdS_self vS_three] at this
      have hm := Int.mul_le_mul p1 r1 r0 (by omega)
      rw [hc] at hm
      have c1 : c ≤ 3 * V := Int.le_of_mul_le_mul_right (by rw [show 3 * V * (one : Int) = V * (3 * (one : Int)) by grind]; exact hm) hone
      refine ⟨by omega, ?_⟩
      have := rdS_mono (show c ≤ (one : Int) by omega)
      rwa [rdS_self vS_one] at this
    · obtain ⟨m, i, hm, hi, ha⟩ := vS_form h
      obtain ⟨j, hj⟩ : ∃ j : Nat, j = 1050 := ⟨_, rfl⟩
      have eU : (one : Int) = 16777216 * ((2 ^ j : Nat) : Int) := by rw [one_split (a := 24) (j := j) (by omega), Int.natCast_mul]; rfl
      have pj : (0 : Int) < ((2 ^ j : Nat) : Int) := Int.natCast_pos.2 (Nat.two_pow_pos _)
      have hij : j ≤ i := by
        rcases Nat.lt_or_ge i j with c' | c'
        · exfalso
          have e : ((2 ^ j : Nat) : Int) = ((2 ^ i : Nat) : Int) * ((2 ^ (j - i) : Nat) : Int) := by rw [← Int.natCast_mul, ← Nat.pow_add]; exact congrArg (fun n : Nat => ((2 ^ n : Nat) : Int)) (by omega)
          have two : (2 : Int) ≤ ((2 ^ (j - i) : Nat) : Int) := by
            have : 2 ^ 1 ≤ 2 ^ (j - i) := Nat.pow_le_pow_right (by omega) (by omega)
            omega
          have pi : (0 : Int) < ((2 ^ i : Nat) : Int) := Int.natCast_pos.2 (Nat.two_pow_pos _)
          have : 2 * ((2 ^ i : Nat) : Int) ≤ ((2 ^ j : Nat) : Int) := by rw [e, Int.mul_comm]; exact Int.mul_le_mul_of_nonneg_left two (Int.le_of_lt pi)
          have ml : m ≤ 16777215 := by omega
          have : m * ((2 ^ i : Nat) : Int) ≤ 16777215 * ((2 ^ i : Nat) : Int) := Int.mul_le_mul_of_nonneg_right ml (Int.le_of_lt pi)
          omega
        · exact c'
      obtain ⟨k, hk⟩ : ∃ k : Int, a = k * ((2 ^ j : Nat) : Int) := ⟨m * ((2 ^ (i - j) : Nat) : Int), by
        rw [ha, Int.mul_assoc, ← Int.natCast_mul, ← Nat.pow_add]; exact congrArg (fun n : Nat => m * ((2 ^ n : Nat) : Int)) (by omega)⟩
      have vtie := rdS_tie (j := j) (by omega)
      rw [Int.natCast_mul, Int.natCast_mul] at vtie
      have verr := fun (hlt : P.natAbs < 2 ^ (j + 24)) => rdS_err (c := P) (e := j) (by omega) hlt
      have hlt : P ≠ (one : Int) → P.natAbs < 2 ^ (j + 24) := by
        intro ne
        have : 2 ^ (j + 24) = one := by rw [one_split (a := 24) (j := j) (by omega), Nat.pow_add, Nat.mul_comm]
        rw [this]; omega
      have hr : rdS (3 * (one : Int) - 2 * a) = (50331648 - 2 * k) * ((2 ^ j : Nat) : Int) := by
        have k1 : 8388608 ≤ k := by
          refine Int.le_of_mul_le_mul_right (a := ((2 ^ j : Nat) : Int)) ?_ pj
          rw [← hk]; omega
        have k2 : k ≤ 16777216 := by
          refine Int.le_of_mul_le_mul_right (a := ((2 ^ j : Nat) : Int)) ?_ pj
          rw [← hk]; omega
        have e : 3 * (one : Int) - 2 * a = (50331648 - 2 * k) * ((2 ^ j : Nat) : Int) := by rw [eU, hk]; grind
        rw [e]
        rcases Int.lt_or_le 8388608 k with c' | c'
        · refine rdS_exact (25165824 - k) (j + 1) (by omega) (by omega) ?_
          rw [Nat.pow_succ, Int.natCast_mul]; grind
        · have : k = 8388608 := by omega
          subst this
          refine rdS_exact 1 (j + 25) (by decide) (by omega) ?_
          rw [Nat.pow_add, Int.natCast_mul, Int.one_mul, Int.mul_comm]; rfl
      rw [hr] at hc
      have k1 : 8388608 ≤ k := by
        refine Int.le_of_mul_le_mul_right (a := ((2 ^ j : Nat) : Int)) ?_ pj
        rw [← hk]; omega
      have k2 : k ≤ 16777216 := by
        refine Int.le_of_mul_le_mul_right (a := ((2 ^ j : Nat) : Int)) ?_ pj
        rw [← hk]; omega
      generalize hU : ((2 ^ j : Nat) : Int) = U at *
      have pb : 2 * rdS P ≤ 2 * P + U := by
        by_cases ne : P = (one : Int)
        · rw [ne, rdS_self vS_one]; omega
        · have := verr (hlt ne); omega
      generalize rdS P = R at *
      have b1 : c ≤ 16777217 * U := by
        have cc : (2 * R) * ((50331648 - 2 * k) * U) ≤ (2 * P + U) * ((50331648 - 2 * k) * U) := Int.mul_le_mul_of_nonneg_right pb (Int.mul_nonneg (by omega) (by omega))
        have e1 : (2 * R) * ((50331648 - 2 * k) * U) = 2 * (c * (16777216 * U)) := by rw [← eU, ← hc]; grind
        -- P in units of U
        have e2 : P * 16777216 = k * k * U := by
          refine Int.eq_of_mul_eq_mul_right (Int.ne_of_gt pj) ?_
          rw [Int.mul_assoc P, ← eU, ← hP, hk]; grind
        have id : k * k * (50331648 - 2 * k) = 16777216 * 16777216 * 16777216 - (16777216 - k) * (16777216 - k) * (16777216 + 2 * k) := by grind
        have nn : 0 ≤ (16777216 - k) * (16777216 - k) * (16777216 + 2 * k) := Int.mul_nonneg (Int.mul_nonneg (by omega) (by omega)) (by omega)
        have f1 : k * k * (50331648 - 2 * k) * U ≤ 16777216 * 16777216 * 16777216 * U := Int.mul_le_mul_of_nonneg_right (by omega) (by omega)
        have f2 : (50331648 - 2 * k) * U ≤ 33554432 * U := Int.mul_le_mul_of_nonneg_right (by omega) (by omega)
        have e3 : (2 * P + U) * ((50331648 - 2 * k) * U) * 16777216 = (2 * (k * k * (50331648 - 2 * k) * U) + 16777216 * ((50331648 - 2 * k) * U)) * U := by
          have : (2 * P + U) * ((50331648 - 2 * k) * U) * 16777216 = (2 * (P * 16777216) + 16777216 * U) * ((50331648 - 2 * k) * U) := by grind
          rw [this, e2]; grind
        have e4 : 2 * (c * (16777216 * U)) * 16777216 = (2 * 16777216 * 16777216 * c) * U := by grind
        have g : (2 * 16777216 * 16777216 * c) * U ≤ (2 * (k * k * (50331648 - 2 * k) * U) + 16777216 * ((50331648 - 2 * k) * U)) * U := by
          rw [← e3, ← e4]
          exact Int.mul_le_mul_of_nonneg_right (by rw [← e1]; exact cc) (by omega)
        have g' := Int.le_of_mul_le_mul_right g pj
        omega
      refine ⟨by omega, ?_⟩
      have := rdS_mono b1
      have e5 : ((16777217 : Nat) : Int) * U = 16777217 * U := rfl
      have e6 : ((16777216 : Nat) : Int) * U = 16777216 * U := rfl
      rw [e5, e6] at vtie
      omega
  have vv := vS_mul (B := B) E.v1 vp vr hc (small_of (n := 2) c0 (by show _ ≤ (4 : Int) * _; exact key.1) (by omega)) (by omega)
  exact ⟨_, vv, rdS_nonneg c0, key.2⟩

end Go.Proofs.Ytihjemookgnafaa.Fl

/- Sums, products and quotients of singles as words. -/
namespace Go.Proofs.Ytihjemookgnafaa
open Go.RowKit Fl
set_option linter.unusedVariables false

/-- What an operation on singles answers stays below 2 ^ 32. -/
theorem opt_lt {d : Option Ieee.Datum} {r : Nat} (h : d.map Ieee.single.write = some r) : r < 4294967296 := by
  cases d with
  | none => cases h
  | some d => cases h; exact Ieee.Format.write_lt Ieee.single d

/-- The lesser, the greater, as words: the first one where they are equal. -/
def lesW (x y : Nat) : Nat := if (FloatKind.f32.format.order y x == some .lt) = true then y else x
def grtW (x y : Nat) : Nat := if (FloatKind.f32.format.order y x == some .gt) = true then y else x

def quoW (a b : Nat) : Nat := (floatBits .quo .f32 a b).getD 0
def subW (a b : Nat) : Nat := (floatBits .sub .f32 a b).getD 0
def addW (a b : Nat) : Nat := (floatBits .add .f32 a b).getD 0
def mulW (a b : Nat) : Nat := (floatBits .mul .f32 a b).getD 0
def ltB (a b : Nat) : Bool := FloatKind.f32.format.order a b == some .lt

theorem same_ex {op : BinOp} {k x y : Nat} (h : Same2 op k x y) : ∃ r, floatBits op .f32 x y = some r ∧ Bd k r := by
  obtain ⟨_, _, _, r, _, _, _, _, e, b⟩ := h.ex
  exact ⟨r, e, b⟩
theorem sub_lt {x y r : Nat} (h : floatBits .sub .f32 x y = some r) : r < 4294967296 := opt_lt (d := (Ieee.single.read x).sum (Ieee.single.read y).opposite) h
theorem mul_lt {x y r : Nat} (h : floatBits .mul .f32 x y = some r) : r < 4294967296 := opt_lt (d := (Ieee.single.read x).product (Ieee.single.read y)) h
theorem add_lt {x y r : Nat} (h : floatBits .add .f32 x y = some r) : r < 4294967296 := opt_lt (d := (Ieee.single.read x).sum (Ieee.single.read y)) h

end Go.Proofs.Ytihjemookgnafaa

/- Contracts: the reference's add, sub, mul; scaled, clamped; lesser, greater; At; Check of a right field. -/
namespace Go.Proofs.Ytihjemookgnafaa
open Go.RowKit Fl
set_option linter.unusedVariables false

theorem ret_fl {k : FloatKind} {a b : Nat} (h : a = b) : Ending.returned (.float k a) = .returned (.float k b) := by rw [h]

set_option maxHeartbeats 400000 in
theorem refAdd_any (k x y r : Nat) (h : Same2 .add k x y) (hr : floatBits .add .f32 x y = some r) (w : World) :
    Calls Try.prog 131 #[.float .f32 x, .float .f32 y] w fun e w' => e = .returned (.float .f32 r) ∧ w = w' := by
  obtain ⟨X, Y, Z, r', h1, h2, h3, h4, h5, _⟩ := h.ex
  rw [hr] at h5
  have h5 := Option.some.inj h5
  subst h5
  have c1 := fun (W : World) => run_convert_float_float (P := Try.prog) W 37 95 .f32 .f64 x X (by kernel_rfl) Try.underlying95 h1
  have c2 := fun (W : World) => run_convert_float_float (P := Try.prog) W 37 95 .f32 .f64 y Y (by kernel_rfl) Try.underlying95 h2
  have c3 := fun (W : World) => run_float_arith (P := Try.prog) W .add 95 .f64 X Y Z h3
  have c4 := fun (W : World) => run_convert_float_float (P := Try.prog) W 95 37 .f64 .f32 Z r (by kernel_rfl) Try.underlying37 h4
  clear h1 h2 h3 h4 hr h
  go_enter Try.func131, Try.ntmps131
  go_wp2
  go_ret
  exact ⟨rfl, rfl⟩

set_option maxHeartbeats 400000 in
theorem refSub_any (k x y r : Nat) (h : Same2 .sub k x y) (hr : floatBits .sub .f32 x y = some r) (w : World) :
    Calls Try.prog 117 #[.float .f32 x, .float .f32 y] w fun e w' => e = .returned (.float .f32 r) ∧ w = w' := by
  obtain ⟨X, Y, Z, r', h1, h2, h3, h4, h5, _⟩ := h.ex
  rw [hr] at h5
  have h5 := Option.some.inj h5
  subst h5
  have c1 := fun (W : World) => run_convert_float_float (P := Try.prog) W 37 95 .f32 .f64 x X (by kernel_rfl) Try.underlying95 h1
  have c2 := fun (W : World) => run_convert_float_float (P := Try.prog) W 37 95 .f32 .f64 y Y (by kernel_rfl) Try.underlying95 h2
  have c3 := fun (W : World) => run_float_arith (P := Try.prog) W .sub 95 .f64 X Y Z h3
  have c4 := fun (W : World) => run_convert_float_float (P := Try.prog) W 95 37 .f64 .f32 Z r (by kernel_rfl) Try.underlying37 h4
  clear h1 h2 h3 h4 hr h
  go_enter Try.func117, Try.ntmps117
  go_wp2
  go_ret
  exact ⟨rfl, rfl⟩

set_option maxHeartbeats 400000 in
theorem refMul_any (k x y r : Nat) (h : Same2 .mul k x y) (hr : floatBits .mul .f32 x y = some r) (w : World) :
    Calls Try.prog 125 #[.float .f32 x, .float .f32 y] w fun e w' => e = .returned (.float .f32 r) ∧ w = w' := by
  obtain ⟨X, Y, Z, r', h1, h2, h3, h4, h5, _⟩ := h.ex
  rw [hr] at h5
  have h5 := Option.some.inj h5
  subst h5
  have c1 := fun (W : World) => run_convert_float_float (P := Try.prog) W 37 95 .f32 .f64 x X (by kernel_rfl) Try.underlying95 h1
  have c2 := fun (W : World) => run_convert_float_float (P := Try.prog) W 37 95 .f32 .f64 y Y (by kernel_rfl) Try.underlying95 h2
  have c3 := fun (W : World) => run_float_arith (P := Try.prog) W .mul 95 .f64 X Y Z h3
  have c4 := fun (W : World) => run_convert_float_float (P := Try.prog) W 95 37 .f64 .f32 Z r (by kernel_rfl) Try.underlying37 h4
  clear h1 h2 h3 h4 hr h
  go_enter Try.func125, Try.ntmps125
  go_wp2
  go_ret
  exact ⟨rfl, rfl⟩

/-- Clamped, as the reference does it. -/
def clpW (v a b : Nat) : Nat := if (FloatKind.f32.format.order v a == some .lt) = true then a else if (FloatKind.f32.format.order v b == some .gt) = true then b else v

set_option maxHeartbeats 400000 in
theorem lesser_any (x y : Nat) (w : World) :
    Calls Try.prog 100 #[.float .f32 x, .float .f32 y] w fun e w' => e = .returned (.float .f32 (lesW x y)) ∧ w = w' := by
  unfold lesW
  go_enter Try.func100, Try.ntmps100
  go_wp2
  all_goals go_ret
  all_goals refine ⟨ret_fl ?_, rfl⟩
  all_goals simp_all

set_option maxHeartbeats 400000 in
theorem greater_any (x y : Nat) (w : World) :
    Calls Try.prog 101 #[.float .f32 x, .float .f32 y] w fun e w' => e = .returned (.float .f32 (grtW x y)) ∧ w = w' := by
  unfold grtW
  go_enter Try.func101, Try.ntmps101
  go_wp2
  all_goals go_ret
  all_goals refine ⟨ret_fl ?_, rfl⟩
  all_goals simp_all

set_option maxHeartbeats 400000 in
theorem clamped_any (v a b : Nat) (w : World) :
    Calls Try.prog 103 #[.float .f32 v, .float .f32 a, .float .f32 b] w fun e w' => e = .returned (.float .f32 (clpW v a b)) ∧ w = w' := by
  unfold clpW
  go_enter Try.func103, Try.ntmps103
  go_wp2
  all_goals go_ret
  all_goals refine ⟨ret_fl ?_, rfl⟩
  all_goals simp_all

theorem clp_eq {v a b : Nat} (hv : finB v = true) (ha : finB a = true) (hb : finB b = true) (hab : (FloatKind.f32.format.order a b == some .gt) = false) : lesW (grtW v a) b = clpW v a b := by
  rw [show FloatKind.f32.format = Ieee.single from rfl] at hab
  unfold finB at hv ha hb
  obtain ⟨i, hi⟩ := Option.isSome_iff_exists.1 hv
  obtain ⟨j, hj⟩ := Option.isSome_iff_exists.1 ha
  obtain ⟨k, hk⟩ := Option.isSome_iff_exists.1 hb
  rw [gtr_val hj hk] at hab
  unfold lesW grtW clpW
  rw [show FloatKind.f32.format = Ieee.single from rfl, gtr_val hj hi, lss_val hi hj, gtr_val hi hk]
  simp only [decide_eq_true_eq, decide_eq_false_iff_not] at *
  by_cases c : i < j
  · rw [if_pos c, if_pos c, lss_val hk hj]; simp only [decide_eq_true_eq]; rw [if_neg (by omega)]
  · rw [if_neg c, if_neg c, lss_val hk hi]; simp only [decide_eq_true_eq]

set_option maxHeartbeats 1000000 in
theorem refAt_any (X Y : Int) (W H n b cap i : Nat) (v : Nat → Nat) (x y : Int) (w : World) (hX1 : -16777216 ≤ X) (hX2 : X ≤ 16777216) (hY1 : -16777216 ≤ Y) (hY2 : Y ≤ 16777216) (hW1 : 1 ≤ W) (hW2 : W ≤ 512) (hH2 : H ≤ 512)
    (h1 : X ≤ x) (h2 : x < X + W) (h3 : Y ≤ y) (h4 : y < Y + H) (hi : (i : Int) = (y - Y) * W + (x - X)) (hn : i < n) (hn2 : n ≤ 65536) (hc : FlAt w b 0 n v) :
    Calls Try.prog 90 #[fldV X Y W H (.slice (some ⟨b, 0, none⟩) n cap), .int .i64 x, .int .i64 y] w fun e w' => e = .returned (.float .f32 (v i)) ∧ w.alloc (fldO X Y W H (.slice (some ⟨b, 0, none⟩) n cap)) = w' := by
  have hq : 0 ≤ (y - Y) * W := Int.mul_nonneg (by omega) (by omega)
  have e1 : wrap64 (y - Y) = y - Y := IntWalk.wrap64_in _ ⟨by omega, by omega⟩
  have e2 : wrap64 ((y - Y) * W) = (y - Y) * W := IntWalk.wrap64_in _ ⟨by omega, by omega⟩
  have e3 : wrap64 ((y - Y) * W + x) = (y - Y) * W + x := IntWalk.wrap64_in _ ⟨by omega, by omega⟩
  have e4 : wrap64 ((y - Y) * W + x - X) = (i : Int) := by rw [IntWalk.wrap64_in _ ⟨by omega, by omega⟩]; omega
  have hcell := hc i hn
  rw [Nat.zero_add] at hcell
  have hlt : b < w.heap.size := World.block_lt_of_cell? w _ hcell
  clear hi hq hc
  go_enter Try.func90, Try.ntmps90
  go_wp2
  go_ret
  exact ⟨rfl, rfl⟩

set_option maxHeartbeats 1000000 in
theorem check_ok (X Y : Int) (W H n b cap : Nat) (v : Nat → Nat) (w : World) (h0 : checkR X Y W H = 0) (hn : n = W * H) (hc : FlAt w b 0 n v) (hh : allB n (fun i => hgtB (v i)) = true) :
    Calls Try.prog 82 #[fldV X Y W H (.slice (some ⟨b, 0, none⟩) n cap)] w fun e w' => e = .returned (.int .i64 0) ∧ Below w.heap.size w w' := by
  have HH := Lib.hid (fldE_zero.2 hh)
  obtain ⟨b1, b2, b3, b4, b5, _⟩ := checkR_zero h0
  have en : wrap64 ((W : Int) * (H : Int)) = (n : Int) := by
    have : ((W : Int) * (H : Int)) = (n : Int) := by rw [hn]; simp
    rw [this]; rw [this] at b5; exact IntWalk.wrap64_in _ ⟨by omega, by omega⟩
  have hn2 : n ≤ 65536 := by
    have : ((W : Int) * (H : Int)) = (n : Int) := by rw [hn]; simp
    omega
  have h1 : 1 ≤ n := by
    have := Nat.mul_pos (by omega : 0 < W) (by omega : 0 < H)
    omega
  have hlt : b < w.heap.size := World.block_lt_of_cell? w _ (hc 0 h1)
  have CH := Lib.hid (fun W' (hb : Below w.heap.size w W') => CheckHeights_row b 0 cap n v (by omega) W' (flAt_congr hc (hb.block _ hlt)))
  rw [HH.out] at CH
  have RC := Lib.hid (fun w => checkRegion_any X Y W H w)
  rw [h0] at RC
  clear hn hc hh h0 b5
  go_enter Try.func82, Try.ntmps82
  go_wp2_with (first | (go_at_call 15; refine (RC.out _).mono ?_; rintro e w' ⟨rfl, rfl⟩) | (go_at_call 75; refine (CH.out _ (by repeat (first | exact Below.refl _ _ | refine Below.alloc ?_ (by first | omega | (simp; done) | (simp; omega)) _ | refine Below.setCell ?_ (by first | omega | (simp; done) | (simp; omega)) _ | refine Below.drew ?_))).mono ?_; rintro e w' ⟨rfl, rfl⟩))
  go_ret
  exact ⟨rfl, (by repeat (first | exact Below.refl _ _ | refine Below.alloc ?_ (by first | omega | (simp; done) | (simp; omega)) _ | refine Below.setCell ?_ (by first | omega | (simp; done) | (simp; omega)) _ | refine Below.drew ?_))⟩

end Go.Proofs.Ytihjemookgnafaa

/- What many laws want: two singles as a list, what a function that makes a field answers, the number of a cell. -/
namespace Go.Proofs.Ytihjemookgnafaa
open Go.RowKit Fl
set_option linter.unusedVariables false

theorem heap_alloc_new (w : World) (o : Obj) : (w.alloc o).heap[w.heap.size]? = some o := by rw [heap_alloc_get, if_pos rfl]

/-- A single in a block of its own. -/
abbrev flObj (x : Nat) : Obj := .cells #[.float .f32 x] 37

theorem below_drewN (w : World) (k : Nat) : Below w.heap.size w (w.drewN k) := by
  induction k with
  | zero => exact Below.refl _ _
  | succ k ih => exact ih.drew

/-- Two singles, as a list. -/
def two (m c : Nat) (i : Nat) : Nat := if i = 0 then m else c
theorem flAt_two {w : World} {b m c : Nat} (h : w.heap[b]? = some (.cells #[.float .f32 m, .float .f32 c] 37)) : FlAt w b 0 2 (two m c) := by
  intro i hi
  rw [Nat.zero_add, (blkC h).1 i]
  have : i = 0 ∨ i = 1 := by omega
  rcases this with rfl | rfl <;> rfl
theorem two_hgt {m c : Nat} (h : fldE 2 (two m c) = 0) : hgtB m = true ∧ hgtB c = true := by
  have := allB_iff.1 (fldE_zero.1 h)
  exact ⟨this 0 (by omega), this 1 (by omega)⟩

/-- What Scale and Clamp answer: the error of their singles, another error, or a field that is made. -/
def ScPost (w : World) (X Y W H : Int) (n : Nat) (f : Nat → Nat) (er : Int) (e : Ending) (w' : World) : Prop :=
  (er ≠ 0 ∧ e = .returned (.tuple #[fldV 0 0 0 0 (.slice none 0 0), .int .i64 er]) ∧ Below w.heap.size w w') ∨ (er = 0 ∧ MadePost w X Y W H n f e w')

theorem num_lt {X Y x y : Int} {W H n i : Nat} (hW1 : 1 ≤ W) (h1 : X ≤ x) (h2 : x < X + W) (h4 : y < Y + H) (h5 : (i : Int) = (y - Y) * W + (x - X)) (hnn : n = H * W) : i < n := by
  have a : (y - Y) * W ≤ ((H : Int) - 1) * W := Int.mul_le_mul_of_nonneg_right (by omega) (by omega)
  have b : ((H : Int) - 1) * W = (n : Int) - W := by rw [hnn, Int.sub_mul]; simp
  omega

theorem f32f : FloatKind.f32.format = Ieee.single := rfl
theorem one_vTop : (one : Int) ≤ vTop := by
  obtain ⟨J, hJ⟩ : ∃ J : Nat, J = 1074 := ⟨_, rfl⟩
  rw [one_pow hJ]; unfold vTop
  rw [Nat.one_mul]
  exact Int.ofNat_le.2 (Nat.pow_le_pow_right (by omega) (by omega))

end Go.Proofs.Ytihjemookgnafaa

/- Contracts: Same$1, EqualFunc, Same, same. -/
namespace Go.Proofs.Ytihjemookgnafaa
open Go.RowKit Fl
set_option linter.unusedVariables false

theorem enters_Same1 : Enters 87 := by intro args W; simp [callFunc, Try.func87, Try.f87]

set_option maxHeartbeats 400000 in
theorem same1_self (x : Nat) (w : World) :
    Calls Try.prog 87 #[.float .f32 x, .float .f32 x] w fun e w' => e = .returned (.bool true) ∧ w = w' := by
  have h1 := f32bits
  go_enter Try.func87, Try.ntmps87
  go_wp2
  go_ret
  exact ⟨rfl, rfl⟩

set_option maxHeartbeats 1000000 in
theorem equalFunc_row (b b' cap cap' n : Nat) (v : Nat → Nat) (hl : n ≤ 9223372036854775807) (w : World) (hc : FlAt w b 0 n v) (hc' : FlAt w b' 0 n v) :
    Calls Try.prog 86 #[.slice (some ⟨b, 0, none⟩) n cap, .slice (some ⟨b', 0, none⟩) n cap', .func (.func 87) #[] #[]] w fun e w' => e = .returned (.bool true) ∧ w = w' := by
  have hcall := enters_Same1
  unfold Enters at hcall
  go_enter Try.func86, Try.ntmps86
  go_wp2
  go_loop [17] (fun i => ∃ k : Nat, k ≤ n ∧ i = .int .i64 k) (fun i => n - (intOf i).toNat)
  case atStart => exact ⟨0, Nat.zero_le _, rfl⟩
  case round =>
    obtain ⟨k, hk, rfl⟩ := hrel
    by_cases hlt : k < n
    · have hcell := hc k hlt
      have hcell' := hc' k hlt
      rw [Nat.zero_add] at hcell hcell'
      have IH := Lib.hid (fun w => same1_self (v k) w)
      go_wp2_with fail
      refine (IH.out _).mono ?_
      rintro e w' ⟨rfl, rfl⟩
      go_wp2
      go_round
      case rel => exact ⟨k + 1, by omega, by go_num⟩
      case measure => simp [intOf]; omega
    · go_wp2
      go_ret
      exact ⟨rfl, rfl⟩

set_option maxHeartbeats 1000000 in
theorem same_ok (X Y W H : Int) (b b' cap cap' n : Nat) (v : Nat → Nat) (hl : n ≤ 9223372036854775807) (h1 : 1 ≤ n) (w : World) (hc : FlAt w b 0 n v) (hc' : FlAt w b' 0 n v) :
    Calls Try.prog 31 #[fldV X Y W H (.slice (some ⟨b, 0, none⟩) n cap), fldV X Y W H (.slice (some ⟨b', 0, none⟩) n cap')] w fun e w' => e = .returned (.bool true) ∧ Below w.heap.size w w' := by
  have z := World.block_lt_of_cell? w _ (hc 0 h1)
  have z' := World.block_lt_of_cell? w _ (hc' 0 h1)
  have EF := Lib.hid (fun W' (hb : Below w.heap.size w W') => equalFunc_row b b' cap cap' n v hl W' (flAt_congr hc (hb.block _ z)) (flAt_congr hc' (hb.block _ z')))
  clear hc hc'
  go_enter Try.func31, Try.ntmps31
  go_wp2_with (first | (go_at_call 86; refine (EF.out _ (by repeat (first | exact Below.refl _ _ | refine Below.alloc ?_ (by first | omega | (simp; done) | (simp; omega)) _ | refine Below.setCell ?_ (by first | omega | (simp; done) | (simp; omega)) _ | refine Below.drew ?_))).mono ?_; rintro e w' ⟨rfl, rfl⟩))
  go_ret
  exact ⟨rfl, (by repeat (first | exact Below.refl _ _ | refine Below.alloc ?_ (by first | omega | (simp; done) | (simp; omega)) _ | refine Below.setCell ?_ (by first | omega | (simp; done) | (simp; omega)) _ | refine Below.drew ?_))⟩

set_option maxHeartbeats 1000000 in
theorem law_same_ok (X Y W H : Int) (b b' cap cap' n : Nat) (v : Nat → Nat) (hl : n ≤ 9223372036854775807) (h1 : 1 ≤ n) (w : World) (hc : FlAt w b 0 n v) (hc' : FlAt w b' 0 n v) :
    Calls Try.prog 38 #[fldV X Y W H (.slice (some ⟨b, 0, none⟩) n cap), .int .i64 0, fldV X Y W H (.slice (some ⟨b', 0, none⟩) n cap'), .int .i64 0] w fun e w' => e = .returned (.bool true) ∧ Below w.heap.size w w' := by
  have z := World.block_lt_of_cell? w _ (hc 0 h1)
  have z' := World.block_lt_of_cell? w _ (hc' 0 h1)
  have SM := Lib.hid (fun W' (hb : Below w.heap.size w W') => same_ok X Y W H b b' cap cap' n v hl h1 W' (flAt_congr hc (hb.block _ z)) (flAt_congr hc' (hb.block _ z')))
  clear hc hc'
  go_enter Try.func38, Try.ntmps38
  go_wp2_with (first | (go_at_call 31; refine (SM.out _ (by repeat (first | exact Below.refl _ _ | refine Below.alloc ?_ (by first | omega | (simp; done) | (simp; omega)) _ | refine Below.setCell ?_ (by first | omega | (simp; done) | (simp; omega)) _ | refine Below.drew ?_))).mono ?_; rintro e w2 ⟨rfl, hb2⟩))
  go_ret
  exact ⟨rfl, Below.trans (by repeat (first | exact Below.refl _ _ | refine Below.alloc ?_ (by first | omega | (simp; done) | (simp; omega)) _ | refine Below.setCell ?_ (by first | omega | (simp; done) | (simp; omega)) _ | refine Below.drew ?_)) (Below.mono hb2 (by simp; try omega))⟩

set_option maxHeartbeats 1000000 in
theorem law_same_err (e1 : Int) (he : e1 ≠ 0) (w : World) :
    Calls Try.prog 38 #[fldV 0 0 0 0 (.slice none 0 0), .int .i64 e1, fldV 0 0 0 0 (.slice none 0 0), .int .i64 e1] w fun e w' => e = .returned (.bool true) ∧ Below w.heap.size w w' := by
  have hb : (e1 != 0) = true := by simp [he]
  go_enter Try.func38, Try.ntmps38
  go_wp2
  go_ret
  exact ⟨rfl, (by repeat (first | exact Below.refl _ _ | refine Below.alloc ?_ (by first | omega | (simp; done) | (simp; omega)) _ | refine Below.setCell ?_ (by first | omega | (simp; done) | (simp; omega)) _ | refine Below.drew ?_))⟩

end Go.Proofs.Ytihjemookgnafaa

/- What the two sides answer, told alike: so the law's walk has one way. -/
namespace Go.Proofs.Ytihjemookgnafaa
open Go.RowKit Fl
set_option linter.unusedVariables false

/-- A result (the field x y u h s, the error k) of a function that makes f over a region, behind the error er. -/
def Res (lo : Nat) (w : World) (X Y W H : Int) (n : Nat) (f : Nat → Nat) (er : Int) (x y u h : Int) (s : Value) (k : Int) : Prop :=
  (er ≠ 0 ∧ x = 0 ∧ y = 0 ∧ u = 0 ∧ h = 0 ∧ s = .slice none 0 0 ∧ k = er) ∨
  (er = 0 ∧ allB n (fun i => hgtB (f i)) = true ∧ x = X ∧ y = Y ∧ u = W ∧ h = H ∧ (∃ b cap, s = .slice (some ⟨b, 0, none⟩) n cap ∧ lo ≤ b ∧ b < w.heap.size ∧ FlAt w b 0 n f) ∧ k = 0) ∨
  (er = 0 ∧ allB n (fun i => hgtB (f i)) = false ∧ x = 0 ∧ y = 0 ∧ u = 0 ∧ h = 0 ∧ s = .slice none 0 0 ∧ k = 3)
theorem Res.stay {lo : Nat} {w w' : World} {X Y W H : Int} {n : Nat} {f : Nat → Nat} {er x y u h : Int} {s : Value} {k : Int} (r : Res lo w X Y W H n f er x y u h s k) (hb : Below w.heap.size w w') : Res lo w' X Y W H n f er x y u h s k := by
  rcases r with r | ⟨r1, r2, r3, r4, r5, r6, ⟨b, cap, r7, r0, r8, r9⟩, r10⟩ | r
  · exact .inl r
  · exact .inr (.inl ⟨r1, r2, r3, r4, r5, r6, ⟨b, cap, r7, r0, Nat.lt_of_lt_of_le r8 hb.size, flAt_congr r9 (hb.block _ r8)⟩, r10⟩)
  · exact .inr (.inr r)
theorem Res.heap {lo : Nat} {w w' : World} {X Y W H : Int} {n : Nat} {f : Nat → Nat} {er x y u h : Int} {s : Value} {k : Int} (r : Res lo w X Y W H n f er x y u h s k) {p : Nat} (hz : w.heap.size ≤ w'.heap.size) (hne : p < lo) (hb : ∀ b, b ≠ p → b < w.heap.size → w'.heap[b]? = w.heap[b]?) : Res lo w' X Y W H n f er x y u h s k := by
  rcases r with r | ⟨r1, r2, r3, r4, r5, r6, ⟨b, cap, r7, r0, r8, r9⟩, r10⟩ | r
  · exact .inl r
  · exact .inr (.inl ⟨r1, r2, r3, r4, r5, r6, ⟨b, cap, r7, r0, Nat.lt_of_lt_of_le r8 hz, flAt_congr r9 (hb _ (by omega) r8)⟩, r10⟩)
  · exact .inr (.inr r)

theorem made_res {w w' : World} {X Y W H : Int} {n : Nat} {f : Nat → Nat} {er : Int} {e : Ending} (h : ScPost w X Y W H n f er e w') :
    ∃ x y u hh : Int, ∃ a : Option Addr, ∃ l cp : Nat, ∃ k : Int, e = .returned (.tuple #[fldV x y u hh (.slice a l cp), .int .i64 k]) ∧ Res w.heap.size w' X Y W H n f er x y u hh (.slice a l cp) k ∧ Below w.heap.size w w' := by
  rcases h with ⟨h1, h2, h3⟩ | ⟨h1, ⟨h2, b, cap, h3, h4, h5, h6, h7⟩ | ⟨h2, h3, h4⟩⟩
  · exact ⟨_, _, _, _, _, _, _, _, h2, .inl ⟨h1, rfl, rfl, rfl, rfl, rfl, rfl⟩, h3⟩
  · exact ⟨_, _, _, _, _, _, _, _, h3, .inr (.inl ⟨h1, h2, rfl, rfl, rfl, rfl, ⟨b, cap, rfl, h4, h5, h6⟩, rfl⟩), h7⟩
  · exact ⟨_, _, _, _, _, _, _, _, h3, .inr (.inr ⟨h1, h2, rfl, rfl, rfl, rfl, rfl, rfl⟩), h4⟩

/-- Two results of one thing are the same to the law. -/
theorem same_res {W0 : World} {X Y W H : Int} {n : Nat} {f : Nat → Nat} {er x y u h x' y' u' h' : Int} {s s' : Value} {k k' : Int} (hn : 1 ≤ n) (hl : n ≤ 9223372036854775807)
    {lo lo' : Nat} (r : Res lo W0 X Y W H n f er x y u h s k) (r' : Res lo' W0 X Y W H n f er x' y' u' h' s' k') :
    Calls Try.prog 38 #[fldV x y u h s, .int .i64 k, fldV x' y' u' h' s', .int .i64 k'] W0 fun e w' => e = .returned (.bool true) ∧ Below W0.heap.size W0 w' := by
  rcases r with ⟨a1, rfl, rfl, rfl, rfl, rfl, rfl⟩ | ⟨a1, a2, rfl, rfl, rfl, rfl, ⟨b, cap, rfl, _, _, c⟩, rfl⟩ | ⟨a1, a2, rfl, rfl, rfl, rfl, rfl, rfl⟩ <;>
  rcases r' with ⟨b1, rfl, rfl, rfl, rfl, rfl, rfl⟩ | ⟨b1, b2, rfl, rfl, rfl, rfl, ⟨b', cap', rfl, _, _, c'⟩, rfl⟩ | ⟨b1, b2, rfl, rfl, rfl, rfl, rfl, rfl⟩
  · exact law_same_err _ a1 W0
  · exact absurd b1 a1
  · exact absurd b1 a1
  · exact absurd a1 b1
  · exact law_same_ok _ _ _ _ b b' cap cap' n f hl hn W0 c c'
  · rw [a2] at b2; cases b2
  · exact absurd a1 b1
  · rw [a2] at b2; cases b2
  · exact law_same_err 3 (by decide) W0

theorem set5_self {wr : World} {b : Nat} {a1 a2 a3 a4 a5 : Value} {t : TypeId} (u1 u2 u3 u4 u5 : Value) (h : wr.heap[b]? = some (.cells #[a1, a2, a3, a4, a5] t (0, 0))) :
    (set5 wr b u1 u2 u3 u4 u5).heap[b]? = some (.cells #[u1, u2, u3, u4, u5] t (0, 0)) := by
  have h1 := heap_setCell_same wr b 0 _ _ u1 h
  have h2 := heap_setCell_same _ b 1 _ _ u2 h1
  have h3 := heap_setCell_same _ b 2 _ _ u3 h2
  have h4 := heap_setCell_same _ b 3 _ _ u4 h3
  have h5 := heap_setCell_same _ b 4 _ _ u5 h4
  exact h5
/-- A field stored into a block of its own: what stands elsewhere stays. -/
theorem box_old (wr : World) (o : Obj) (u1 u2 u3 u4 u5 : Value) {k : Nat} (h : k < wr.heap.size) : (set5 (wr.alloc o) wr.heap.size u1 u2 u3 u4 u5).heap[k]? = wr.heap[k]? := by
  rw [set5_heap _ _ _ _ _ _ _ _ (by omega), heap_alloc_old _ _ h]
theorem box_below (wr : World) (o : Obj) (u1 u2 u3 u4 u5 : Value) : Below wr.heap.size wr (set5 (wr.alloc o) wr.heap.size u1 u2 u3 u4 u5) :=
  set5_below ((Below.refl _ _).alloc (Nat.le_refl _) o) _ _ _ _ _ _ (Nat.le_refl _)

/-- What a fit field is, its singles by a function. -/
theorem fit_fn {w : World} {b n : Nat} (h : FitRow w b n n) : ∃ v : Nat → Nat, FlAt w b 0 n v ∧ wf32 n v ∧ allB n (fun i => hgtB (v i)) = true ∧ b < w.heap.size := by
  obtain ⟨cs, h1, h2, h3⟩ := h
  refine ⟨fun j => if hj : j < n then (h3 j hj).choose else 0, fun i hi => ?_, fun i hi => ?_, allB_iff.2 fun i hi => ?_, (blkC h1).2.2⟩
  · rw [Nat.zero_add, (blkC h1).1 i]; simp only [dif_pos hi]; exact (h3 i hi).choose_spec.1
  · simp only [dif_pos hi]; exact (h3 i hi).choose_spec.2.1
  · simp only [dif_pos hi]; exact (h3 i hi).choose_spec.2.2 hi
theorem fit_check {X Y : Int} {W H n : Nat} (x1 : -5000 ≤ X) (x2 : X ≤ 5000) (y1 : -5000 ≤ Y) (y2 : Y ≤ 5000) (w1 : (1 : Int) ≤ W) (w2 : (W : Int) ≤ 16) (h1 : (1 : Int) ≤ H) (h2 : (H : Int) ≤ 16) (hn : (n : Int) = W * H) (hn2 : n ≤ 256) : checkR X Y W H = 0 := by
  unfold checkR
  rw [if_neg (by omega), if_neg (by rw [← hn]; omega), if_neg (by omega)]

end Go.Proofs.Ytihjemookgnafaa

/- The closures of Scale and Clamp, on both sides. -/
namespace Go.Proofs.Ytihjemookgnafaa
open Go.RowKit Fl
set_option linter.unusedVariables false

theorem enters_Scale1 : Enters 96 := by intro args W; simp [callFunc, Try.func96, Try.f96]
theorem enters_rScale1 : Enters 97 := by intro args W; simp [callFunc, Try.func97, Try.f97]
theorem enters_Clamp1 : Enters 99 := by intro args W; simp [callFunc, Try.func99, Try.f99]
theorem enters_rClamp1 : Enters 102 := by intro args W; simp [callFunc, Try.func102, Try.f102]

/-- What Scale makes of a cell. -/
def sclW (v : Nat → Nat) (m c : Nat) (i : Nat) : Nat := (floatBits .add .f32 ((floatBits .mul .f32 (v i) m).getD 0) c).getD 0
theorem scl_parts {x m c : Nat} (hx : hgtB x = true) (hm : hgtB m = true) (hc : hgtB c = true) :
    ∃ r s, floatBits .mul .f32 x m = some r ∧ Same2 .mul 40 x m ∧ floatBits .add .f32 r c = some s ∧ Same2 .add 41 r c ∧ s < 4294967296 := by
  have h1 : Same2 .mul 40 x m := mul_same (by omega) (hgt_bd hx) (hgt_bd hm)
  obtain ⟨X, Y, Z, r, _, _, _, _, e1, b1⟩ := h1.ex
  have h2 : Same2 .add 41 r c := add_same (by omega) b1 (bd_up (hgt_bd hc) (by omega))
  obtain ⟨X2, Y2, Z2, s, _, _, _, _, e2, b2⟩ := h2.ex
  exact ⟨r, s, e1, h1, e2, h2, opt_lt (d := (Ieee.single.read r).sum (Ieee.single.read c)) e2⟩
theorem scl_eq {v : Nat → Nat} {m c i r s : Nat} (h1 : floatBits .mul .f32 (v i) m = some r) (h2 : floatBits .add .f32 r c = some s) : sclW v m c i = s := by
  unfold sclW; rw [h1]; show (floatBits .add .f32 r c).getD 0 = s; rw [h2]; rfl

/-- What the two closures hold: the field, two singles. -/
structure Caps (w : World) (X Y : Int) (W H n b cap : Nat) (v : Nat → Nat) (p m c : Nat) : Prop where
  fld : w.heap[p]? = some (fldO X Y W H (.slice (some ⟨b, 0, none⟩) n cap))
  one : w.heap[p + 1]? = some (flObj m)
  two : w.heap[p + 1 + 1]? = some (flObj c)
  row : FlAt w b 0 n v
theorem Caps.stay {w w' : World} {X Y : Int} {W H n b cap : Nat} {v : Nat → Nat} {p m c : Nat} (h : Caps w X Y W H n b cap v p m c) (hn : 1 ≤ n) (hb : Below w.heap.size w w') : Caps w' X Y W H n b cap v p m c :=
  ⟨blkStay h.fld hb, blkStay h.one hb, blkStay h.two hb, flAt_congr h.row (hb.block _ (World.block_lt_of_cell? w _ (h.row 0 hn)))⟩

set_option maxHeartbeats 1000000 in
theorem scale1_any (X Y : Int) (W H n b cap : Nat) (v : Nat → Nat) (p m c : Nat) (w : World) (hk : Caps w X Y W H n b cap v p m c) (hn : n ≤ 65536) (hv : allB n (fun i => hgtB (v i)) = true) (hm : hgtB m = true) (hc : hgtB c = true) :
    Clos1 96 #[.pointer (some ⟨p, 0, none⟩), .pointer (some ⟨p + 1, 0, none⟩), .pointer (some ⟨p + 1 + 1, 0, none⟩)] n (sclW v m c) w := by
  intro i w2 hi hb
  have K := hk.stay (by omega) hb
  obtain ⟨r, s, e1, _, e2, _, _⟩ := scl_parts (allB_iff.1 hv i hi) hm hc
  rw [scl_eq e1 e2]
  have a1 := fun (W : World) => run_float_arith (P := Try.prog) W .mul 37 .f32 (v i) m r e1
  have a2 := fun (W : World) => run_float_arith (P := Try.prog) W .add 37 .f32 r c s e2
  obtain ⟨cF, fF, zF⟩ := blkC K.fld
  obtain ⟨c1, f1, z1⟩ := blkC K.one
  obtain ⟨c2, f2, z2⟩ := blkC K.two
  have hcell := K.row i hi
  rw [Nat.zero_add] at hcell
  have hz : b < w2.heap.size := World.block_lt_of_cell? w2 _ hcell
  clear K hk hv hm hc e1 e2 hb
  go_enter Try.func96, Try.ntmps96
  have hi2 : (i : Int) < (n : Int) := by omega
  go_wp2
  go_quiet (fail)
  go_wp2
  go_ret
  exact ⟨rfl, below_drewN _ _⟩

set_option maxHeartbeats 400000 in
theorem scaled_any (x m c r s : Nat) (e1 : floatBits .mul .f32 x m = some r) (s1 : Same2 .mul 40 x m) (e2 : floatBits .add .f32 r c = some s) (s2 : Same2 .add 41 r c) (w : World) :
    Calls Try.prog 98 #[.float .f32 x, .float .f32 m, .float .f32 c] w fun e w' => e = .returned (.float .f32 s) ∧ w = w' := by
  have A := Lib.hid (fun w => refMul_any 40 x m r s1 e1 w)
  have B := Lib.hid (fun w => refAdd_any 41 r c s s2 e2 w)
  clear e1 e2 s1 s2
  go_enter Try.func98, Try.ntmps98
  go_wp2_with (first | (go_at_call 125; refine (A.out _).mono ?_; rintro e w' ⟨rfl, rfl⟩) | (go_at_call 131; refine (B.out _).mono ?_; rintro e w' ⟨rfl, rfl⟩))
  go_ret
  exact ⟨rfl, rfl⟩

set_option maxHeartbeats 1000000 in
theorem rscale1_any (X Y : Int) (W H n b cap : Nat) (v : Nat → Nat) (p m c : Nat) (w : World) (hk : Caps w X Y W H n b cap v p m c) (hn : n ≤ 65536) (hv : allB n (fun i => hgtB (v i)) = true) (hm : hgtB m = true) (hc : hgtB c = true)
    (hX1 : -16777216 ≤ X) (hX2 : X ≤ 16777216) (hY1 : -16777216 ≤ Y) (hY2 : Y ≤ 16777216) (hW1 : 1 ≤ W) (hW2 : W ≤ 512) (hH2 : H ≤ 512) (hnn : n = H * W) :
    Clos2 97 #[.pointer (some ⟨p, 0, none⟩), .pointer (some ⟨p + 1, 0, none⟩), .pointer (some ⟨p + 1 + 1, 0, none⟩)] X Y W H (sclW v m c) w := by
  intro x y i w2 h1 h2 h3 h4 h5 hb
  have hi : i < n := by
    have a : (y - Y) * W ≤ ((H : Int) - 1) * W := Int.mul_le_mul_of_nonneg_right (by omega) (by omega)
    have b : ((H : Int) - 1) * W = (n : Int) - W := by rw [hnn, Int.sub_mul]; simp
    omega
  have K := hk.stay (by omega) hb
  obtain ⟨r, s, e1, s1, e2, s2, _⟩ := scl_parts (allB_iff.1 hv i hi) hm hc
  rw [scl_eq e1 e2]
  have SC := Lib.hid (fun w => scaled_any (v i) m c r s e1 s1 e2 s2 w)
  have hz : b < w2.heap.size := World.block_lt_of_cell? w2 _ (K.row i hi)
  have AT := Lib.hid (fun W' (hb : Below w2.heap.size w2 W') => refAt_any X Y W H n b cap i v x y W' hX1 hX2 hY1 hY2 hW1 hW2 hH2 h1 h2 h3 h4 h5 hi hn (flAt_congr K.row (hb.block _ hz)))
  have HF := Lib.hid K.fld
  have H1 := Lib.hid K.one
  have H2 := Lib.hid K.two
  obtain ⟨cF, fF, zF⟩ := blkC K.fld
  obtain ⟨c1, f1, z1⟩ := blkC K.one
  obtain ⟨c2, f2, z2⟩ := blkC K.two
  clear K hk hv hm hc e1 e2 s1 s2 hb h1 h2 h3 h4 h5 hX1 hX2 hY1 hY2 hW1 hW2 hH2 hnn hi hn
  go_enter Try.func97, Try.ntmps97
  go_wp2
  go_region_held3 (fun w' => (∀ o, w'.cell? ⟨p, o, none⟩ = #[.int .i64 X, .int .i64 Y, .int .i64 W, .int .i64 H, .slice (some ⟨b, 0, none⟩) n cap][o]?) ∧ (∀ o, w'.cell? ⟨p + 1, o, none⟩ = #[.float .f32 m][o]?) ∧ (∀ o, w'.cell? ⟨p + 1 + 1, o, none⟩ = #[.float .f32 c][o]?) ∧ Below w2.heap.size w2 w') (first | exact ⟨(blkC (blkStay HF.out (by repeat (first | exact Below.refl _ _ | refine Below.alloc ?_ (by first | omega | (simp; done) | (simp; omega)) _ | refine Below.setCell ?_ (by first | omega | (simp; done) | (simp; omega)) _ | refine Below.drew ?_)))).1, (blkC (blkStay H1.out (by repeat (first | exact Below.refl _ _ | refine Below.alloc ?_ (by first | omega | (simp; done) | (simp; omega)) _ | refine Below.setCell ?_ (by first | omega | (simp; done) | (simp; omega)) _ | refine Below.drew ?_)))).1, (blkC (blkStay H2.out (by repeat (first | exact Below.refl _ _ | refine Below.alloc ?_ (by first | omega | (simp; done) | (simp; omega)) _ | refine Below.setCell ?_ (by first | omega | (simp; done) | (simp; omega)) _ | refine Below.drew ?_)))).1, (by repeat (first | exact Below.refl _ _ | refine Below.alloc ?_ (by first | omega | (simp; done) | (simp; omega)) _ | refine Below.setCell ?_ (by first | omega | (simp; done) | (simp; omega)) _ | refine Below.drew ?_))⟩) (first | (go_at_call 90; refine (AT.out _ (by repeat (first | exact Below.refl _ _ | refine Below.alloc ?_ (by first | omega | (simp; done) | (simp; omega)) _ | refine Below.setCell ?_ (by first | omega | (simp; done) | (simp; omega)) _ | refine Below.drew ?_))).mono ?_; rintro e w' ⟨rfl, rfl⟩) | (go_at_call 98; refine (SC.out _).mono ?_; rintro e w' ⟨rfl, rfl⟩))
  rename_i hHeld
  go_wp2
  go_ret
  exact ⟨rfl, hHeld.2.2.2⟩

theorem clp_lt {v : Nat → Nat} {a b i : Nat} (h1 : v i < 4294967296) (h2 : a < 4294967296) (h3 : b < 4294967296) : clpW (v i) a b < 4294967296 := by
  unfold clpW; split
  · exact h2
  · split
    · exact h3
    · exact h1

set_option maxHeartbeats 1000000 in
theorem clamp1_any (X Y : Int) (W H n b cap : Nat) (v : Nat → Nat) (p m c : Nat) (w : World) (hk : Caps w X Y W H n b cap v p m c) (hn : n ≤ 65536) (hv : allB n (fun i => hgtB (v i)) = true) (hm : hgtB m = true) (hc : hgtB c = true)
    (hmc : (FloatKind.f32.format.order m c == some .gt) = false) :
    Clos1 99 #[.pointer (some ⟨p, 0, none⟩), .pointer (some ⟨p + 1, 0, none⟩), .pointer (some ⟨p + 1 + 1, 0, none⟩)] n (fun i => clpW (v i) m c) w := by
  intro i w2 hi hb
  have K := hk.stay (by omega) hb
  show Calls _ _ _ _ fun e w' => e = .returned (.float .f32 (clpW (v i) m c)) ∧ _
  rw [← clp_eq (hgt_fin (allB_iff.1 hv i hi)) (hgt_fin hm) (hgt_fin hc) hmc]
  obtain ⟨cF, fF, zF⟩ := blkC K.fld
  obtain ⟨c1, f1, z1⟩ := blkC K.one
  obtain ⟨c2, f2, z2⟩ := blkC K.two
  have hcell := K.row i hi
  rw [Nat.zero_add] at hcell
  have hz : b < w2.heap.size := World.block_lt_of_cell? w2 _ hcell
  have hi2 : (i : Int) < (n : Int) := by omega
  clear K hk hv hm hc hb hmc
  go_enter Try.func99, Try.ntmps99
  go_wp2
  go_quiet (first | (go_at_call 101; exact Calls.quiet_of_same ((greater_any _ _ _).mono fun _ _ h => ⟨h.1, h.2.symm⟩)) | (go_at_call 100; exact Calls.quiet_of_same ((lesser_any _ _ _).mono fun _ _ h => ⟨h.1, h.2.symm⟩)))
  go_wp2
  go_ret
  exact ⟨rfl, below_drewN _ _⟩

set_option maxHeartbeats 1000000 in
theorem rclamp1_any (X Y : Int) (W H n b cap : Nat) (v : Nat → Nat) (p m c : Nat) (w : World) (hk : Caps w X Y W H n b cap v p m c) (hn : n ≤ 65536)
    (hX1 : -16777216 ≤ X) (hX2 : X ≤ 16777216) (hY1 : -16777216 ≤ Y) (hY2 : Y ≤ 16777216) (hW1 : 1 ≤ W) (hW2 : W ≤ 512) (hH2 : H ≤ 512) (hnn : n = H * W) (hn1 : 1 ≤ n) :
    Clos2 102 #[.pointer (some ⟨p, 0, none⟩), .pointer (some ⟨p + 1, 0, none⟩), .pointer (some ⟨p + 1 + 1, 0, none⟩)] X Y W H (fun i => clpW (v i) m c) w := by
  intro x y i w2 h1 h2 h3 h4 h5 hb
  have hi : i < n := by
    have a : (y - Y) * W ≤ ((H : Int) - 1) * W := Int.mul_le_mul_of_nonneg_right (by omega) (by omega)
    have b : ((H : Int) - 1) * W = (n : Int) - W := by rw [hnn, Int.sub_mul]; simp
    omega
  have K := hk.stay (by omega) hb
  show Calls _ _ _ _ fun e w' => e = .returned (.float .f32 (clpW (v i) m c)) ∧ _
  have SC := Lib.hid (fun w => clamped_any (v i) m c w)
  have hz : b < w2.heap.size := World.block_lt_of_cell? w2 _ (K.row i hi)
  have AT := Lib.hid (fun W' (hb : Below w2.heap.size w2 W') => refAt_any X Y W H n b cap i v x y W' hX1 hX2 hY1 hY2 hW1 hW2 hH2 h1 h2 h3 h4 h5 hi hn (flAt_congr K.row (hb.block _ hz)))
  have HF := Lib.hid K.fld
  have H1 := Lib.hid K.one
  have H2 := Lib.hid K.two
  obtain ⟨cF, fF, zF⟩ := blkC K.fld
  obtain ⟨c1, f1, z1⟩ := blkC K.one
  obtain ⟨c2, f2, z2⟩ := blkC K.two
  clear K hk hb h1 h2 h3 h4 h5 hX1 hX2 hY1 hY2 hW1 hW2 hH2 hnn hi hn
  go_enter Try.func102, Try.ntmps102
  go_wp2
  go_region_held3 (fun w' => (∀ o, w'.cell? ⟨p, o, none⟩ = #[.int .i64 X, .int .i64 Y, .int .i64 W, .int .i64 H, .slice (some ⟨b, 0, none⟩) n cap][o]?) ∧ (∀ o, w'.cell? ⟨p + 1, o, none⟩ = #[.float .f32 m][o]?) ∧ (∀ o, w'.cell? ⟨p + 1 + 1, o, none⟩ = #[.float .f32 c][o]?) ∧ Below w2.heap.size w2 w') (first | exact ⟨(blkC (blkStay HF.out (by repeat (first | exact Below.refl _ _ | refine Below.alloc ?_ (by first | omega | (simp; done) | (simp; omega)) _ | refine Below.setCell ?_ (by first | omega | (simp; done) | (simp; omega)) _ | refine Below.drew ?_)))).1, (blkC (blkStay H1.out (by repeat (first | exact Below.refl _ _ | refine Below.alloc ?_ (by first | omega | (simp; done) | (simp; omega)) _ | refine Below.setCell ?_ (by first | omega | (simp; done) | (simp; omega)) _ | refine Below.drew ?_)))).1, (blkC (blkStay H2.out (by repeat (first | exact Below.refl _ _ | refine Below.alloc ?_ (by first | omega | (simp; done) | (simp; omega)) _ | refine Below.setCell ?_ (by first | omega | (simp; done) | (simp; omega)) _ | refine Below.drew ?_)))).1, (by repeat (first | exact Below.refl _ _ | refine Below.alloc ?_ (by first | omega | (simp; done) | (simp; omega)) _ | refine Below.setCell ?_ (by first | omega | (simp; done) | (simp; omega)) _ | refine Below.drew ?_))⟩) (first | (go_at_call 90; refine (AT.out _ (by repeat (first | exact Below.refl _ _ | refine Below.alloc ?_ (by first | omega | (simp; done) | (simp; omega)) _ | refine Below.setCell ?_ (by first | omega | (simp; done) | (simp; omega)) _ | refine Below.drew ?_))).mono ?_; rintro e w' ⟨rfl, rfl⟩) | (go_at_call 103; refine (SC.out _).mono ?_; rintro e w' ⟨rfl, rfl⟩))
  rename_i hHeld
  go_wp2
  go_ret
  exact ⟨rfl, hHeld.2.2.2⟩

end Go.Proofs.Ytihjemookgnafaa

/- Scale and Clamp, on both sides, of a right field. -/
namespace Go.Proofs.Ytihjemookgnafaa
open Go.RowKit Fl
set_option linter.unusedVariables false

set_option maxHeartbeats 2000000 in
theorem scale_any (X Y : Int) (W H n b cap : Nat) (v : Nat → Nat) (m c : Nat) (w : World) (h0 : checkR X Y W H = 0) (hn : n = W * H) (hc : FlAt w b 0 n v) (hh : allB n (fun i => hgtB (v i)) = true) :
    Calls Try.prog 36 #[fldV X Y W H (.slice (some ⟨b, 0, none⟩) n cap), .float .f32 m, .float .f32 c] w (ScPost w X Y W H n (sclW v m c) (fldE 2 (two m c))) := by
  obtain ⟨b1, b2, b3, b4, b5, _⟩ := checkR_zero h0
  have en : ((W : Int) * (H : Int)) = (n : Int) := by rw [hn]; simp
  have hn2 : n ≤ 65536 := by omega
  have h1 : 1 ≤ n := by
    have := Nat.mul_pos (by omega : 0 < W) (by omega : 0 < H)
    omega
  have hlt : b < w.heap.size := World.block_lt_of_cell? w _ (hc 0 h1)
  have CK := Lib.hid (fun W' (hb : Below w.heap.size w W') => check_ok X Y W H n b cap v W' h0 hn (flAt_congr hc (hb.block _ hlt)) hh)
  have CS := Lib.hid (fun bb W' (hb : W'.heap[bb]? = some (.cells #[.float .f32 m, .float .f32 c] 37)) => CheckHeights_row bb 0 2 2 (two m c) (by omega) W' (flAt_two hb))
  by_cases hz : fldE 2 (two m c) = 0
  · obtain ⟨hm, hcc⟩ := two_hgt hz
    have BY := Lib.hid (fun W' p (hk : Caps W' X Y W H n b cap v p m c) => byCell_any X Y W H n 96 _ (sclW v m c) W' enters_Scale1 (scale1_any X Y W H n b cap v p m c W' hk hn2 hh hm hcc) en.symm h1 hn2)
    rw [hz] at CS
    have HC := Lib.hid hc
    have HZ := Lib.hid hz
    clear hc hn h0 hh hm hcc en hz b5
    go_enter Try.func36, Try.ntmps36
    go_wp2_with (first | (go_at_call 82; refine (CK.out _ (by repeat (first | exact Below.refl _ _ | refine Below.alloc ?_ (by first | omega | (simp; done) | (simp; omega)) _ | refine Below.setCell ?_ (by first | omega | (simp; done) | (simp; omega)) _ | refine Below.drew ?_))).mono ?_; rintro e w2 ⟨rfl, hb2⟩; have HF2 := Lib.hid (blkStay (b := w.heap.size) (o := fldO X Y W H (.slice (some ⟨b, 0, none⟩) n cap)) (by ((simp only [heap_alloc_get, heap_size_alloc, if_true]) <;> ((repeat' split) <;> first | rfl | omega))) hb2); have HM2 := Lib.hid (blkStay (b := w.heap.size + 1) (o := flObj m) (by ((simp only [heap_alloc_get, heap_size_alloc, if_true]) <;> ((repeat' split) <;> first | rfl | omega))) hb2); have HC2 := Lib.hid (blkStay (b := w.heap.size + 1 + 1) (o := flObj c) (by ((simp only [heap_alloc_get, heap_size_alloc, if_true]) <;> ((repeat' split) <;> first | rfl | omega))) hb2); have HS2 := Lib.hid (blkStay (b := w.heap.size + 1 + 1 + 1) (o := fldO 0 0 0 0 (.slice none 0 0)) (by ((simp only [heap_alloc_get, heap_size_alloc, if_true]) <;> ((repeat' split) <;> first | rfl | omega))) hb2); have hB2 : Below w.heap.size w w2 := Below.trans (by repeat (first | exact Below.refl _ _ | refine Below.alloc ?_ (by first | omega | (simp; done) | (simp; omega)) _ | refine Below.setCell ?_ (by first | omega | (simp; done) | (simp; omega)) _ | refine Below.drew ?_)) (Below.mono hb2 (by first | omega | (simp; done) | (simp; omega))); obtain ⟨cF, fF, zF⟩ := blkC HF2.out; obtain ⟨cM, fM, zM⟩ := blkC HM2.out; obtain ⟨cC, fC, zC⟩ := blkC HC2.out; clear hb2) | (go_at_call 75; refine (CS.out _ _ (heap_alloc_new _ _)).mono ?_; rintro e w3 ⟨rfl, rfl⟩))
    have K2 : Caps w2 X Y W H n b cap v w.heap.size m c := ⟨HF2.out, HM2.out, HC2.out, flAt_congr HC.out (hB2.block _ hlt)⟩
    refine (BY.out _ w.heap.size (K2.stay h1 (by repeat (first | exact Below.refl _ _ | refine Below.alloc ?_ (by first | omega | (simp; done) | (simp; omega)) _ | refine Below.setCell ?_ (by first | omega | (simp; done) | (simp; omega)) _ | refine Below.drew ?_)))).mono ?_
    intro e w4 hmade
    rcases hmade with ⟨hall, b', cap', rfl, hb', hlt', hrow, hbel⟩ | ⟨hall, rfl, hbel⟩
    · have hb24 : Below w2.heap.size w2 w4 := Below.trans (by repeat (first | exact Below.refl _ _ | refine Below.alloc ?_ (by first | omega | (simp; done) | (simp; omega)) _ | refine Below.setCell ?_ (by first | omega | (simp; done) | (simp; omega)) _ | refine Below.drew ?_)) (Below.mono hbel (by simp))
      obtain ⟨cS, fS, zS⟩ := blkC (blkStay HS2.out hb24)
      go_wp2
      refine bodyPost_ret (v := .tuple #[fldV X Y W H (.slice (some ⟨b', 0, none⟩) n cap'), .int .i64 0]) (by simp [results, Try.results36, go_sem, cS]) rfl ?_
      have z2 := hB2.size
      rw [heap_size_alloc] at hb'
      exact .inr ⟨HZ.out, .inl ⟨hall, b', cap', rfl, by omega, by rw [set5_size]; exact hlt', flAt_congr hrow (set5_heap w4 _ _ _ _ _ _ _ (by have := HS2.out; have := (blkC this).2.2; omega)), set5_below (hB2.trans (hb24.mono z2)) _ _ _ _ _ _ (by omega)⟩⟩
    · have hb24 : Below w2.heap.size w2 w4 := Below.trans (by repeat (first | exact Below.refl _ _ | refine Below.alloc ?_ (by first | omega | (simp; done) | (simp; omega)) _ | refine Below.setCell ?_ (by first | omega | (simp; done) | (simp; omega)) _ | refine Below.drew ?_)) (Below.mono hbel (by simp))
      obtain ⟨cS, fS, zS⟩ := blkC (blkStay HS2.out hb24)
      go_wp2
      refine bodyPost_ret (v := .tuple #[fldV 0 0 0 0 (.slice none 0 0), .int .i64 3]) (by simp [results, Try.results36, go_sem, cS]) rfl ?_
      have z2 := hB2.size
      exact .inr ⟨HZ.out, .inr ⟨hall, rfl, set5_below (hB2.trans (hb24.mono z2)) _ _ _ _ _ _ (by omega)⟩⟩
  · have hzb : (fldE 2 (two m c) != 0) = true := by simp [hz]
    have HZ := Lib.hid hz
    clear hc hn h0 hh en hz b5
    go_enter Try.func36, Try.ntmps36
    go_wp2_with (first | (go_at_call 82; refine (CK.out _ (by repeat (first | exact Below.refl _ _ | refine Below.alloc ?_ (by first | omega | (simp; done) | (simp; omega)) _ | refine Below.setCell ?_ (by first | omega | (simp; done) | (simp; omega)) _ | refine Below.drew ?_))).mono ?_; rintro e w2 ⟨rfl, hb2⟩; have HF2 := Lib.hid (blkStay (b := w.heap.size) (o := fldO X Y W H (.slice (some ⟨b, 0, none⟩) n cap)) (by ((simp only [heap_alloc_get, heap_size_alloc, if_true]) <;> ((repeat' split) <;> first | rfl | omega))) hb2); have HM2 := Lib.hid (blkStay (b := w.heap.size + 1) (o := flObj m) (by ((simp only [heap_alloc_get, heap_size_alloc, if_true]) <;> ((repeat' split) <;> first | rfl | omega))) hb2); have HC2 := Lib.hid (blkStay (b := w.heap.size + 1 + 1) (o := flObj c) (by ((simp only [heap_alloc_get, heap_size_alloc, if_true]) <;> ((repeat' split) <;> first | rfl | omega))) hb2); have HS2 := Lib.hid (blkStay (b := w.heap.size + 1 + 1 + 1) (o := fldO 0 0 0 0 (.slice none 0 0)) (by ((simp only [heap_alloc_get, heap_size_alloc, if_true]) <;> ((repeat' split) <;> first | rfl | omega))) hb2); have hB2 : Below w.heap.size w w2 := Below.trans (by repeat (first | exact Below.refl _ _ | refine Below.alloc ?_ (by first | omega | (simp; done) | (simp; omega)) _ | refine Below.setCell ?_ (by first | omega | (simp; done) | (simp; omega)) _ | refine Below.drew ?_)) (Below.mono hb2 (by first | omega | (simp; done) | (simp; omega))); obtain ⟨cF, fF, zF⟩ := blkC HF2.out; obtain ⟨cM, fM, zM⟩ := blkC HM2.out; obtain ⟨cC, fC, zC⟩ := blkC HC2.out; clear hb2) | (go_at_call 75; refine (CS.out _ _ (heap_alloc_new _ _)).mono ?_; rintro e w3 ⟨rfl, hw3⟩; have hb23 : Below w2.heap.size w2 w3 := (by rw [← hw3]; exact (by repeat (first | exact Below.refl _ _ | refine Below.alloc ?_ (by first | omega | (simp; done) | (simp; omega)) _ | refine Below.setCell ?_ (by first | omega | (simp; done) | (simp; omega)) _ | refine Below.drew ?_))); clear hw3; obtain ⟨cS, fS, zS⟩ := blkC (blkStay HS2.out hb23)))
    refine bodyPost_ret (v := .tuple #[fldV 0 0 0 0 (.slice none 0 0), .int .i64 (fldE 2 (two m c))]) (by simp [results, Try.results36, go_sem, cS]) rfl ?_
    exact .inl ⟨HZ.out, rfl, set5_below (hB2.trans (hb23.mono hB2.size)) _ _ _ _ _ _ (by omega)⟩

end Go.Proofs.Ytihjemookgnafaa

/- The reference's Scale. -/
namespace Go.Proofs.Ytihjemookgnafaa
open Go.RowKit Fl
set_option linter.unusedVariables false

theorem two_wf {m c : Nat} (h1 : m < 4294967296) (h2 : c < 4294967296) : wf32 2 (two m c) := by
  intro i _; unfold two; split
  · exact h1
  · exact h2
theorem scl_wf {n m c : Nat} {v : Nat → Nat} (hh : allB n (fun i => hgtB (v i)) = true) (hm : hgtB m = true) (hc : hgtB c = true) : wf32 n (sclW v m c) := by
  intro i hi
  obtain ⟨r, s, e1, _, e2, _, e3⟩ := scl_parts (allB_iff.1 hh i hi) hm hc
  rw [scl_eq e1 e2]; exact e3

set_option maxHeartbeats 2000000 in
theorem rscale_any (X Y : Int) (W H n b cap : Nat) (v : Nat → Nat) (m c : Nat) (w : World) (h0 : checkR X Y W H = 0) (hn : n = W * H) (hc : FlAt w b 0 n v) (hh : allB n (fun i => hgtB (v i)) = true) (hvw : wf32 n v) (hm32 : m < 4294967296) (hc32 : c < 4294967296) :
    Calls Try.prog 37 #[fldV X Y W H (.slice (some ⟨b, 0, none⟩) n cap), .float .f32 m, .float .f32 c] w (ScPost w X Y W H n (sclW v m c) (fldE 2 (two m c))) := by
  obtain ⟨b1, b2, b3, b4, b5, b6, b7, b8, b9⟩ := checkR_zero h0
  have en : ((W : Int) * (H : Int)) = (n : Int) := by rw [hn]; simp
  have hn2 : n ≤ 65536 := by omega
  have h1 : 1 ≤ n := by
    have := Nat.mul_pos (by omega : 0 < W) (by omega : 0 < H)
    omega
  have hlt : b < w.heap.size := World.block_lt_of_cell? w _ (hc 0 h1)
  have CS := Lib.hid (fun bb W' (hb : W'.heap[bb]? = some (.cells #[.float .f32 m, .float .f32 c] 37)) => refHeight_row bb 0 2 2 (two m c) (by omega) W' (flAt_two hb) (two_wf hm32 hc32))
  by_cases hz : fldE 2 (two m c) = 0
  · obtain ⟨hm, hcc⟩ := two_hgt hz
    have BY := Lib.hid (fun W' p (hk : Caps W' X Y W H n b cap v p m c) => made_any X Y W H n 97 _ (sclW v m c) W' enters_rScale1 (rscale1_any X Y W H n b cap v p m c W' hk hn2 hh hm hcc (by omega) (by omega) (by omega) (by omega) (by omega) (by omega) (by omega) (by rw [hn]; exact Nat.mul_comm _ _)) (scl_wf hh hm hcc) (by omega) (by omega) (by omega) (by omega) (by omega) (by omega) (by omega) (by omega) (by rw [hn]; exact Nat.mul_comm _ _))
    rw [hz] at CS
    have HC := Lib.hid hc
    have HZ := Lib.hid hz
    clear hc hn h0 hh hm hcc en hz b5 hvw
    go_enter Try.func37, Try.ntmps37
    go_wp2_with (first | (go_at_call 26; refine (CS.out _ _ (by ((simp only [heap_alloc_get, heap_size_alloc, if_true]) <;> ((repeat' split) <;> first | rfl | omega)))).mono ?_; rintro e w2 ⟨rfl, hw3⟩; have hw2 : Below w.heap.size w w2 := (by rw [← hw3]; exact (by repeat (first | exact Below.refl _ _ | refine Below.alloc ?_ (by first | omega | (simp; done) | (simp; omega)) _ | refine Below.setCell ?_ (by first | omega | (simp; done) | (simp; omega)) _ | refine Below.drew ?_))); have HF2 := Lib.hid (show w2.heap[w.heap.size]? = some (fldO X Y W H (.slice (some ⟨b, 0, none⟩) n cap)) by rw [← hw3]; ((simp only [heap_alloc_get, heap_size_alloc, if_true]) <;> ((repeat' split) <;> first | rfl | omega))); have HM2 := Lib.hid (show w2.heap[w.heap.size + 1]? = some (flObj m) by rw [← hw3]; ((simp only [heap_alloc_get, heap_size_alloc, if_true]) <;> ((repeat' split) <;> first | rfl | omega))); have HC2 := Lib.hid (show w2.heap[w.heap.size + 1 + 1]? = some (flObj c) by rw [← hw3]; ((simp only [heap_alloc_get, heap_size_alloc, if_true]) <;> ((repeat' split) <;> first | rfl | omega))); have HS2 := Lib.hid (show w2.heap[w.heap.size + 1 + 1 + 1]? = some (fldO 0 0 0 0 (.slice none 0 0)) by rw [← hw3]; ((simp only [heap_alloc_get, heap_size_alloc, if_true]) <;> ((repeat' split) <;> first | rfl | omega))); have hB2 := hw2; obtain ⟨cF, fF, zF⟩ := blkC HF2.out; obtain ⟨cM, fM, zM⟩ := blkC HM2.out; obtain ⟨cC, fC, zC⟩ := blkC HC2.out; obtain ⟨cS, fS, zS⟩ := blkC HS2.out; clear hw3))
    have K2 : Caps w2 X Y W H n b cap v w.heap.size m c := ⟨HF2.out, HM2.out, HC2.out, flAt_congr HC.out (hB2.block _ hlt)⟩
    clear cS fS zS
    refine (BY.out _ w.heap.size (K2.stay h1 (by repeat (first | exact Below.refl _ _ | refine Below.alloc ?_ (by first | omega | (simp; done) | (simp; omega)) _ | refine Below.setCell ?_ (by first | omega | (simp; done) | (simp; omega)) _ | refine Below.drew ?_)))).mono ?_
    intro e w4 hmade
    rcases hmade with ⟨hall, b', cap', rfl, hb', hlt', hrow, hbel⟩ | ⟨hall, rfl, hbel⟩
    · have hb24 : Below w2.heap.size w2 w4 := Below.trans (by repeat (first | exact Below.refl _ _ | refine Below.alloc ?_ (by first | omega | (simp; done) | (simp; omega)) _ | refine Below.setCell ?_ (by first | omega | (simp; done) | (simp; omega)) _ | refine Below.drew ?_)) (Below.mono hbel (by first | exact Nat.le_refl _ | simp))
      obtain ⟨cS, fS, zS⟩ := blkC (blkStay HS2.out hb24)
      go_wp2
      refine bodyPost_ret (v := .tuple #[fldV X Y W H (.slice (some ⟨b', 0, none⟩) n cap'), .int .i64 0]) (by simp [results, Try.results37, go_sem, cS]) rfl ?_
      have z2 := hB2.size
      exact .inr ⟨HZ.out,  .inl ⟨hall, b', cap', rfl, by omega, by rw [set5_size]; exact hlt', flAt_congr hrow (set5_heap w4 _ _ _ _ _ _ _ (by have := HS2.out; have := (blkC this).2.2; omega)), set5_below (hB2.trans (hb24.mono z2)) _ _ _ _ _ _ (by omega)⟩⟩
    · have hb24 : Below w2.heap.size w2 w4 := Below.trans (by repeat (first | exact Below.refl _ _ | refine Below.alloc ?_ (by first | omega | (simp; done) | (simp; omega)) _ | refine Below.setCell ?_ (by first | omega | (simp; done) | (simp; omega)) _ | refine Below.drew ?_)) (Below.mono hbel (by first | exact Nat.le_refl _ | simp))
      obtain ⟨cS, fS, zS⟩ := blkC (blkStay HS2.out hb24)
      go_wp2
      refine bodyPost_ret (v := .tuple #[fldV 0 0 0 0 (.slice none 0 0), .int .i64 3]) (by simp [results, Try.results37, go_sem, cS]) rfl ?_
      have z2 := hB2.size
      exact .inr ⟨HZ.out,  .inr ⟨hall, rfl, set5_below (hB2.trans (hb24.mono z2)) _ _ _ _ _ _ (by omega)⟩⟩
  · have hzb : (fldE 2 (two m c) != 0) = true := by simp [hz]
    have HZ := Lib.hid hz
    clear hc hn h0 hh en hz b5 hvw
    go_enter Try.func37, Try.ntmps37
    go_wp2_with (first | (go_at_call 26; refine (CS.out _ _ (by ((simp only [heap_alloc_get, heap_size_alloc, if_true]) <;> ((repeat' split) <;> first | rfl | omega)))).mono ?_; rintro e w2 ⟨rfl, hw3⟩; have hw2 : Below w.heap.size w w2 := (by rw [← hw3]; exact (by repeat (first | exact Below.refl _ _ | refine Below.alloc ?_ (by first | omega | (simp; done) | (simp; omega)) _ | refine Below.setCell ?_ (by first | omega | (simp; done) | (simp; omega)) _ | refine Below.drew ?_))); have HF2 := Lib.hid (show w2.heap[w.heap.size]? = some (fldO X Y W H (.slice (some ⟨b, 0, none⟩) n cap)) by rw [← hw3]; ((simp only [heap_alloc_get, heap_size_alloc, if_true]) <;> ((repeat' split) <;> first | rfl | omega))); have HM2 := Lib.hid (show w2.heap[w.heap.size + 1]? = some (flObj m) by rw [← hw3]; ((simp only [heap_alloc_get, heap_size_alloc, if_true]) <;> ((repeat' split) <;> first | rfl | omega))); have HC2 := Lib.hid (show w2.heap[w.heap.size + 1 + 1]? = some (flObj c) by rw [← hw3]; ((simp only [heap_alloc_get, heap_size_alloc, if_true]) <;> ((repeat' split) <;> first | rfl | omega))); have HS2 := Lib.hid (show w2.heap[w.heap.size + 1 + 1 + 1]? = some (fldO 0 0 0 0 (.slice none 0 0)) by rw [← hw3]; ((simp only [heap_alloc_get, heap_size_alloc, if_true]) <;> ((repeat' split) <;> first | rfl | omega))); have hB2 := hw2; obtain ⟨cF, fF, zF⟩ := blkC HF2.out; obtain ⟨cM, fM, zM⟩ := blkC HM2.out; obtain ⟨cC, fC, zC⟩ := blkC HC2.out; obtain ⟨cS, fS, zS⟩ := blkC HS2.out; clear hw3))
    refine bodyPost_ret (v := .tuple #[fldV 0 0 0 0 (.slice none 0 0), .int .i64 (fldE 2 (two m c))]) (by simp [results, Try.results37, go_sem, cS]) rfl ?_
    exact .inl ⟨HZ.out, rfl, set5_below hB2 _ _ _ _ _ _ (by omega)⟩

end Go.Proofs.Ytihjemookgnafaa

/- Clamp, on both sides. -/
namespace Go.Proofs.Ytihjemookgnafaa
open Go.RowKit Fl
set_option linter.unusedVariables false

/-- What Clamp answers: the error of its singles, or of their order, or a field that is made. -/
def ClPost (w : World) (X Y W H : Int) (n : Nat) (f : Nat → Nat) (er : Int) (gt : Bool) (e : Ending) (w' : World) : Prop :=
  (er ≠ 0 ∧ e = .returned (.tuple #[fldV 0 0 0 0 (.slice none 0 0), .int .i64 er]) ∧ Below w.heap.size w w') ∨
  (er = 0 ∧ gt = true ∧ e = .returned (.tuple #[fldV 0 0 0 0 (.slice none 0 0), .int .i64 8]) ∧ Below w.heap.size w w') ∨ (er = 0 ∧ gt = false ∧ MadePost w X Y W H n f e w')

set_option maxHeartbeats 2000000 in
theorem clamp_any (X Y : Int) (W H n b cap : Nat) (v : Nat → Nat) (m c : Nat) (w : World) (h0 : checkR X Y W H = 0) (hn : n = W * H) (hc : FlAt w b 0 n v) (hh : allB n (fun i => hgtB (v i)) = true) :
    Calls Try.prog 39 #[fldV X Y W H (.slice (some ⟨b, 0, none⟩) n cap), .float .f32 m, .float .f32 c] w (ClPost w X Y W H n (fun i => clpW (v i) m c) (fldE 2 (two m c)) (FloatKind.f32.format.order m c == some .gt)) := by
  obtain ⟨b1, b2, b3, b4, b5, _⟩ := checkR_zero h0
  have en : ((W : Int) * (H : Int)) = (n : Int) := by rw [hn]; simp
  have hn2 : n ≤ 65536 := by omega
  have h1 : 1 ≤ n := by
    have := Nat.mul_pos (by omega : 0 < W) (by omega : 0 < H)
    omega
  have hlt : b < w.heap.size := World.block_lt_of_cell? w _ (hc 0 h1)
  have CK := Lib.hid (fun W' (hb : Below w.heap.size w W') => check_ok X Y W H n b cap v W' h0 hn (flAt_congr hc (hb.block _ hlt)) hh)
  have CS := Lib.hid (fun bb W' (hb : W'.heap[bb]? = some (.cells #[.float .f32 m, .float .f32 c] 37)) => CheckHeights_row bb 0 2 2 (two m c) (by omega) W' (flAt_two hb))
  by_cases hz : fldE 2 (two m c) = 0
  · obtain ⟨hm, hcc⟩ := two_hgt hz
    rw [hz] at CS
    cases hgt : (FloatKind.f32.format.order m c == some .gt) with
    | true =>
      have HZ := Lib.hid hz
      clear hc hn h0 hh hm hcc en hz b5
      go_enter Try.func39, Try.ntmps39
      go_wp2_with (first | (go_at_call 82; refine (CK.out _ (by repeat (first | exact Below.refl _ _ | refine Below.alloc ?_ (by first | omega | (simp; done) | (simp; omega)) _ | refine Below.setCell ?_ (by first | omega | (simp; done) | (simp; omega)) _ | refine Below.drew ?_))).mono ?_; rintro e w2 ⟨rfl, hb2⟩; have HF2 := Lib.hid (blkStay (b := w.heap.size) (o := fldO X Y W H (.slice (some ⟨b, 0, none⟩) n cap)) (by ((simp only [heap_alloc_get, heap_size_alloc, if_true]) <;> ((repeat' split) <;> first | rfl | omega))) hb2); have HM2 := Lib.hid (blkStay (b := w.heap.size + 1) (o := flObj m) (by ((simp only [heap_alloc_get, heap_size_alloc, if_true]) <;> ((repeat' split) <;> first | rfl | omega))) hb2); have HC2 := Lib.hid (blkStay (b := w.heap.size + 1 + 1) (o := flObj c) (by ((simp only [heap_alloc_get, heap_size_alloc, if_true]) <;> ((repeat' split) <;> first | rfl | omega))) hb2); have HS2 := Lib.hid (blkStay (b := w.heap.size + 1 + 1 + 1) (o := fldO 0 0 0 0 (.slice none 0 0)) (by ((simp only [heap_alloc_get, heap_size_alloc, if_true]) <;> ((repeat' split) <;> first | rfl | omega))) hb2); have hB2 : Below w.heap.size w w2 := Below.trans (by repeat (first | exact Below.refl _ _ | refine Below.alloc ?_ (by first | omega | (simp; done) | (simp; omega)) _ | refine Below.setCell ?_ (by first | omega | (simp; done) | (simp; omega)) _ | refine Below.drew ?_)) (Below.mono hb2 (by first | omega | (simp; done) | (simp; omega))); obtain ⟨cF, fF, zF⟩ := blkC HF2.out; obtain ⟨cM, fM, zM⟩ := blkC HM2.out; obtain ⟨cC, fC, zC⟩ := blkC HC2.out; clear hb2) | (go_at_call 75; refine (CS.out _ _ (heap_alloc_new _ _)).mono ?_; rintro e w3 ⟨rfl, hw3⟩; have hb23 : Below w2.heap.size w2 w3 := (by rw [← hw3]; exact (by repeat (first | exact Below.refl _ _ | refine Below.alloc ?_ (by first | omega | (simp; done) | (simp; omega)) _ | refine Below.setCell ?_ (by first | omega | (simp; done) | (simp; omega)) _ | refine Below.drew ?_))); clear hw3; obtain ⟨cS, fS, zS⟩ := blkC (blkStay HS2.out hb23); obtain ⟨cF, fF, zF⟩ := blkC (blkStay HF2.out hb23); obtain ⟨cM, fM, zM⟩ := blkC (blkStay HM2.out hb23); obtain ⟨cC, fC, zC⟩ := blkC (blkStay HC2.out hb23)))
      refine bodyPost_ret (v := .tuple #[fldV 0 0 0 0 (.slice none 0 0), .int .i64 8]) (by simp [results, Try.results39, go_sem, cS]) rfl ?_
      exact .inr (.inl ⟨HZ.out, rfl, rfl, set5_below (hB2.trans (hb23.mono hB2.size)) _ _ _ _ _ _ (by omega)⟩)
    | false =>
    have BY := Lib.hid (fun W' p (hk : Caps W' X Y W H n b cap v p m c) => byCell_any X Y W H n 99 _ (fun i => clpW (v i) m c) W' enters_Clamp1 (clamp1_any X Y W H n b cap v p m c W' hk hn2 hh hm hcc hgt) en.symm h1 hn2)
    have HC := Lib.hid hc
    have HZ := Lib.hid hz
    clear hc hn h0 hh hm hcc en hz b5
    go_enter Try.func39, Try.ntmps39
    go_wp2_with (first | (go_at_call 82; refine (CK.out _ (by repeat (first | exact Below.refl _ _ | refine Below.alloc ?_ (by first | omega | (simp; done) | (simp; omega)) _ | refine Below.setCell ?_ (by first | omega | (simp; done) | (simp; omega)) _ | refine Below.drew ?_))).mono ?_; rintro e w2 ⟨rfl, hb2⟩; have HF2 := Lib.hid (blkStay (b := w.heap.size) (o := fldO X Y W H (.slice (some ⟨b, 0, none⟩) n cap)) (by ((simp only [heap_alloc_get, heap_size_alloc, if_true]) <;> ((repeat' split) <;> first | rfl | omega))) hb2); have HM2 := Lib.hid (blkStay (b := w.heap.size + 1) (o := flObj m) (by ((simp only [heap_alloc_get, heap_size_alloc, if_true]) <;> ((repeat' split) <;> first | rfl | omega))) hb2); have HC2 := Lib.hid (blkStay (b := w.heap.size + 1 + 1) (o := flObj c) (by ((simp only [heap_alloc_get, heap_size_alloc, if_true]) <;> ((repeat' split) <;> first | rfl | omega))) hb2); have HS2 := Lib.hid (blkStay (b := w.heap.size + 1 + 1 + 1) (o := fldO 0 0 0 0 (.slice none 0 0)) (by ((simp only [heap_alloc_get, heap_size_alloc, if_true]) <;> ((repeat' split) <;> first | rfl | omega))) hb2); have hB2 : Below w.heap.size w w2 := Below.trans (by repeat (first | exact Below.refl _ _ | refine Below.alloc ?_ (by first | omega | (simp; done) | (simp; omega)) _ | refine Below.setCell ?_ (by first | omega | (simp; done) | (simp; omega)) _ | refine Below.drew ?_)) (Below.mono hb2 (by first | omega | (simp; done) | (simp; omega))); obtain ⟨cF, fF, zF⟩ := blkC HF2.out; obtain ⟨cM, fM, zM⟩ := blkC HM2.out; obtain ⟨cC, fC, zC⟩ := blkC HC2.out; clear hb2) | (go_at_call 75; refine (CS.out _ _ (heap_alloc_new _ _)).mono ?_; rintro e w3 ⟨rfl, hw3⟩; have hb23 : Below w2.heap.size w2 w3 := (by rw [← hw3]; exact (by repeat (first | exact Below.refl _ _ | refine Below.alloc ?_ (by first | omega | (simp; done) | (simp; omega)) _ | refine Below.setCell ?_ (by first | omega | (simp; done) | (simp; omega)) _ | refine Below.drew ?_))); clear hw3; obtain ⟨cS, fS, zS⟩ := blkC (blkStay HS2.out hb23); obtain ⟨cF, fF, zF⟩ := blkC (blkStay HF2.out hb23); obtain ⟨cM, fM, zM⟩ := blkC (blkStay HM2.out hb23); obtain ⟨cC, fC, zC⟩ := blkC (blkStay HC2.out hb23)))
    have K2 : Caps w2 X Y W H n b cap v w.heap.size m c := ⟨HF2.out, HM2.out, HC2.out, flAt_congr HC.out (hB2.block _ hlt)⟩
    clear cS fS zS
    refine (BY.out _ w.heap.size (K2.stay h1 hb23)).mono ?_
    intro e w4 hmade
    rcases hmade with ⟨hall, b', cap', rfl, hb', hlt', hrow, hbel⟩ | ⟨hall, rfl, hbel⟩
    · have hb24 : Below w2.heap.size w2 w4 := hb23.trans (hbel.mono hb23.size)
      obtain ⟨cS, fS, zS⟩ := blkC (blkStay HS2.out hb24)
      go_wp2
      refine bodyPost_ret (v := .tuple #[fldV X Y W H (.slice (some ⟨b', 0, none⟩) n cap'), .int .i64 0]) (by simp [results, Try.results39, go_sem, cS]) rfl ?_
      have z2 := hB2.size
      have z3 := hb23.size
      exact .inr (.inr ⟨HZ.out, rfl, .inl ⟨hall, b', cap', rfl, by omega, by rw [set5_size]; exact hlt', flAt_congr hrow (set5_heap w4 _ _ _ _ _ _ _ (by have := HS2.out; have := (blkC this).2.2; omega)), set5_below (hB2.trans (hb24.mono z2)) _ _ _ _ _ _ (by omega)⟩⟩)
    · have hb24 : Below w2.heap.size w2 w4 := hb23.trans (hbel.mono hb23.size)
      obtain ⟨cS, fS, zS⟩ := blkC (blkStay HS2.out hb24)
      go_wp2
      refine bodyPost_ret (v := .tuple #[fldV 0 0 0 0 (.slice none 0 0), .int .i64 3]) (by simp [results, Try.results39, go_sem, cS]) rfl ?_
      have z2 := hB2.size
      have z3 := hb23.size
      exact .inr (.inr ⟨HZ.out, rfl, .inr ⟨hall, rfl, set5_below (hB2.trans (hb24.mono z2)) _ _ _ _ _ _ (by omega)⟩⟩)
  · have hzb : (fldE 2 (two m c) != 0) = true := by simp [hz]
    have HZ := Lib.hid hz
    clear hc hn h0 hh en hz b5
    go_enter Try.func39, Try.ntmps39
    go_wp2_with (first | (go_at_call 82; refine (CK.out _ (by repeat (first | exact Below.refl _ _ | refine Below.alloc ?_ (by first | omega | (simp; done) | (simp; omega)) _ | refine Below.setCell ?_ (by first | omega | (simp; done) | (simp; omega)) _ | refine Below.drew ?_))).mono ?_; rintro e w2 ⟨rfl, hb2⟩; have HF2 := Lib.hid (blkStay (b := w.heap.size) (o := fldO X Y W H (.slice (some ⟨b, 0, none⟩) n cap)) (by ((simp only [heap_alloc_get, heap_size_alloc, if_true]) <;> ((repeat' split) <;> first | rfl | omega))) hb2); have HM2 := Lib.hid (blkStay (b := w.heap.size + 1) (o := flObj m) (by ((simp only [heap_alloc_get, heap_size_alloc, if_true]) <;> ((repeat' split) <;> first | rfl | omega))) hb2); have HC2 := Lib.hid (blkStay (b := w.heap.size + 1 + 1) (o := flObj c) (by ((simp only [heap_alloc_get, heap_size_alloc, if_true]) <;> ((repeat' split) <;> first | rfl | omega))) hb2); have HS2 := Lib.hid (blkStay (b := w.heap.size + 1 + 1 + 1) (o := fldO 0 0 0 0 (.slice none 0 0)) (by ((simp only [heap_alloc_get, heap_size_alloc, if_true]) <;> ((repeat' split) <;> first | rfl | omega))) hb2); have hB2 : Below w.heap.size w w2 := Below.trans (by repeat (first | exact Below.refl _ _ | refine Below.alloc ?_ (by first | omega | (simp; done) | (simp; omega)) _ | refine Below.setCell ?_ (by first | omega | (simp; done) | (simp; omega)) _ | refine Below.drew ?_)) (Below.mono hb2 (by first | omega | (simp; done) | (simp; omega))); obtain ⟨cF, fF, zF⟩ := blkC HF2.out; obtain ⟨cM, fM, zM⟩ := blkC HM2.out; obtain ⟨cC, fC, zC⟩ := blkC HC2.out; clear hb2) | (go_at_call 75; refine (CS.out _ _ (heap_alloc_new _ _)).mono ?_; rintro e w3 ⟨rfl, hw3⟩; have hb23 : Below w2.heap.size w2 w3 := (by rw [← hw3]; exact (by repeat (first | exact Below.refl _ _ | refine Below.alloc ?_ (by first | omega | (simp; done) | (simp; omega)) _ | refine Below.setCell ?_ (by first | omega | (simp; done) | (simp; omega)) _ | refine Below.drew ?_))); clear hw3; obtain ⟨cS, fS, zS⟩ := blkC (blkStay HS2.out hb23); obtain ⟨cF, fF, zF⟩ := blkC (blkStay HF2.out hb23); obtain ⟨cM, fM, zM⟩ := blkC (blkStay HM2.out hb23); obtain ⟨cC, fC, zC⟩ := blkC (blkStay HC2.out hb23)))
    refine bodyPost_ret (v := .tuple #[fldV 0 0 0 0 (.slice none 0 0), .int .i64 (fldE 2 (two m c))]) (by simp [results, Try.results39, go_sem, cS]) rfl ?_
    exact .inl ⟨HZ.out, rfl, set5_below (hB2.trans (hb23.mono hB2.size)) _ _ _ _ _ _ (by omega)⟩

end Go.Proofs.Ytihjemookgnafaa

/- The reference's Clamp. -/
namespace Go.Proofs.Ytihjemookgnafaa
open Go.RowKit Fl
set_option linter.unusedVariables false

set_option maxHeartbeats 2000000 in
theorem rclamp_any (X Y : Int) (W H n b cap : Nat) (v : Nat → Nat) (m c : Nat) (w : World) (h0 : checkR X Y W H = 0) (hn : n = W * H) (hc : FlAt w b 0 n v) (hh : allB n (fun i => hgtB (v i)) = true) (hvw : wf32 n v) (hm32 : m < 4294967296) (hc32 : c < 4294967296) :
    Calls Try.prog 40 #[fldV X Y W H (.slice (some ⟨b, 0, none⟩) n cap), .float .f32 m, .float .f32 c] w (ClPost w X Y W H n (fun i => clpW (v i) m c) (fldE 2 (two m c)) (FloatKind.f32.format.order m c == some .gt)) := by
  obtain ⟨b1, b2, b3, b4, b5, b6, b7, b8, b9⟩ := checkR_zero h0
  have en : ((W : Int) * (H : Int)) = (n : Int) := by rw [hn]; simp
  have hn2 : n ≤ 65536 := by omega
  have h1 : 1 ≤ n := by
    have := Nat.mul_pos (by omega : 0 < W) (by omega : 0 < H)
    omega
  have hlt : b < w.heap.size := World.block_lt_of_cell? w _ (hc 0 h1)
  have CS := Lib.hid (fun bb W' (hb : W'.heap[bb]? = some (.cells #[.float .f32 m, .float .f32 c] 37)) => refHeight_row bb 0 2 2 (two m c) (by omega) W' (flAt_two hb) (two_wf hm32 hc32))
  have hwf : wf32 n (fun i => clpW (v i) m c) := fun i hi => clp_lt (hvw i hi) hm32 hc32
  by_cases hz : fldE 2 (two m c) = 0
  · rw [hz] at CS
    cases hgt : (FloatKind.f32.format.order m c == some .gt) with
    | true =>
      have HZ := Lib.hid hz
      clear hc hn h0 hh en hz b5 hvw hwf
      go_enter Try.func40, Try.ntmps40
      go_wp2_with (first | (go_at_call 26; refine (CS.out _ _ (by ((simp only [heap_alloc_get, heap_size_alloc, if_true]) <;> ((repeat' split) <;> first | rfl | omega)))).mono ?_; rintro e w2 ⟨rfl, hw3⟩; have hw2 : Below w.heap.size w w2 := (by rw [← hw3]; exact (by repeat (first | exact Below.refl _ _ | refine Below.alloc ?_ (by first | omega | (simp; done) | (simp; omega)) _ | refine Below.setCell ?_ (by first | omega | (simp; done) | (simp; omega)) _ | refine Below.drew ?_))); have HF2 := Lib.hid (show w2.heap[w.heap.size]? = some (fldO X Y W H (.slice (some ⟨b, 0, none⟩) n cap)) by rw [← hw3]; ((simp only [heap_alloc_get, heap_size_alloc, if_true]) <;> ((repeat' split) <;> first | rfl | omega))); have HM2 := Lib.hid (show w2.heap[w.heap.size + 1]? = some (flObj m) by rw [← hw3]; ((simp only [heap_alloc_get, heap_size_alloc, if_true]) <;> ((repeat' split) <;> first | rfl | omega))); have HC2 := Lib.hid (show w2.heap[w.heap.size + 1 + 1]? = some (flObj c) by rw [← hw3]; ((simp only [heap_alloc_get, heap_size_alloc, if_true]) <;> ((repeat' split) <;> first | rfl | omega))); have HS2 := Lib.hid (show w2.heap[w.heap.size + 1 + 1 + 1]? = some (fldO 0 0 0 0 (.slice none 0 0)) by rw [← hw3]; ((simp only [heap_alloc_get, heap_size_alloc, if_true]) <;> ((repeat' split) <;> first | rfl | omega))); have hB2 := hw2; obtain ⟨cF, fF, zF⟩ := blkC HF2.out; obtain ⟨cM, fM, zM⟩ := blkC HM2.out; obtain ⟨cC, fC, zC⟩ := blkC HC2.out; obtain ⟨cS, fS, zS⟩ := blkC HS2.out; clear hw3))
      refine bodyPost_ret (v := .tuple #[fldV 0 0 0 0 (.slice none 0 0), .int .i64 8]) (by simp [results, Try.results40, go_sem, cS]) rfl ?_
      exact .inr (.inl ⟨HZ.out, rfl, rfl, set5_below hB2 _ _ _ _ _ _ (by omega)⟩)
    | false =>
    have BY := Lib.hid (fun W' p (hk : Caps W' X Y W H n b cap v p m c) => made_any X Y W H n 102 _ (fun i => clpW (v i) m c) W' enters_rClamp1 (rclamp1_any X Y W H n b cap v p m c W' hk hn2 (by omega) (by omega) (by omega) (by omega) (by omega) (by omega) (by omega) (by rw [hn]; exact Nat.mul_comm _ _) h1) hwf (by omega) (by omega) (by omega) (by omega) (by omega) (by omega) (by omega) (by omega) (by rw [hn]; exact Nat.mul_comm _ _))
    have HC := Lib.hid hc
    have HZ := Lib.hid hz
    clear hc hn h0 hh en hz b5 hvw hwf
    go_enter Try.func40, Try.ntmps40
    go_wp2_with (first | (go_at_call 26; refine (CS.out _ _ (by ((simp only [heap_alloc_get, heap_size_alloc, if_true]) <;> ((repeat' split) <;> first | rfl | omega)))).mono ?_; rintro e w2 ⟨rfl, hw3⟩; have hw2 : Below w.heap.size w w2 := (by rw [← hw3]; exact (by repeat (first | exact Below.refl _ _ | refine Below.alloc ?_ (by first | omega | (simp; done) | (simp; omega)) _ | refine Below.setCell ?_ (by first | omega | (simp; done) | (simp; omega)) _ | refine Below.drew ?_))); have HF2 := Lib.hid (show w2.heap[w.heap.size]? = some (fldO X Y W H (.slice (some ⟨b, 0, none⟩) n cap)) by rw [← hw3]; ((simp only [heap_alloc_get, heap_size_alloc, if_true]) <;> ((repeat' split) <;> first | rfl | omega))); have HM2 := Lib.hid (show w2.heap[w.heap.size + 1]? = some (flObj m) by rw [← hw3]; ((simp only [heap_alloc_get, heap_size_alloc, if_true]) <;> ((repeat' split) <;> first | rfl | omega))); have HC2 := Lib.hid (show w2.heap[w.heap.size + 1 + 1]? = some (flObj c) by rw [← hw3]; ((simp only [heap_alloc_get, heap_size_alloc, if_true]) <;> ((repeat' split) <;> first | rfl | omega))); have HS2 := Lib.hid (show w2.heap[w.heap.size + 1 + 1 + 1]? = some (fldO 0 0 0 0 (.slice none 0 0)) by rw [← hw3]; ((simp only [heap_alloc_get, heap_size_alloc, if_true]) <;> ((repeat' split) <;> first | rfl | omega))); have hB2 := hw2; obtain ⟨cF, fF, zF⟩ := blkC HF2.out; obtain ⟨cM, fM, zM⟩ := blkC HM2.out; obtain ⟨cC, fC, zC⟩ := blkC HC2.out; obtain ⟨cS, fS, zS⟩ := blkC HS2.out; clear hw3))
    have K2 : Caps w2 X Y W H n b cap v w.heap.size m c := ⟨HF2.out, HM2.out, HC2.out, flAt_congr HC.out (hB2.block _ hlt)⟩
    clear cS fS zS
    refine (BY.out _ w.heap.size (K2.stay h1 (by repeat (first | exact Below.refl _ _ | refine Below.alloc ?_ (by first | omega | (simp; done) | (simp; omega)) _ | refine Below.setCell ?_ (by first | omega | (simp; done) | (simp; omega)) _ | refine Below.drew ?_)))).mono ?_
    intro e w4 hmade
    rcases hmade with ⟨hall, b', cap', rfl, hb', hlt', hrow, hbel⟩ | ⟨hall, rfl, hbel⟩
    · have hb24 : Below w2.heap.size w2 w4 := Below.trans (by repeat (first | exact Below.refl _ _ | refine Below.alloc ?_ (by first | omega | (simp; done) | (simp; omega)) _ | refine Below.setCell ?_ (by first | omega | (simp; done) | (simp; omega)) _ | refine Below.drew ?_)) (Below.mono hbel (by first | exact Nat.le_refl _ | simp))
      obtain ⟨cS, fS, zS⟩ := blkC (blkStay HS2.out hb24)
      go_wp2
      refine bodyPost_ret (v := .tuple #[fldV X Y W H (.slice (some ⟨b', 0, none⟩) n cap'), .int .i64 0]) (by simp [results, Try.results40, go_sem, cS]) rfl ?_
      have z2 := hB2.size
      exact .inr (.inr ⟨HZ.out, rfl, .inl ⟨hall, b', cap', rfl, by omega, by rw [set5_size]; exact hlt', flAt_congr hrow (set5_heap w4 _ _ _ _ _ _ _ (by have := HS2.out; have := (blkC this).2.2; omega)), set5_below (hB2.trans (hb24.mono z2)) _ _ _ _ _ _ (by omega)⟩⟩)
    · have hb24 : Below w2.heap.size w2 w4 := Below.trans (by repeat (first | exact Below.refl _ _ | refine Below.alloc ?_ (by first | omega | (simp; done) | (simp; omega)) _ | refine Below.setCell ?_ (by first | omega | (simp; done) | (simp; omega)) _ | refine Below.drew ?_)) (Below.mono hbel (by first | exact Nat.le_refl _ | simp))
      obtain ⟨cS, fS, zS⟩ := blkC (blkStay HS2.out hb24)
      go_wp2
      refine bodyPost_ret (v := .tuple #[fldV 0 0 0 0 (.slice none 0 0), .int .i64 3]) (by simp [results, Try.results40, go_sem, cS]) rfl ?_
      have z2 := hB2.size
      exact .inr (.inr ⟨HZ.out, rfl, .inr ⟨hall, rfl, set5_below (hB2.trans (hb24.mono z2)) _ _ _ _ _ _ (by omega)⟩⟩)
  · have hzb : (fldE 2 (two m c) != 0) = true := by simp [hz]
    have HZ := Lib.hid hz
    clear hc hn h0 hh en hz b5 hvw hwf
    go_enter Try.func40, Try.ntmps40
    go_wp2_with (first | (go_at_call 26; refine (CS.out _ _ (by ((simp only [heap_alloc_get, heap_size_alloc, if_true]) <;> ((repeat' split) <;> first | rfl | omega)))).mono ?_; rintro e w2 ⟨rfl, hw3⟩; have hw2 : Below w.heap.size w w2 := (by rw [← hw3]; exact (by repeat (first | exact Below.refl _ _ | refine Below.alloc ?_ (by first | omega | (simp; done) | (simp; omega)) _ | refine Below.setCell ?_ (by first | omega | (simp; done) | (simp; omega)) _ | refine Below.drew ?_))); have HF2 := Lib.hid (show w2.heap[w.heap.size]? = some (fldO X Y W H (.slice (some ⟨b, 0, none⟩) n cap)) by rw [← hw3]; ((simp only [heap_alloc_get, heap_size_alloc, if_true]) <;> ((repeat' split) <;> first | rfl | omega))); have HM2 := Lib.hid (show w2.heap[w.heap.size + 1]? = some (flObj m) by rw [← hw3]; ((simp only [heap_alloc_get, heap_size_alloc, if_true]) <;> ((repeat' split) <;> first | rfl | omega))); have HC2 := Lib.hid (show w2.heap[w.heap.size + 1 + 1]? = some (flObj c) by rw [← hw3]; ((simp only [heap_alloc_get, heap_size_alloc, if_true]) <;> ((repeat' split) <;> first | rfl | omega))); have HS2 := Lib.hid (show w2.heap[w.heap.size + 1 + 1 + 1]? = some (fldO 0 0 0 0 (.slice none 0 0)) by rw [← hw3]; ((simp only [heap_alloc_get, heap_size_alloc, if_true]) <;> ((repeat' split) <;> first | rfl | omega))); have hB2 := hw2; obtain ⟨cF, fF, zF⟩ := blkC HF2.out; obtain ⟨cM, fM, zM⟩ := blkC HM2.out; obtain ⟨cC, fC, zC⟩ := blkC HC2.out; obtain ⟨cS, fS, zS⟩ := blkC HS2.out; clear hw3))
    refine bodyPost_ret (v := .tuple #[fldV 0 0 0 0 (.slice none 0 0), .int .i64 (fldE 2 (two m c))]) (by simp [results, Try.results40, go_sem, cS]) rfl ?_
    exact .inl ⟨HZ.out, rfl, set5_below hB2 _ _ _ _ _ _ (by omega)⟩

end Go.Proofs.Ytihjemookgnafaa

/- Contracts of the regions' functions, continued: the reference's Grow; Common, Inside. -/
namespace Go.Proofs.Ytihjemookgnafaa
open Go.RowKit

set_option maxHeartbeats 1000000 in
theorem refGrow_any (x y ww hh n : Int) (w : World) :
    Calls Try.prog 18 #[reg x y ww hh, .int .i64 n] w fun e w' => e = .returned (.tuple #[growR x y ww hh n, .int .i64 (growE x y ww hh n)]) ∧ Below w.heap.size w w' := by
  by_cases h0 : checkR x y ww hh = 0
  · have H := Lib.hid h0
    obtain ⟨b1, b2, b3, b4, _, b6, b7, b8, b9⟩ := checkR_zero h0
    clear h0
    have hb : (checkR x y ww hh != 0) = false := by simp [H.out]
    by_cases hn : -512 ≤ n ∧ n ≤ 512
    · obtain ⟨n1, n2⟩ := hn
      have eE : growE x y ww hh n = checkR (x - n) (y - n) (ww + 2 * n) (hh + 2 * n) := by unfold growE; rw [if_pos H.out, if_neg (by omega)]
      have HE := Lib.hid eE
      clear eE
      by_cases h2 : checkR (x - n) (y - n) (ww + 2 * n) (hh + 2 * n) = 0
      · have H2 := Lib.hid h2
        have hb2 : (checkR (x - n) (y - n) (ww + 2 * n) (hh + 2 * n) != 0) = false := by simp [H2.out]
        clear h2
        go_enter Try.func18, Try.ntmps18
        go_wp2_with (first | (go_at_call 16; refine (refCheckRegion_any _ _ _ _ _).mono ?_; rintro e w' ⟨rfl, rfl⟩) | (go_at_call 74; refine (refGrown_any _ _ _ _ _ _ (by omega) (by omega) (by omega) (by omega) (by omega) (by omega) (by omega) (by omega) (by omega) (by omega)).mono ?_; rintro e w' ⟨rfl, hb⟩; obtain ⟨hc, hf⟩ := bcell hb; have hzhb := Below.size hb; simp at hzhb; have hzhb0 : w.heap.size < w'.heap.size := (by omega); have hzhb1 : w.heap.size + 1 < w'.heap.size := (by omega); clear hzhb))
        refine bodyPost_ret (v := .tuple #[reg (x - n) (y - n) (ww + 2 * n) (hh + 2 * n), .int .i64 0]) (by simp [results, Try.results18, go_sem, hc, hzhb0, hzhb1]) rfl ⟨?_, (by repeat (first | exact Below.refl _ _ | refine Below.alloc ?_ (by first | omega | (simp; done) | (simp; omega)) _ | refine Below.setCell ?_ (by first | omega | (simp; done) | (simp; omega)) _ | refine Below.drew ?_ | refine Below.trans ?_ (Below.mono hb (by first | omega | (simp; done) | (simp; omega)))))⟩
        unfold growR; rw [HE.out, if_pos H2.out, H2.out]
      · have H2 := Lib.hid h2
        have hb2 : (checkR (x - n) (y - n) (ww + 2 * n) (hh + 2 * n) != 0) = true := by simp [h2]
        clear h2
        go_enter Try.func18, Try.ntmps18
        go_wp2_with (first | (go_at_call 16; refine (refCheckRegion_any _ _ _ _ _).mono ?_; rintro e w' ⟨rfl, rfl⟩) | (go_at_call 74; refine (refGrown_any _ _ _ _ _ _ (by omega) (by omega) (by omega) (by omega) (by omega) (by omega) (by omega) (by omega) (by omega) (by omega)).mono ?_; rintro e w' ⟨rfl, hb⟩; obtain ⟨hc, hf⟩ := bcell hb; have hzhb := Below.size hb; simp at hzhb; have hzhb0 : w.heap.size < w'.heap.size := (by omega); have hzhb1 : w.heap.size + 1 < w'.heap.size := (by omega); clear hzhb))
        refine bodyPost_ret (v := .tuple #[reg 0 0 0 0, .int .i64 (checkR (x - n) (y - n) (ww + 2 * n) (hh + 2 * n))]) (by simp [results, Try.results18, go_sem, hc, hzhb0, hzhb1]) rfl ⟨?_, (by repeat (first | exact Below.refl _ _ | refine Below.alloc ?_ (by first | omega | (simp; done) | (simp; omega)) _ | refine Below.setCell ?_ (by first | omega | (simp; done) | (simp; omega)) _ | refine Below.drew ?_ | refine Below.trans ?_ (Below.mono hb (by first | omega | (simp; done) | (simp; omega)))))⟩
        unfold growR; rw [HE.out, if_neg H2.out]
    · rcases (show n < -512 ∨ (-512 ≤ n ∧ 512 < n) by omega) with hn1 | ⟨hn1, hn2⟩
      all_goals
        go_enter Try.func18, Try.ntmps18
        go_wp2_with (first | (go_at_call 16; refine (refCheckRegion_any _ _ _ _ _).mono ?_; rintro e w' ⟨rfl, rfl⟩))
        refine bodyPost_ret (v := .tuple #[reg 0 0 0 0, .int .i64 3]) (by simp [results, Try.results18, go_sem]) rfl ⟨?_, (by repeat (first | exact Below.refl _ _ | refine Below.alloc ?_ (by first | omega | (simp; done) | (simp; omega)) _ | refine Below.setCell ?_ (by first | omega | (simp; done) | (simp; omega)) _ | refine Below.drew ?_))⟩
        have e : growE x y ww hh n = 3 := by unfold growE; rw [if_pos H.out, if_pos (by omega)]
        unfold growR; rw [e]; rfl
  · have H := Lib.hid h0
    have hb : (checkR x y ww hh != 0) = true := by simp [h0]
    clear h0
    go_enter Try.func18, Try.ntmps18
    go_wp2_with (first | (go_at_call 16; refine (refCheckRegion_any _ _ _ _ _).mono ?_; rintro e w' ⟨rfl, rfl⟩))
    refine bodyPost_ret (v := .tuple #[reg 0 0 0 0, .int .i64 (checkR x y ww hh)]) (by simp [results, Try.results18, go_sem]) rfl ⟨?_, (by repeat (first | exact Below.refl _ _ | refine Below.alloc ?_ (by first | omega | (simp; done) | (simp; omega)) _ | refine Below.setCell ?_ (by first | omega | (simp; done) | (simp; omega)) _ | refine Below.drew ?_))⟩
    have e : growE x y ww hh n = checkR x y ww hh := by unfold growE; rw [if_neg H.out]
    unfold growR; rw [e, if_neg H.out]


set_option maxHeartbeats 1000000 in
theorem landed_any (w : World) : Calls Try.prog 14 #[] w fun e w' => e = .returned (.bool true) ∧ Below w.heap.size w w' := by
  go_enter Try.func14, Try.ntmps14
  go_wp2
  go_ret
  exact ⟨rfl, (by repeat (first | exact Below.refl _ _ | refine Below.alloc ?_ (by first | omega | (simp; done) | (simp; omega)) _ | refine Below.setCell ?_ (by first | omega | (simp; done) | (simp; omega)) _ | refine Below.drew ?_))⟩

def insideB (x y w h x' y' w' h' : Int) : Bool := decide (x' ≤ x) && decide (y' ≤ y) && decide (x + w ≤ x' + w') && decide (y + h ≤ y' + h')
theorem insideB_iff {x y w h x' y' w' h' : Int} : insideB x y w h x' y' w' h' = true ↔ x' ≤ x ∧ y' ≤ y ∧ x + w ≤ x' + w' ∧ y + h ≤ y' + h' := by simp [insideB]; omega

set_option maxHeartbeats 1000000 in
theorem inside_any (x y ww hh x' y' ww' hh' : Int) (w : World) (a1 : -1073741824 ≤ x) (a2 : x ≤ 1073741824) (a3 : -1073741824 ≤ y) (a4 : y ≤ 1073741824) (a5 : 1 ≤ ww) (a6 : ww ≤ 1073741824) (a7 : 1 ≤ hh) (a8 : hh ≤ 1073741824)
    (b1 : -1073741824 ≤ x') (b2 : x' ≤ 1073741824) (b3 : -1073741824 ≤ y') (b4 : y' ≤ 1073741824) (b5 : 1 ≤ ww') (b6 : ww' ≤ 1073741824) (b7 : 1 ≤ hh') (b8 : hh' ≤ 1073741824) :
    Calls Try.prog 22 #[reg x y ww hh, reg x' y' ww' hh'] w fun e w' => e = .returned (.bool (insideB x y ww hh x' y' ww' hh')) ∧ Below w.heap.size w w' := by
  go_enter Try.func22, Try.ntmps22
  go_wp2
  all_goals go_ret
  all_goals refine ⟨ret_bool ?_, (by repeat (first | exact Below.refl _ _ | refine Below.alloc ?_ (by first | omega | (simp; done) | (simp; omega)) _ | refine Below.setCell ?_ (by first | omega | (simp; done) | (simp; omega)) _ | refine Below.drew ?_))⟩
  all_goals simp [insideB, *]
  all_goals omega

end Go.Proofs.Ytihjemookgnafaa

/- CellsScale: Scale and Clamp answer as the references do, for every field that fit makes, and any two singles. -/
namespace Go.Proofs.Ytihjemookgnafaa
open Go.RowKit Fl
set_option linter.unusedVariables false

/-- The error ahead of Clamp's making. -/
def clpE (er : Int) (gt : Bool) : Int := if er = 0 then (if gt then 8 else 0) else er
theorem clamp_post {w w' : World} {X Y W H : Int} {n : Nat} {f : Nat → Nat} {er : Int} {gt : Bool} {e : Ending} (h : ClPost w X Y W H n f er gt e w') : ScPost w X Y W H n f (clpE er gt) e w' := by
  rcases h with ⟨h1, h2, h3⟩ | ⟨h1, h2, h3, h4⟩ | ⟨h1, h2, h3⟩
  · unfold clpE; rw [if_neg h1]; exact .inl ⟨h1, h2, h3⟩
  · unfold clpE; rw [if_pos h1, h2]; exact .inl ⟨by simp, h3, h4⟩
  · unfold clpE; rw [if_pos h1, h2]; exact .inr ⟨rfl, h3⟩

theorem al_below (w : World) (o : Obj) : Below w.heap.size w (w.alloc o) := (Below.refl _ _).alloc (Nat.le_refl _) o

set_option maxHeartbeats 4000000 in
theorem cellsScale_any (X0 Y0 W0 H0 : Int) (sl : Value) (m c : Nat) (w : World) (hm : m < 4294967296) (hc : c < 4294967296)
    (hfit : ∀ W', Below w.heap.size w W' → Calls Try.prog 24 #[fldV X0 Y0 W0 H0 sl] W' (FitPost W')) :
    Calls Try.prog 5 #[fldV X0 Y0 W0 H0 sl, .float .f32 m, .float .f32 c] w fun e w' => e = .returned (.bool true) ∧ Below w.heap.size w w' := by
  have HF := Lib.hid hfit
  clear hfit
  go_enter Try.func5, Try.ntmps5
  go_wp2_with (first | (go_at_call 14; refine (landed_any _).mono ?_; rintro e w1 ⟨rfl, hb1⟩; have HA1 := Lib.hid (blkStay (b := w.heap.size) (o := fldO X0 Y0 W0 H0 sl) (heap_alloc_new w _) hb1); have hB1 : Below w.heap.size w w1 := Below.trans (by repeat (first | exact Below.refl _ _ | refine Below.alloc ?_ (by first | omega | (simp; done) | (simp; omega)) _ | refine Below.setCell ?_ (by first | omega | (simp; done) | (simp; omega)) _ | refine Below.drew ?_)) (Below.mono hb1 (by first | omega | (simp; done) | (simp; omega))); obtain ⟨cA, fA, zA⟩ := blkC HA1.out; clear hb1))
  refine (HF.out w1 hB1).mono ?_
  rintro e w2 ⟨X, Y, W', H', b, n, rfl, x1, x2, y1, y2, u1, u2, h1, h2, hn, hn1, hn2, hlo, hrow, hb2⟩
  obtain ⟨W, rfl⟩ : ∃ W : Nat, W' = W := ⟨W'.toNat, by omega⟩
  obtain ⟨H, rfl⟩ : ∃ H : Nat, H' = H := ⟨H'.toNat, by omega⟩
  obtain ⟨v, fv, wv, hv, bv⟩ := fit_fn hrow
  have h0 := fit_check x1 x2 y1 y2 u1 u2 h1 h2 hn hn2
  have hnn : n = W * H := by
    have : (n : Int) = ((W * H : Nat) : Int) := by rw [hn]; simp
    omega
  have HA2 := Lib.hid (blkStay HA1.out hb2)
  have hB2 : Below w.heap.size w w2 := hB1.trans (hb2.mono hB1.size)
  obtain ⟨cA, fA, zA⟩ := blkC HA2.out
  have S1 := Lib.hid (fun W' (hf : FlAt W' b 0 n v) => scale_any X Y W H n b n v m c W' h0 hnn hf hv)
  have S2 := Lib.hid (fun W' (hf : FlAt W' b 0 n v) => rscale_any X Y W H n b n v m c W' h0 hnn hf hv wv hm hc)
  have C1 := Lib.hid (fun W' (hf : FlAt W' b 0 n v) => clamp_any X Y W H n b n v m c W' h0 hnn hf hv)
  have C2 := Lib.hid (fun W' (hf : FlAt W' b 0 n v) => rclamp_any X Y W H n b n v m c W' h0 hnn hf hv wv hm hc)
  clear x1 x2 y1 y2 u1 u2 h1 h2 hn h0 hnn hrow hv wv
  have hbp : b ≠ w.heap.size := by have := hB1.size; omega
  have HA3 := Lib.hid (set5_self (.int .i64 X) (.int .i64 Y) (.int .i64 W) (.int .i64 H) (.slice (some ⟨b, 0, none⟩) n n) HA2.out)
  have F3 := Lib.hid (flAt_congr fv (set5_heap w2 w.heap.size b (.int .i64 X) (.int .i64 Y) (.int .i64 W) (.int .i64 H) (.slice (some ⟨b, 0, none⟩) n n) hbp))
  have hB3 := set5_below hB2 w.heap.size (.int .i64 X) (.int .i64 Y) (.int .i64 W) (.int .i64 H) (.slice (some ⟨b, 0, none⟩) n n) (Nat.le_refl _)
  clear hb2
  go_wp2_with fail
  refine (S1.out _ F3.out).mono ?_
  intro e w4 hp
  obtain ⟨x1, y1, u1, h1, p1, l1, q1, k1, rfl, r1, hb4⟩ := made_res hp
  have hx := set5_size w2 w.heap.size (.int .i64 X) (.int .i64 Y) (.int .i64 W) (.int .i64 H) (.slice (some ⟨b, 0, none⟩) n n)
  have F4 := Lib.hid (flAt_congr F3.out (hb4.block b (by rw [hx]; exact bv)))
  have HA4 := Lib.hid (blkStay HA3.out hb4)
  have hB4 := hB3.trans (hb4.mono hB3.size)
  have bv4 : b < w4.heap.size := by have := hb4.size; rw [hx] at this; omega
  clear hp
  rw [hx] at r1
  clear hb4 HA3 F3 hB3 hx cA fA zA HA2 hB2 hlo fv bv
  obtain ⟨cA, fA, zA⟩ := blkC HA4.out
  -- the reference's Scale
  have hb5 := al_below w4 (fldO x1 y1 u1 h1 (.slice p1 l1 q1))
  have F5 := Lib.hid (flAt_congr F4.out (heap_alloc_old w4 (fldO x1 y1 u1 h1 (.slice p1 l1 q1)) bv4))
  have HA5 := Lib.hid ((heap_alloc_old w4 (fldO x1 y1 u1 h1 (.slice p1 l1 q1)) zA).trans HA4.out)
  have HQ5 := Lib.hid (heap_alloc_new w4 (fldO x1 y1 u1 h1 (.slice p1 l1 q1)))
  have R5 := Lib.hid (r1.stay hb5)
  go_wp2_with fail
  refine (S2.out _ F5.out).mono ?_
  intro e w6 hp
  obtain ⟨x2, y2, u2, h2, p2, l2, q2, k2, rfl, r2, hb6⟩ := made_res hp
  have hb46 := hb5.trans (hb6.mono hb5.size)
  have F6 := Lib.hid (flAt_congr F5.out (hb6.block b (by have := hb5.size; omega)))
  have HA6 := Lib.hid (blkStay HA5.out hb6)
  have HQ6 := Lib.hid (blkStay HQ5.out hb6)
  have R6 := Lib.hid (R5.out.stay hb6)
  have hB6 := hB4.trans (hb46.mono hB4.size)
  have bv6 : b < w6.heap.size := by have := hb46.size; omega
  clear r1 R5 HQ5 HA5 F5 hb5 hb46 hp F4 HA4 hb6 cA fA
  obtain ⟨cA, fA, zA6⟩ := blkC HA6.out
  obtain ⟨cQ, fQ, zQ6⟩ := blkC HQ6.out
  -- same
  have hb7 := al_below w6 (fldO x2 y2 u2 h2 (.slice p2 l2 q2))
  have F7 := Lib.hid (flAt_congr F6.out (heap_alloc_old w6 (fldO x2 y2 u2 h2 (.slice p2 l2 q2)) bv6))
  have HA7 := Lib.hid ((heap_alloc_old w6 (fldO x2 y2 u2 h2 (.slice p2 l2 q2)) zA6).trans HA6.out)
  have HQ7 := Lib.hid ((heap_alloc_old w6 (fldO x2 y2 u2 h2 (.slice p2 l2 q2)) zQ6).trans HQ6.out)
  have HR7 := Lib.hid (heap_alloc_new w6 (fldO x2 y2 u2 h2 (.slice p2 l2 q2)))
  have R7 := Lib.hid (R6.out.stay hb7)
  have T7 := Lib.hid (r2.stay hb7)
  go_wp2_with fail
  refine (same_res hn1 (by omega) R7.out T7.out).mono ?_
  rintro e w8 ⟨rfl, hb8⟩
  have hb68 := hb7.trans (hb8.mono hb7.size)
  have F8 := Lib.hid (flAt_congr F7.out (hb8.block b (by have := hb7.size; omega)))
  have HA8 := Lib.hid (blkStay HA7.out hb8)
  have HQ8 := Lib.hid (blkStay HQ7.out hb8)
  have HR8 := Lib.hid (blkStay HR7.out hb8)
  have hB8 := hB6.trans (hb68.mono hB6.size)
  have bv8 : b < w8.heap.size := by have := hb68.size; omega
  clear R6 r2 R7 T7 HR7 HQ7 HA7 F7 hb7 hb8 hb68 HQ6 HA6 F6 cA fA cQ fQ
  obtain ⟨cA, fA, zA8⟩ := blkC HA8.out
  obtain ⟨cQ, fQ, zQ8⟩ := blkC HQ8.out
  obtain ⟨cR, fR, zR8⟩ := blkC HR8.out
  go_wp2_with fail
  refine (C1.out _ F8.out).mono ?_
  intro e w9 hp
  obtain ⟨x3, y3, u3, h3, p3, l3, q3, k3, rfl, r3, hb9⟩ := made_res (clamp_post hp)
  have F9 := Lib.hid (flAt_congr F8.out (hb9.block b bv8))
  have HA9 := Lib.hid (blkStay HA8.out hb9)
  have HQ9 := Lib.hid (blkStay HQ8.out hb9)
  have HR9 := Lib.hid (blkStay HR8.out hb9)
  have hB9 := hB8.trans (hb9.mono hB8.size)
  have bv9 : b < w9.heap.size := by have := hb9.size; omega
  clear cA fA cQ fQ cR fR hp F8 HA8 HQ8 HR8
  obtain ⟨cA, fA, zA9⟩ := blkC HA9.out
  obtain ⟨cQ, fQ, zQ9⟩ := blkC HQ9.out
  obtain ⟨cR, fR, zR9⟩ := blkC HR9.out
  -- the reference's Clamp
  have hx := set5_size w9 w4.heap.size (.int .i64 x3) (.int .i64 y3) (.int .i64 u3) (.int .i64 h3) (.slice p3 l3 q3)
  have F10 := Lib.hid (flAt_congr F9.out (set5_heap w9 w4.heap.size b (.int .i64 x3) (.int .i64 y3) (.int .i64 u3) (.int .i64 h3) (.slice p3 l3 q3) (by omega)))
  have HQ10 := Lib.hid (set5_self (.int .i64 x3) (.int .i64 y3) (.int .i64 u3) (.int .i64 h3) (.slice p3 l3 q3) HQ9.out)
  have HR10 := Lib.hid ((set5_heap w9 w4.heap.size w6.heap.size (.int .i64 x3) (.int .i64 y3) (.int .i64 u3) (.int .i64 h3) (.slice p3 l3 q3) (by omega)).trans HR9.out)
  have R10 := Lib.hid (r3.heap (w' := set5 w9 w4.heap.size (.int .i64 x3) (.int .i64 y3) (.int .i64 u3) (.int .i64 h3) (.slice p3 l3 q3)) (p := w4.heap.size) (by rw [hx]; exact Nat.le_refl _) (by omega) (fun k hk _ => set5_heap w9 w4.heap.size k (.int .i64 x3) (.int .i64 y3) (.int .i64 u3) (.int .i64 h3) (.slice p3 l3 q3) hk))
  have hB10 := set5_below hB9 w4.heap.size (.int .i64 x3) (.int .i64 y3) (.int .i64 u3) (.int .i64 h3) (.slice p3 l3 q3) (by omega)
  go_wp2_with fail
  refine (C2.out _ F10.out).mono ?_
  intro e w11 hp
  obtain ⟨x4, y4, u4, h4, p4, l4, q4, k4, rfl, r4, hb11⟩ := made_res (clamp_post hp)
  rw [hx] at r4
  have HQ11 := Lib.hid (blkStay HQ10.out hb11)
  have HR11 := Lib.hid (blkStay HR10.out hb11)
  have R11 := Lib.hid (R10.out.stay hb11)
  have hB11 := hB10.trans (hb11.mono hB10.size)
  have z11 : w9.heap.size ≤ w11.heap.size := by have := hb11.size; rw [hx] at this; exact this
  have z98 := hb9.size
  clear cA fA cQ fQ cR fR hp F10 HQ10 HR10 R10 r3 hb11 hb9
  obtain ⟨cQ, fQ, zQ11⟩ := blkC HQ11.out
  obtain ⟨cR, fR, zR11⟩ := blkC HR11.out
  have hx2 := set5_size w11 w6.heap.size (.int .i64 x4) (.int .i64 y4) (.int .i64 u4) (.int .i64 h4) (.slice p4 l4 q4)
  have R12 := Lib.hid (R11.out.heap (w' := set5 w11 w6.heap.size (.int .i64 x4) (.int .i64 y4) (.int .i64 u4) (.int .i64 h4) (.slice p4 l4 q4)) (p := w6.heap.size) (by rw [hx2]; exact Nat.le_refl _) (by omega) (fun k hk _ => set5_heap w11 w6.heap.size k (.int .i64 x4) (.int .i64 y4) (.int .i64 u4) (.int .i64 h4) (.slice p4 l4 q4) hk))
  have T12 := Lib.hid (r4.heap (w' := set5 w11 w6.heap.size (.int .i64 x4) (.int .i64 y4) (.int .i64 u4) (.int .i64 h4) (.slice p4 l4 q4)) (p := w6.heap.size) (by rw [hx2]; exact Nat.le_refl _) (by omega) (fun k hk _ => set5_heap w11 w6.heap.size k (.int .i64 x4) (.int .i64 y4) (.int .i64 u4) (.int .i64 h4) (.slice p4 l4 q4) hk))
  have hB12 := set5_below hB11 w6.heap.size (.int .i64 x4) (.int .i64 y4) (.int .i64 u4) (.int .i64 h4) (.slice p4 l4 q4) (by omega)
  go_wp2_with fail
  refine (same_res hn1 (by omega) R12.out T12.out).mono ?_
  rintro e w13 ⟨rfl, hb13⟩
  have hB13 := hB12.trans (hb13.mono hB12.size)
  clear hb13 hB12
  go_wp2
  go_ret
  exact ⟨rfl, hB13⟩

end Go.Proofs.Ytihjemookgnafaa
