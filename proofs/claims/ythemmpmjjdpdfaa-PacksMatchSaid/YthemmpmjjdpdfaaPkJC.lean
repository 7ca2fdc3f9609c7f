/- Lemmas and contracts for the proof that the last text of this claim holds. -/
import Derived.Test.YthemmpmjjdpdfaaPkJB
import Derived.Lib.SlBytesConst
import Derived.ArgAppend
import Derived.Laws.Strings
import Derived.Shelf.Strings.Builder1
import Derived.ProofKit
import Derived.OpenShut
import Derived.Lib.SmallJoins
import Derived.Laws.Cover2
import Derived.Deep.Slices

/- Contract: Encode in the format of whole singles; the law's writes. -/
namespace Go.Proofs.Ythemmpmjjdpdfaa
open Go.RowKit Fl Go.Maps Go.ChangeMaps
set_option linter.unusedVariables false

/-- Bytes as a text. -/
def txB (L : List Int) : ByteArray := ⟨(L.map fun x => UInt8.ofNat x.toNat).toArray⟩
theorem txB_size (L : List Int) : (txB L).size = L.length := by simp [txB, ByteArray.size]
def isB (L : List Int) : Prop := ∀ x ∈ L, 0 ≤ x ∧ x < 256
theorem byteL_isB (n : Nat) : ∀ k, isB (byteL n k)
  | 0 => fun x hx => by cases hx
  | k + 1 => fun x hx => by
    rcases List.mem_cons.1 hx with rfl | hx
    · omega
    · exact byteL_isB n k x hx
theorem fullL_isB (v : Nat → Nat) : ∀ k, isB (fullL v k)
  | 0 => fun x hx => by cases hx
  | k + 1 => fun x hx => by
    rcases List.mem_append.1 hx with hx | hx
    · exact fullL_isB v k x hx
    · exact byteL_isB _ _ x hx
theorem isB_app {L M : List Int} (h : isB L) (h2 : isB M) : isB (L ++ M) := fun x hx => by
  rcases List.mem_append.1 hx with hx | hx
  · exact h x hx
  · exact h2 x hx

/-- The text of bytes of one's own. -/
theorem text_of {w : World} {base g cap : Nat} {L : List Int} (h : w.ownsRow base 5 1 (.slice (some ⟨g, 0, none⟩) L.length cap) L.length (btL L)) (hB : isB L) :
    (convert 198 9 (.slice (some ⟨g, 0, none⟩) L.length cap)).run Try.prog w = .ok (.string (txB L)) w := by
  have hc := h.cells (g := g) rfl
  have := run_convert_bytes_back (P := Try.prog) w 198 9 5 ⟨g, 0, none⟩ cap (L.map fun x => UInt8.ofNat x.toNat) Try.underlying198 Try.underlying5 Try.underlying9 (fun j hj => by
    rw [List.length_map] at hj
    refine hc j _ ?_
    have hm := hB L[j] (List.getElem_mem hj)
    simp [btL, List.getElem?_eq_getElem hj]
    omega)
  rw [List.length_map] at this
  exact this

/-- A number modulo 2 ^ 32. -/
def u32N (x : Int) : Nat := (x % 4294967296).toNat
theorem u32N_lt (x : Int) : u32N x < 4294967296 := by unfold u32N; omega
theorem u32N_eq (x : Int) : (u32N x : Int) = x % 4294967296 := by unfold u32N; omega

/-- The four numbers of a region. -/
def rgI (X Y W H : Int) (k : Nat) : Int := if k = 0 then X else if k = 1 then Y else if k = 2 then W else H
/-- What stands ahead of the values, when k numbers are written. -/
def headL (fmt X Y W H : Int) : Nat → List Int
  | 0 => [84, 65, 82, 78, fmt]
  | k + 1 => headL fmt X Y W H k ++ byteL (u32N (rgI X Y W H k)) 4
theorem headL_len (fmt X Y W H : Int) : ∀ k, (headL fmt X Y W H k).length = 5 + 4 * k
  | 0 => rfl
  | k + 1 => by simp [headL, headL_len fmt X Y W H k, byteL_len]; omega

/-- The text of a field in whole singles. -/
def encL (X Y W H : Int) (v : Nat → Nat) (n : Nat) : List Int := headL 1 X Y W H 4 ++ fullL v n
def encT (X Y W H : Int) (v : Nat → Nat) (n : Nat) : ByteArray := txB (encL X Y W H v n ++ byteL (u32N (sumI (txB (encL X Y W H v n)))) 4)

theorem headL_isB (fmt X Y W H : Int) (hf : 0 ≤ fmt ∧ fmt < 256) : ∀ k, isB (headL fmt X Y W H k)
  | 0 => fun x hx => by
    have : x = 84 ∨ x = 65 ∨ x = 82 ∨ x = 78 ∨ x = fmt := by simpa [headL] using hx
    omega
  | k + 1 => isB_app (headL_isB fmt X Y W H hf k) (byteL_isB _ 4)
theorem encL_isB (X Y W H : Int) (v : Nat → Nat) (n : Nat) : isB (encL X Y W H v n) := isB_app (headL_isB 1 X Y W H (by omega) 4) (fullL_isB v n)
theorem tx_of {w : World} {base g cap : Nat} {L M : List Int} (h : w.ownsRow base 5 1 (.slice (some ⟨g, 0, none⟩) (L.length + M.length) cap) (L ++ M).length (btL (L ++ M))) (h1 : isB L) (h2 : isB M) :
    (convert 198 9 (.slice (some ⟨g, 0, none⟩) (L.length + M.length) cap)).run Try.prog w = .ok (.string (txB (L ++ M))) w := by
  have := text_of (L := L ++ M) (w := w) (base := base) (g := g) (cap := cap) (by have h' := h; rw [List.length_append] at h' ⊢; exact h') (isB_app h1 h2)
  rwa [List.length_append] at this

set_option maxHeartbeats 400000 in
set_option maxRecDepth 100000 in
theorem checkScale_full (w : World) (p q r : Nat) :
    Calls Try.prog 170 #[.agg #[.bool false, .func (.func 199) #[] #[pt p, pt q, pt r], .func (.func 200) #[] #[pt p, pt r]], scV 0 0 0] w fun e w' => e = .returned (.int .i64 0) ∧ Below w.heap.size w w' := by
  have NE : ∀ W : World, (binOp .neq 101 (scV 0 0 0) (scV 0 0 0)).run Try.prog W = .ok (.bool false) W := fun W => by kernel_rfl
  go_enter Try.func170, Try.ntmps170
  go_wp2
  go_ret
  exact ⟨rfl, (by repeat (first | exact Below.refl _ _ | refine Below.alloc ?_ (by first | omega | (simp; done) | (simp; omega)) _ | refine Below.setCell ?_ (by first | omega | (simp; done) | (simp; omega)) _ | refine Below.drew ?_))⟩

theorem check_okay (X Y : Int) (W H n b off cap : Nat) (v : Nat → Nat) (w : World) (hr : FlAt w b off n v) (hh : ∀ i, i < n → hgtB (v i) = true) (h0 : checkR X Y W H = 0) (hn : n = W * H) :
    Calls Try.prog 85 #[fldV X Y W H (.slice (some ⟨b, off, none⟩) n cap)] w fun e w' => e = .returned (.int .i64 0) ∧ Below w.heap.size w w' := by
  obtain ⟨b1, b2, b3, b4, b5, _⟩ := checkR_zero h0
  have hn2 : (n : Int) = W * H := by rw [hn]; simp
  have e0 : fldE n v = 0 := fldE_zero.2 (allB_iff.2 hh)
  have := checkA_any X Y W H (some ⟨b, off, none⟩) n cap 0 w (fun W' hb => by
    have := CheckHeights_row b off cap n v (by omega) W' (flAt_stay hr hb)
    rwa [e0] at this)
  rwa [show fldChk X Y W H n 0 = 0 by unfold fldChk; rw [if_neg (by simp [h0]), if_neg (by simp [hn2])]] at this

theorem BtAt.on {w0 wr w6 : World} {base g' cap' : Nat} {o0 : Option Nat} {L : List Int} {ov : Value} {B : List Int} (h : BtAt w0 base o0 L ov wr)
    (hgrow : wr.grownBy w6 ov.ownBlock) (hat : ov.ownBlock = some g' ∨ g' = wr.heap.size) (hown : w6.ownsRow base 5 1 (.slice (some ⟨g', 0, none⟩) (L.length + B.length) cap') (L.length + B.length) (btL L ++ btL B)) :
    BtAt w0 base o0 (L ++ B) (.slice (some ⟨g', 0, none⟩) (L.length + B.length) cap') w6 := by
  refine ⟨?_, ?_, ?_, ?_⟩
  · rw [List.length_append, btL_app]; exact hown
  · cases hv : ov.ownBlock with
    | none =>
      rw [hv] at hgrow
      exact ⟨hgrow.os.trans h.gr.os, hgrow.tape.trans h.gr.tape, hgrow.output.trans h.gr.output, Nat.le_trans h.gr.size hgrow.size, fun i hi hne => (hgrow.block i (Nat.lt_of_lt_of_le hi h.gr.size) (by simp)).trans (h.gr.block i hi hne)⟩
    | some g =>
      rw [hv] at hgrow
      refine grownBy_on h.gr ?_ hgrow
      rcases h.seat with e | ⟨q, e, hq⟩
      · exact .inl (e.symm.trans hv)
      · rw [hv] at e; have := Option.some.inj e; exact .inr (by omega)
  · rcases hat with e | e
    · rcases h.seat with s | ⟨q, s, hq⟩
      · exact .inl (by rw [← s, e]; rfl)
      · exact .inr ⟨g', rfl, by rw [e] at s; have := Option.some.inj s; omega⟩
    · exact .inr ⟨g', rfl, by have := h.gr.size; omega⟩
  · have := hgrow.size
    have := h.size
    omega

theorem ownsRow_base {w : World} {b B : Nat} {e : TypeId} {size : Nat} {v : Value} {n : Nat} {xs : List Value} (h : w.ownsRow B e size v n xs) (hb : b ≤ B) : w.ownsRow b e size v n xs := by
  rcases h.2 with h2 | ⟨g, cap, cur, h2, h3, h4⟩
  · exact ⟨h.1, .inl h2⟩
  · exact ⟨h.1, .inr ⟨g, cap, cur, h2, Nat.le_trans hb h3, h4⟩⟩
/-- The mark's block: it is no longer to be written. -/
abbrev tarnO : Obj := .cells #[.int .u8 84, .int .u8 65, .int .u8 82, .int .u8 78] 5 (4, 5)
theorem tarn_cells (w : World) (o : Obj) (j : Nat) (u : Value) (h : (btL [84, 65, 82, 78])[j]? = some u) : ((w.alloc tarnO).alloc o).cell? ((⟨w.heap.size, 0, none⟩ : Addr).add j) = some u := by
  rw [Go.WideShapes.add_plain]
  have hb : ((w.alloc tarnO).alloc o).heap[w.heap.size]? = some tarnO := by (first | (rw [heap_alloc_get, if_pos rfl]; done) | ((simp only [heap_alloc_get, heap_size_alloc, if_true]) <;> ((repeat' split) <;> first | rfl | omega)))
  simp only [World.cell?, hb, Nat.zero_add]
  rw [if_neg (by simp), show (#[.int .u8 84, .int .u8 65, .int .u8 82, .int .u8 78] : Array Value) = (btL [84, 65, 82, 78]).toArray from rfl, List.getElem?_toArray]
  exact h
theorem index_rg (X Y W H : Int) (k : Nat) (hk : k < 4) (w : World) : (Instr.index 236 (.agg #[.int .i64 X, .int .i64 Y, .int .i64 W, .int .i64 H]) (.int .i64 (k : Int))).run Try.prog w = .ok (.int .i64 (rgI X Y W H k)) w := by
  have : k = 0 ∨ k = 1 ∨ k = 2 ∨ k = 3 := by omega
  rcases this with rfl | rfl | rfl | rfl
  · show _ = Result.ok (Value.int .i64 X) w; kernel_rfl
  · show _ = Result.ok (Value.int .i64 Y) w; kernel_rfl
  · show _ = Result.ok (Value.int .i64 W) w; kernel_rfl
  · show _ = Result.ok (Value.int .i64 H) w; kernel_rfl
theorem start_at {w5 w6 w7 : World} {v : Value} {L : List Int} (h : w7.ownsRow w6.heap.size 5 1 v L.length (btL L)) (hz : w5.heap.size ≤ w6.heap.size) (hg : w6.grownBy w7 none) : BtAt w7 w5.heap.size v.ownBlock L v w7 :=
  ⟨ownsRow_base h hz, ⟨rfl, rfl, rfl, Nat.le_refl _, fun _ _ _ => rfl⟩, .inl rfl, Nat.le_trans hz hg.size⟩

set_option maxHeartbeats 4000000 in
set_option maxRecDepth 100000 in
theorem encFull_any (X Y : Int) (W H n b off cap : Nat) (v : Nat → Nat) (w : World) (hr : FlAt w b off n v) (hw : wf32 n v) (hh : ∀ i, i < n → hgtB (v i) = true) (h0 : checkR X Y W H = 0) (hn : n = W * H) :
    Calls Try.prog 128 #[fldV X Y W H (.slice (some ⟨b, off, none⟩) n cap), .int .i64 1, scV 0 0 0] w fun e w' => e = .returned (.tuple #[.string (encT X Y W H v n), .int .i64 0]) ∧ Below w.heap.size w w' := by
  obtain ⟨b1, b2, b3, b4, b5, b6, b7, b8, b9⟩ := checkR_zero h0
  have n1 : 1 ≤ n := by rw [hn]; exact Nat.mul_pos (by omega) (by omega)
  have n2 : n ≤ 65536 := by have : (n : Int) = W * H := by rw [hn]; simp
                            omega
  have CK := Lib.hid (fun W' (hB : Below w.heap.size w W') => check_okay X Y W H n b off cap v W' (flAt_stay hr hB) hh h0 hn)
  have LY := Lib.hid layouts_any
  have CD := Lib.hid (fun (p q r : Nat) (V : Value) W' (hV : CodV W' 4 189 190 V p q r) (hB : Below w.heap.size w W') => codes_any b off n cap v 0 0 0 p q r V W' hV (flAt_stay hr hB) hw (fun i hi => hgt_fin (hh i hi)) n1 n2)
  have CS := Lib.hid checkScale_full
  have B1 := Lib.hid (show Below w.heap.size w ((w.alloc (fldO X Y W H (.slice (some ⟨b, off, none⟩) n cap))).alloc (.cells #[.float .f32 0, .float .f32 0, .int .i64 0] 101)) from (by repeat (first | exact Below.refl _ _ | refine Below.alloc ?_ (by first | omega | (simp; done) | (simp; omega)) _ | refine Below.setCell ?_ (by first | omega | (simp; done) | (simp; omega)) _ | refine Below.drew ?_)))
  have HF1 := Lib.hid (show ((w.alloc (fldO X Y W H (.slice (some ⟨b, off, none⟩) n cap))).alloc (.cells #[.float .f32 0, .float .f32 0, .int .i64 0] 101)).heap[w.heap.size]? = some (fldO X Y W H (.slice (some ⟨b, off, none⟩) n cap)) by (first | (rw [heap_alloc_get, if_pos rfl]; done) | ((simp only [heap_alloc_get, heap_size_alloc, if_true]) <;> ((repeat' split) <;> first | rfl | omega))))
  have HS1 := Lib.hid (show ((w.alloc (fldO X Y W H (.slice (some ⟨b, off, none⟩) n cap))).alloc (.cells #[.float .f32 0, .float .f32 0, .int .i64 0] 101)).heap[w.heap.size + 1]? = some (.cells #[.float .f32 0, .float .f32 0, .int .i64 0] 101) by (first | (rw [heap_alloc_get, if_pos rfl]; done) | ((simp only [heap_alloc_get, heap_size_alloc, if_true]) <;> ((repeat' split) <;> first | rfl | omega))))
  have N1 := Lib.hid n1
  have N2 := Lib.hid n2
  clear hr hw hh h0 hn b1 b2 b3 b4 b5 b6 b7 b8 b9 n1 n2
  have hinfo : (Try.prog.info? 5).map (fun i => (i.zero, i.size, i.bytes)) = some (some (.int .u8 0), 1, 1) := by kernel_rfl
  obtain ⟨ti, hi, hz0, hz1, hz2⟩ := info_parts hinfo
  have HTI := Lib.hid hi
  clear hinfo hi
  have RS := fun (w : World) (a : Addr) (m : Mode) f x y => run_store_func (P := Try.prog) (w := w) (a := a) (m := m) f x y
  have KC := fun (w : World) (C : Array Value) (n c : Nat) => Lib.run_convert_bytes_const (P := Try.prog) w 198 5 C n c Try.underlying198 Try.underlying5
  go_enter Try.func128, Try.ntmps128
  go_upto_region 1 with fail
  generalize (w.alloc (fldO X Y W H (.slice (some ⟨b, off, none⟩) n cap))).alloc (.cells #[.float .f32 0, .float .f32 0, .int .i64 0] 101) = w1 at *
  obtain ⟨cF, fF, zF⟩ := blkC HF1.out
  go_wp2_with (first
    | (go_at_call 85; refine (CK.out _ B1.out).mono ?_; rintro e w2 ⟨rfl, hb2⟩; have B2 := Lib.hid (B1.out.trans (hb2.mono B1.out.size)); have HF2 := Lib.hid (blkStay HF1.out hb2); have HS2 := Lib.hid (blkStay HS1.out hb2); clear hb2 cF fF zF)
    | (go_at_call 169; refine (LY.out _).mono ?_; rintro e w3 ⟨mb, V, p, q, r, rfl, hV, hp, hq, hr, hb3, LK⟩; obtain rfl := hV.val; have HV := Lib.hid hV; have B3 := Lib.hid (B2.out.trans (hb3.mono B2.out.size)); have HF3 := Lib.hid (blkStay HF2.out hb3); have HS3 := Lib.hid (blkStay HS2.out hb3); clear hV hp hq hr hb3; obtain ⟨cS, fS, zS⟩ := blkC HS3.out)
    | (go_at_call 170; (with_reducible refine (CS.out _ p q r).mono ?_); rintro e w4 ⟨rfl, hb4⟩; clear cS fS zS LK; have HL4 := Lib.hid (blkStay (b := w3.heap.size) (o := .cells #[.bool false, .func (.func 199) #[] #[pt p, pt q, pt r], .func (.func 200) #[] #[pt p, pt r]] 231) (by (first | (rw [heap_alloc_get, if_pos rfl]; done) | ((simp only [heap_alloc_get, heap_size_alloc, if_true]) <;> ((repeat' split) <;> first | rfl | omega)))) hb4); have hb4' : Below w3.heap.size w3 w4 := (((Below.refl _ _).alloc (Nat.le_refl _) _).trans (hb4.mono (by simp))); have B4 := Lib.hid (B3.out.trans (hb4'.mono B3.out.size)); have HF4 := Lib.hid (blkStay HF3.out hb4'); have HS4 := Lib.hid (blkStay HS3.out hb4'); have HV4 := Lib.hid (HV.out.stay hb4'); clear hb4 hb4'; obtain ⟨cS, fS, zS⟩ := blkC HS4.out; obtain ⟨cF, fF, zF⟩ := blkC HF4.out; obtain ⟨cL, fL, zL⟩ := blkC HL4.out)
    | (go_at_call 199; (with_reducible refine (CD.out p q r _ _ HV4.out B4.out).mono ?_); rintro e w5 ⟨ov, rfl, own5, hb5⟩; clear cF fF zF cS fS zS cL fL zL; have OW5 := Lib.hid own5; have HF5 := Lib.hid (blkStay HF4.out hb5); have B5 := Lib.hid (B4.out.trans (hb5.mono B4.out.size)); have B45 := Lib.hid hb5; obtain ⟨cF, fF, zF⟩ := blkC HF5.out; clear own5 hb5; obtain ⟨gv, cv, rfl, _, _⟩ := OW5.out.form (by rw [fullL_len]; have := N1.out; omega); have hi := HTI.out)
    | (at_builtin; go_loud (refine wpList_append_grows _ rfl _ _ _ rfl 5 ti _ 1 1 Try.underlying198 hi hz0 hz1 hz2 rfl (by omega) (some ⟨w5.heap.size, 0, none⟩) 4 4 (btL [84, 65, 82, 78]) (by rfl) (by simp) (by rfl) (fun b hb j u hu => by cases hb; exact tarn_cells w5 _ j u hu) ⟨w5.heap.size + 1, 0, none⟩ 1 1 [.int .u8 1] (by rfl) (by rfl) (World.news_of_block (cs := #[.int .u8 1]) (t := 5) (fr := (0, 0)) (by (first | (rw [heap_alloc_get, if_pos rfl]; done) | ((simp only [heap_alloc_get, heap_size_alloc, if_true]) <;> ((repeat' split) <;> first | rfl | omega))))) (by simp [Value.oneCell']) (by omega) (by unfold maxLen; omega) (by omega) ?_; intro v7 w7 hown7 hgrow; have A7 := Lib.hid (start_at (w5 := w5) (L := [84, 65, 82, 78, 1]) hown7 (by simp; omega) hgrow); have B57 := Lib.hid (show Below w5.heap.size w5 w7 from (((Below.refl _ _).alloc (Nat.le_refl _) _).alloc (by simp) _).trans ⟨hgrow.os, hgrow.tape, hgrow.output, hgrow.size, fun j hj => hgrow.block j (by simp; omega) (by simp)⟩); have HF7 := Lib.hid (blkStay HF5.out B57.out); have OW7 := Lib.hid (ownsRow_below OW5.out B57.out); obtain ⟨g7, c7, rfl, hg7, _⟩ := hown7.form (by omega); clear hown7 hgrow hi cF fF zF; obtain ⟨cF, fF, zF⟩ := blkC HF7.out)))
  have HG7 := Lib.hid (show w5.heap.size ≤ g7 by simp at hg7; omega)
  have B7 := Lib.hid (B5.out.trans (B57.out.mono B5.out.size))
  clear hg7 cF fF zF
  have IX := Lib.hid (fun (k : Nat) (hk : k < 4) (w : World) => index_rg X Y W H k hk w)
  have HN := Lib.hid (show 0 < (fullL v n).length ∧ (fullL v n).length ≤ 262144 by rw [fullL_len]; have := N1.out; have := N2.out; omega)
  go_loopw [14, 66] (fun t i wr => ∃ k : Nat, k ≤ 4 ∧ i = .int .i64 k ∧ BtAt w7 w5.heap.size (some g7) (headL 1 X Y W H k) t wr) (fun _ i _ => 4 - (intOf i).toNat)
  case atStart => exact ⟨0, by omega, rfl, A7.out⟩
  case round =>
    obtain ⟨k, hk, rfl, hA⟩ := hrel
    have HA := Lib.hid hA
    clear hA
    by_cases hlt : k < 4
    · have ix := IX.out k hlt
      have AB := Lib.hid (fun t wr h => appendBytes_any w7 w5.heap.size (some g7) (headL 1 X Y W H k) t (u32N (rgI X Y W H k)) 4 wr h (u32N_lt _) (by omega) (by rw [headL_len]; omega))
      rw [u32N_eq] at AB
      have HE := Lib.hid (show headL 1 X Y W H (k + 1) = headL 1 X Y W H k ++ byteL (u32N (rgI X Y W H k)) 4 from rfl)
      generalize rgI X Y W H k = x at *
      go_wp2_with (go_at_call 171; refine (AB.out _ _ HA.out).mono ?_; rintro e w8 ⟨ov', rfl, hA8⟩; have HA8 := Lib.hid hA8; clear hA8)
      go_roundw
      case rel => exact ⟨k + 1, by omega, by go_num, by rw [HE.out]; exact HA8.out⟩
      case measure => simp [intOf]; omega
    · obtain rfl : k = 4 := by omega
      have hi := HTI.out
      have OWr := Lib.hid (OW7.out.kept HA.out.gr (.inr (by have := OW5.out.lt gv rfl; have := HG7.out; simp [Value.ownBlock]; omega)))
      obtain ⟨l1, l2⟩ := HN.out
      have HC := Lib.hid (OWr.out.cells (g := gv) rfl)
      have HL1 := Lib.hid (btL_len (fullL v n))
      have hL5 := headL_len 1 X Y W H 4
      have SM := Lib.hid (fun w => sum_any (txB (encL X Y W H v n)) w (by rw [txB_size]; unfold encL; rw [List.length_append, fullL_len]; have := N2.out; omega))
      have AB := Lib.hid (fun t wr h => appendBytes_any w7 w5.heap.size (some g7) (encL X Y W H v n) t (u32N (sumI (txB (encL X Y W H v n)))) 4 wr h (u32N_lt _) (by omega) (by unfold encL; rw [List.length_append, fullL_len]; have := N2.out; omega))
      have HT := Lib.hid (show encT X Y W H v n = txB (encL X Y W H v n ++ byteL (u32N (sumI (txB (encL X Y W H v n)))) 4) from rfl)
      obtain ⟨s1, s2⟩ := sumI_in (txB (encL X Y W H v n))
      rw [u32N_eq, Int.emod_eq_of_lt s1 s2, show ((4 : Nat) : Int) = 4 from rfl] at AB
      go_wp2_with (first
        | (at_builtin; go_loud (refine wpList_append_lies _ rfl _ _ _ rfl w5.heap.size 5 ti _ 1 1 Try.underlying198 hi hz0 hz1 hz2 rfl (by omega) u14 (headL 1 X Y W H 4).length (btL (headL 1 X Y W H 4)) (by rfl) HA.out.own ⟨gv, 0, none⟩ (fullL v n).length cv (btL (fullL v n)) (by rfl) (by rw [btL_len]; omega) HC.out (by simp [btL, Value.oneCell']) l1 (by unfold maxLen; omega) (by omega) HA.out.size wr.heap.size rfl ?_; intro g8 c8 w8 hown8 hgrow hat hlt8; have A8 := Lib.hid (BtAt.on (B := fullL v n) HA.out hgrow hat hown8); have A8' := Lib.hid (show BtAt w7 w5.heap.size (some g7) (encL X Y W H v n) _ w8 from A8.out); have TX := tx_of A8.out.own (headL_isB 1 X Y W H (by omega) 4) (fullL_isB v n); rw [show headL 1 X Y W H 4 ++ fullL v n = encL X Y W H v n from rfl] at TX; clear hown8 hgrow hat hlt8 hi l1 l2 hL5))
        | (go_at_call 73; (with_reducible refine (SM.out _).mono ?_); rintro e w' ⟨rfl, rfl⟩)
        | (go_at_call 171; (with_reducible refine (AB.out _ _ A8'.out).mono ?_); rintro e w9 ⟨ov', rfl, hA9⟩; obtain ⟨g9, c9, rfl, _, _⟩ := hA9.own.form (by simp [byteL_len]); have HA9 := Lib.hid hA9; have TX2 := text_of hA9.own (isB_app (encL_isB X Y W H v n) (byteL_isB _ 4)); generalize (encL X Y W H v n ++ byteL (u32N (sumI (txB (encL X Y W H v n)))) 4).length = N9 at TX2 ⊢; rw [← HT.out] at TX2; clear hA9 TX))
      go_ret2
      exact ⟨rfl, B7.out.trans (grownBy_far HA9.out.gr (by have := HG7.out; have := B5.out.size; omega) B7.out.size)⟩
end Go.Proofs.Ythemmpmjjdpdfaa

/- Integers as bytes, without the program: numbers, groups, lists. -/
namespace Go.Proofs.Ythemmpmjjdpdfaa
open Go.RowKit Fl
set_option linter.unusedVariables false

/-- The number that is written of an integer. -/
def zigN (n : Int) : Nat := (if n < 0 then -(2 * n) - 1 else 2 * n).toNat
/-- The integer of a number. -/
def unz (m : Nat) : Int := if m % 2 = 1 then -(((m + 1) / 2 : Nat) : Int) else ((m / 2 : Nat) : Int)
theorem unz_zig (n : Int) : unz (zigN n) = n := by
  unfold unz zigN
  by_cases h : n < 0
  · rw [if_pos h]; split <;> omega
  · rw [if_neg h]; split <;> omega
theorem zig_lt {n : Int} (h : -1099511627776 ≤ n ∧ n ≤ 1099511627776) : zigN n < 4398046511104 := by
  unfold zigN; split <;> omega

/-- The bytes of a number. -/
def pkN (m : Nat) : List Int := if m < 128 then [(m : Int)] else ((m % 128 + 128 : Nat) : Int) :: pkN (m / 128)
termination_by m
decreasing_by omega
theorem pkN_lo {m : Nat} (h : m < 128) : pkN m = [(m : Int)] := by rw [pkN, if_pos h]
theorem pkN_hi {m : Nat} (h : ¬m < 128) : pkN m = ((m % 128 + 128 : Nat) : Int) :: pkN (m / 128) := by rw [pkN, if_neg h]
theorem pkN_bd : ∀ (g m : Nat), m < 128 ^ (g + 1) → isB (pkN m) ∧ (pkN m).length ≤ g + 1
  | 0, m, h => by
    rw [pkN_lo (by simpa using h)]
    exact ⟨fun x hx => by have := List.mem_singleton.1 hx; have : m < 128 := by simpa using h
                          omega, by simp⟩
  | g + 1, m, h => by
    by_cases c : m < 128
    · rw [pkN_lo c]
      exact ⟨fun x hx => by have := List.mem_singleton.1 hx; omega, by simp⟩
    · have hq : m / 128 < 128 ^ (g + 1) := Nat.div_lt_of_lt_mul (by rw [Nat.pow_succ] at h; omega)
      obtain ⟨i1, i2⟩ := pkN_bd g _ hq
      rw [pkN_hi c]
      refine ⟨fun x hx => ?_, by simp; omega⟩
      rcases List.mem_cons.1 hx with rfl | hx
      · omega
      · exact i1 x hx

/-- The bytes of the first integers. -/
def pkL (v : Nat → Int) : Nat → List Int
  | 0 => []
  | k + 1 => pkL v k ++ pkN (zigN (v k))
/-- The bytes of k integers from number i on. -/
def pkF (v : Nat → Int) : Nat → Nat → List Int
  | _, 0 => []
  | i, k + 1 => pkN (zigN (v i)) ++ pkF v (i + 1) k
theorem pkF_eq (v : Nat → Int) : ∀ k i, pkL v i ++ pkF v i k = pkL v (i + k)
  | 0, i => by simp [pkF]
  | k + 1, i => by
    show pkL v i ++ (pkN (zigN (v i)) ++ pkF v (i + 1) k) = _
    rw [← List.append_assoc, show i + (k + 1) = (i + 1) + k by omega, ← pkF_eq v k (i + 1)]
    rfl
theorem pkF_all (v : Nat → Int) (n : Nat) : pkF v 0 n = pkL v n := by
  have := pkF_eq v n 0
  simpa [pkL] using this

/-- The integers that may be packed. -/
def pkIn (x : Int) : Prop := -1099511627776 ≤ x ∧ x ≤ 1099511627776
theorem pkL_bd (v : Nat → Int) : ∀ n, (∀ i, i < n → pkIn (v i)) → isB (pkL v n) ∧ (pkL v n).length ≤ 6 * n
  | 0, _ => ⟨fun x hx => (by cases hx), Nat.le_refl _⟩
  | n + 1, h => by
    obtain ⟨i1, i2⟩ := pkL_bd v n fun i hi => h i (by omega)
    obtain ⟨j1, j2⟩ := pkN_bd 5 _ (show zigN (v n) < 128 ^ 6 from zig_lt (h n (by omega)))
    refine ⟨isB_app i1 j1, ?_⟩
    show (pkL v n ++ _).length ≤ _
    rw [List.length_append]; omega

/-- One number out of at most g groups, and what follows; fst: no group was taken yet. -/
def oneG : Nat → Bool → List Int → Option (Nat × List Int)
  | 0, _, _ => none
  | _ + 1, _, [] => none
  | g + 1, fst, b :: r => if b < 128 then (if b = 0 ∧ fst = false then none else some (b.toNat, r)) else (oneG g false r).map fun p => (b.toNat % 128 + 128 * p.1, p.2)

theorem one_pk : ∀ (g : Nat) (fst : Bool) (m : Nat) (r : List Int), m < 128 ^ g → (fst = true ∨ 0 < m) → 0 < g → oneG g fst (pkN m ++ r) = some (m, r)
  | 0, _, _, _, _, _, h => by omega
  | g + 1, fst, m, r, h, hf, _ => by
    by_cases c : m < 128
    · rw [pkN_lo c]
      show (if (m : Int) < 128 then _ else _) = _
      rw [if_pos (by omega), if_neg (by rcases hf with rfl | q <;> simp; omega)]
      simp
    · rw [pkN_hi c]
      show (if ((m % 128 + 128 : Nat) : Int) < 128 then _ else _) = _
      rw [if_neg (by omega)]
      have hq : m / 128 < 128 ^ g := Nat.div_lt_of_lt_mul (by rw [Nat.pow_succ] at h; omega)
      have hg : 0 < g := by
        rcases Nat.eq_zero_or_pos g with rfl | q
        · simp at h; omega
        · exact q
      have := one_pk g false (m / 128) r hq (.inr (by omega)) hg
      rw [show (pkN (m / 128)).append r = pkN (m / 128) ++ r from rfl, this]
      simp only [Option.map_some, Option.some.injEq, Prod.mk.injEq, and_true]
      omega

/-- All numbers of a text. -/
def unL : Nat → List Int → Option (List Int)
  | 0, L => if L = [] then some [] else none
  | f + 1, L => if L = [] then some [] else (oneG 9 true L).bind fun p => (unL f p.2).map fun M => unz p.1 :: M
/-- Some integers, as a list. -/
def lsF (v : Nat → Int) : Nat → Nat → List Int
  | _, 0 => []
  | i, k + 1 => v i :: lsF v (i + 1) k
theorem lsF_len (v : Nat → Int) : ∀ k i, (lsF v i k).length = k
  | 0, _ => rfl
  | k + 1, i => by simp [lsF, lsF_len v k]
theorem lsF_get (v : Nat → Int) : ∀ k i j, j < k → (lsF v i k)[j]? = some (v (i + j))
  | 0, _, _, h => by omega
  | k + 1, i, 0, _ => rfl
  | k + 1, i, j + 1, h => by
    show (lsF v (i + 1) k)[j]? = _
    rw [lsF_get v k (i + 1) j (by omega)]
    congr 2; omega
theorem pkN_ne (m : Nat) : pkN m ≠ [] := by
  by_cases c : m < 128
  · rw [pkN_lo c]; simp
  · rw [pkN_hi c]; simp
theorem unL_pk (v : Nat → Int) : ∀ (k i f : Nat), k ≤ f → (∀ j, j < k → pkIn (v (i + j))) → unL f (pkF v i k) = some (lsF v i k)
  | 0, i, 0, _, _ => rfl
  | 0, i, f + 1, _, _ => rfl
  | k + 1, i, 0, h, _ => by omega
  | k + 1, i, f + 1, h, hin => by
    show (if pkN (zigN (v i)) ++ pkF v (i + 1) k = [] then _ else _) = _
    rw [if_neg (by simp [pkN_ne])]
    show (oneG 9 true (pkN (zigN (v i)) ++ pkF v (i + 1) k)).bind _ = _
    have h0 := hin 0 (by omega)
    rw [Nat.add_zero] at h0
    rw [one_pk 9 true _ _ (Nat.lt_trans (zig_lt h0) (by decide)) (.inl rfl) (by omega)]
    show (unL f (pkF v (i + 1) k)).map _ = _
    rw [unL_pk v k (i + 1) f (by omega) fun j hj => by have := hin (j + 1) (by omega); rwa [show i + (j + 1) = i + 1 + j by omega] at this]
    show some (unz (zigN (v i)) :: _) = some (v i :: _)
    rw [unz_zig]

/-- What follows is shorter. -/
theorem one_rest : ∀ (g : Nat) (fst : Bool) (L : List Int) (m : Nat) (r : List Int), oneG g fst L = some (m, r) → ∃ k, 1 ≤ k ∧ k ≤ L.length ∧ k ≤ g ∧ r = L.drop k
  | 0, _, _, _, _, h => by cases h
  | g + 1, fst, [], _, _, h => by cases h
  | g + 1, fst, b :: q, m, r, h => by
    unfold oneG at h
    by_cases c : b < 128
    · rw [if_pos c] at h
      split at h
      · cases h
      · have := Option.some.inj h
        simp only [Prod.mk.injEq] at this
        exact ⟨1, by omega, by simp, by omega, by rw [← this.2]; rfl⟩
    · rw [if_neg c] at h
      cases hq : oneG g false q with
      | none => rw [hq] at h; cases h
      | some p =>
        rw [hq] at h
        have h' := Option.some.inj h
        obtain ⟨pm, pr⟩ := p
        simp only [Prod.mk.injEq] at h'
        obtain ⟨k, k1, k2, k3, k4⟩ := one_rest g false q pm pr hq
        exact ⟨k + 1, by omega, by simp; omega, by omega, by rw [← h'.2, k4]; rfl⟩

/-- The error of integers that are packed, behind the first k of them, when it began as s. -/
def rgE (s : Int) (v : Nat → Int) : Nat → Int
  | 0 => s
  | k + 1 => if rgE s v k = 0 then (if withinB (v k) (-1099511627776) 1099511627776 = true then 0 else 3) else rgE s v k
theorem rgE_stay (s : Int) (v : Nat → Int) (k : Nat) (h : rgE s v k ≠ 0) : ∀ j, rgE s v (k + j) = rgE s v k
  | 0 => rfl
  | j + 1 => by
    have := rgE_stay s v k h j
    show (if rgE s v (k + j) = 0 then _ else rgE s v (k + j)) = _
    rw [this, if_neg h]
theorem rgE_zero (v : Nat → Int) : ∀ k, rgE 0 v k = 0 → ∀ i, i < k → pkIn (v i)
  | 0, _, i, h => by omega
  | k + 1, h, i, hi => by
    unfold rgE at h
    by_cases c : rgE 0 v k = 0
    · rw [if_pos c] at h
      rcases Nat.lt_or_ge i k with q | q
      · exact rgE_zero v k c i q
      · obtain rfl : i = k := by omega
        by_cases d : withinB (v i) (-1099511627776) 1099511627776 = true
        · exact (withinB_iff).1 d
        · rw [if_neg d] at h; omega
    · rw [if_neg c] at h; exact absurd h c
theorem rgE_in (s : Int) (v : Nat → Int) (hs : s = 0 ∨ s = 4) : ∀ k, rgE s v k = 0 ∨ rgE s v k = 3 ∨ rgE s v k = 4
  | 0 => by rcases hs with h | h <;> simp [rgE, h]
  | k + 1 => by
    unfold rgE
    split
    · split <;> simp
    · exact rgE_in s v hs k
theorem rgE_four (v : Nat → Int) (k : Nat) : rgE 4 v k = 4 := by
  have := rgE_stay 4 v 0 (by show (4 : Int) ≠ 0; omega) k
  rw [Nat.zero_add] at this
  exact this
/-- The error of a list that is packed. -/
def pkE (n : Nat) (v : Nat → Int) : Int := if 65536 < n then 4 else rgE 0 v n
theorem pkE_law (n : Nat) (v : Nat → Int) : rgE (if 65536 < n then 4 else 0) v n = pkE n v := by
  unfold pkE
  split
  · exact rgE_four v n
  · rfl

/-- A text, taken apart. -/
def lsB (s : ByteArray) : List Int := s.data.toList.map fun c => ((c.toNat : Nat) : Int)
theorem lsB_isB (s : ByteArray) : isB (lsB s) := fun x hx => by
  obtain ⟨c, _, rfl⟩ := List.mem_map.1 hx
  have := c.toNat_lt
  omega
theorem txB_lsB (s : ByteArray) : txB (lsB s) = s := by
  unfold txB lsB
  rw [List.map_map]
  have : ((fun x : Int => UInt8.ofNat x.toNat) ∘ fun c : UInt8 => ((c.toNat : Nat) : Int)) = id := by
    funext c
    show UInt8.ofNat (Int.toNat ((c.toNat : Nat) : Int)) = c
    rw [Int.toNat_natCast]; exact UInt8.ofNat_toNat
  rw [this, List.map_id]
theorem lsB_len (s : ByteArray) : (lsB s).length = s.size := by unfold lsB; rw [List.length_map]; rfl
theorem chI_tx {L : List Int} (h : isB L) (k : Nat) (hk : k < L.length) : chI (txB L) k = L[k] := by
  unfold chI txB
  have hm := h L[k] (List.getElem_mem hk)
  simp only [List.getElem?_toArray, List.getElem?_map, List.getElem?_eq_getElem hk, Option.map_some, Option.getD_some]
  rw [UInt8.toNat_ofNat']
  omega
theorem txB_app (L M : List Int) : txB (L ++ M) = txB L ++ txB M := by
  apply ByteArray.ext
  simp [txB]
theorem isB_drop {L : List Int} (h : isB L) (k : Nat) : isB (L.drop k) := fun x hx => h x (List.mem_of_mem_drop hx)
end Go.Proofs.Ythemmpmjjdpdfaa

/- Groups of one number, read one by one (without the program). -/
namespace Go.Proofs.Ythemmpmjjdpdfaa
open Go.RowKit
set_option linter.unusedVariables false

theorem oneG_cons (g : Nat) (fst : Bool) (b : Int) (r : List Int) : oneG (g + 1) fst (b :: r) = if b < 128 then (if b = 0 ∧ fst = false then none else some (b.toNat, r)) else (oneG g false r).map fun p => (b.toNat % 128 + 128 * p.1, p.2) := rfl
/-- k groups of L were read, none of them the last: they give m. -/
structure GrAt (L : List Int) (k m : Nat) : Prop where
  lt : m < 128 ^ k
  k9 : k ≤ 9
  len : k ≤ L.length
  eq : oneG 9 true L = (oneG (9 - k) (k == 0) (L.drop k)).map fun p => (m + 128 ^ k * p.1, p.2)
theorem GrAt.start (L : List Int) : GrAt L 0 0 := ⟨by decide, by omega, by omega, by
  show oneG 9 true L = (oneG 9 true L).map fun p => (0 + 128 ^ 0 * p.1, p.2)
  cases oneG 9 true L with
  | none => rfl
  | some p => simp⟩
theorem GrAt.more {L : List Int} {k m : Nat} (h : GrAt L k m) (hk : k < 9) (hl : k < L.length) (h0 : 0 ≤ L[k]) (hb : ¬L[k] < 128) : GrAt L (k + 1) (m + L[k].toNat % 128 * 128 ^ k) := by
  have e := h.eq
  rw [List.drop_eq_getElem_cons hl, show 9 - k = (9 - (k + 1)) + 1 by omega] at e
  refine ⟨?_, by omega, by omega, ?_⟩
  · have := h.lt
    have h1 : L[k].toNat % 128 ≤ 127 := by omega
    have h2 := Nat.mul_le_mul_right (128 ^ k) h1
    rw [Nat.pow_succ]; omega
  · rw [e]
    rw [oneG_cons, if_neg hb]
    have : (k + 1 == 0) = false := by simp
    rw [this]
    cases oneG (9 - (k + 1)) false (L.drop (k + 1)) with
    | none => rfl
    | some p =>
      simp only [Option.map_some, Option.some.injEq, Prod.mk.injEq, and_true]
      rw [Nat.pow_succ, Nat.mul_add, Nat.mul_comm (L[k].toNat % 128), Nat.mul_assoc]
      omega
theorem GrAt.out {L : List Int} {k m : Nat} (h : GrAt L k m) (hk : k = 9 ∨ k = L.length) : oneG 9 true L = none := by
  rw [h.eq]
  rcases hk with rfl | rfl
  · rfl
  · rw [List.drop_length]
    cases 9 - L.length with
    | zero => rfl
    | succ n => rfl
theorem GrAt.last {L : List Int} {k m : Nat} (h : GrAt L k m) (hk : k < 9) (hl : k < L.length) (hb : L[k] < 128) :
    oneG 9 true L = if L[k] = 0 ∧ k ≠ 0 then none else some (m + L[k].toNat * 128 ^ k, L.drop (k + 1)) := by
  have e := h.eq
  rw [List.drop_eq_getElem_cons hl, show 9 - k = (9 - (k + 1)) + 1 by omega] at e
  rw [e]
  rw [oneG_cons, if_pos hb]
  by_cases c : L[k] = 0 ∧ k ≠ 0
  · rw [if_pos c, if_pos ⟨c.1, by simpa using c.2⟩]; rfl
  · rw [if_neg c, if_neg (fun d => c ⟨d.1, by simpa using d.2⟩)]
    simp only [Option.map_some, Option.some.injEq, Prod.mk.injEq, and_true]
    rw [Nat.mul_comm]

/-- The number behind the last group, in the machine's words. -/
theorem pow7 (k : Nat) : (2 : Nat) ^ (7 * k) = 128 ^ k := by rw [Nat.pow_mul]
theorem pow_le {k : Nat} (h : k ≤ 8) : (128 : Nat) ^ k ≤ 72057594037927936 := Nat.le_trans (Nat.pow_le_pow_right (by omega) h) (by decide)
theorem grp_lt {m c k : Nat} (h : m < 128 ^ k) (hc : c < 128) (hk : k ≤ 8) : m + c * 128 ^ k < 9223372036854775808 := by
  have h1 : c ≤ 127 := by omega
  have h2 := Nat.mul_le_mul_right (128 ^ k) h1
  have := pow_le hk
  omega

theorem grp_eq {c : Int} (m k : Nat) (h0 : 0 ≤ c) (h : m < 128 ^ k) (hk : k ≤ 8) : wrap64 ((m : Int) + wrap64 (c % 128 * 2 ^ (7 * k))) = ((m + c.toNat % 128 * 128 ^ k : Nat) : Int) := by
  have e : (2 : Int) ^ (7 * k) = ((128 ^ k : Nat) : Int) := by rw [← pow7]; simp
  have ec : c % 128 = ((c.toNat % 128 : Nat) : Int) := by omega
  have hb := grp_lt h (show c.toNat % 128 < 128 by omega) hk
  rw [e, ec]
  rw [show ((c.toNat % 128 : Nat) : Int) * ((128 ^ k : Nat) : Int) = ((c.toNat % 128 * 128 ^ k : Nat) : Int) by rw [Int.natCast_mul]]
  generalize c.toNat % 128 * 128 ^ k = q at *
  rw [IntWalk.wrap64_in (q : Int) ⟨by omega, by omega⟩, IntWalk.wrap64_in _ ⟨by omega, by omega⟩]
  omega
theorem odd_div {y : Nat} (h : y % 2 = 1) : (-(y : Int) - 1).tdiv 2 = unz y := by
  unfold unz
  rw [if_pos h]
  rw [show -(y : Int) - 1 = -(((y + 1) / 2 : Nat) : Int) * 2 by omega, Int.mul_tdiv_cancel _ (by omega)]
theorem even_div {y : Nat} (h : y % 2 = 0) : (y : Int) / 2 = unz y := by
  unfold unz
  rw [if_neg (by omega)]; omega

theorem odd_ref {y : Nat} (h : y % 2 = 1) (hl : y < 9223372036854775808) : (wrap64 (-wrap64 ((y : Int) + 1))).tdiv 2 = unz y := by
  have e : unz y = -(((y + 1) / 2 : Nat) : Int) := by unfold unz; rw [if_pos h]
  rw [e]
  rcases Nat.lt_or_ge y 9223372036854775807 with c | c
  · rw [IntWalk.wrap64_in ((y : Int) + 1) ⟨by omega, by omega⟩, IntWalk.wrap64_in (-((y : Int) + 1)) ⟨by omega, by omega⟩]
    rw [show -((y : Int) + 1) = -(((y + 1) / 2 : Nat) : Int) * 2 by omega, Int.mul_tdiv_cancel _ (by omega)]
  · obtain rfl : y = 9223372036854775807 := by omega
    decide +kernel
theorem unz_in {y : Nat} (hl : y < 9223372036854775808) : -4611686018427387904 ≤ unz y ∧ unz y ≤ 4611686018427387904 := by
  unfold unz; split <;> omega

/-- What one number out of a text is: n, its groups, whether it has the form. -/
def OneIs (L : List Int) (n wide : Int) (ok : Value) : Prop :=
  match oneG 9 true L with
  | none => ok = .bool false
  | some p => ok = .bool true ∧ n = unz p.1 ∧ ∃ k : Nat, wide = (k : Int) ∧ 1 ≤ k ∧ k ≤ L.length ∧ p.2 = L.drop k
theorem OneIs.no {L : List Int} {n wide : Int} (h : oneG 9 true L = none) : OneIs L n wide (.bool false) := by unfold OneIs; rw [h]
theorem OneIs.yes {L : List Int} {m k : Nat} (h : oneG 9 true L = some (m, L.drop k)) (h1 : 1 ≤ k) (h2 : k ≤ L.length) : OneIs L (unz m) (k : Int) (.bool true) := by
  unfold OneIs; rw [h]; exact ⟨rfl, rfl, k, rfl, h1, h2, rfl⟩
theorem OneIs.fin {L : List Int} {c : Int} {k y : Nat} {n wide : Int} {b : Bool} (h : oneG 9 true L = if c = 0 ∧ k ≠ 0 then none else some (y, L.drop (k + 1))) (hl : k < L.length)
    (hn : n = unz y) (hw : wide = (k : Int) + 1) (hb : b = true ↔ ¬(c = 0 ∧ k ≠ 0)) : OneIs L n wide (.bool b) := by
  by_cases hc : c = 0 ∧ k ≠ 0
  · rw [if_pos hc] at h
    have : b = false := by
      cases b with
      | true => exact absurd hc (hb.1 rfl)
      | false => rfl
    subst this
    exact OneIs.no h
  · rw [if_neg hc] at h
    obtain rfl : b = true := hb.2 hc
    subst hn; subst hw
    exact OneIs.yes (k := k + 1) h (by omega) (by omega)
end Go.Proofs.Ythemmpmjjdpdfaa

/- Whole numbers in a slice that came in. -/
namespace Go.Proofs.Ythemmpmjjdpdfaa
open Go.RowKit
set_option linter.unusedVariables false

/-- Whole numbers in a slice. -/
def NumAt (w : World) (b off n : Nat) (c : Nat → Int) : Prop := ∀ i, i < n → w.cell? ⟨b, off + i, none⟩ = some (.int .i64 (c i))
theorem numAt_congr {w w' : World} {b off n : Nat} {c : Nat → Int} (h : NumAt w b off n c) (e : w'.heap[b]? = w.heap[b]?) : NumAt w' b off n c := fun i hi => by
  rw [← h i hi]; exact World.cell?_of_block (w := w) (a := ⟨b, off + i, none⟩) e
/-- A slice of whole numbers: empty, or known cell by cell. -/
def LsAt (w : World) (a : Option Addr) (n : Nat) (c : Nat → Int) : Prop := n = 0 ∨ ∃ b off, a = some ⟨b, off, none⟩ ∧ NumAt w b off n c
theorem LsAt.stay {w w' : World} {a : Option Addr} {n : Nat} {c : Nat → Int} (h : LsAt w a n c) (hB : Below w.heap.size w w') : LsAt w' a n c := by
  rcases h with h | ⟨b, off, rfl, h⟩
  · exact .inl h
  · rcases Nat.eq_zero_or_pos n with z | z
    · exact .inl z
    · exact .inr ⟨b, off, rfl, numAt_congr h (hB.block _ (World.block_lt_of_cell? w _ (h 0 z)))⟩

end Go.Proofs.Ythemmpmjjdpdfaa

/- Lists of integers of one's own; what a text holds, step by step. -/
namespace Go.Proofs.Ythemmpmjjdpdfaa
open Go.RowKit
set_option linter.unusedVariables false

def inL (M : List Int) : List Value := M.map (Value.int .i64)
theorem inL_len (M : List Int) : (inL M).length = M.length := by simp [inL]
theorem inL_app (M : List Int) (x : Int) : inL (M ++ [x]) = inL M ++ [.int .i64 x] := by simp [inL]
def numOf (M : List Int) (i : Nat) : Int := (M[i]?).getD 0
theorem numOf_lt {M : List Int} {i : Nat} (h : i < M.length) : numOf M i = M[i] := by unfold numOf; rw [List.getElem?_eq_getElem h]; rfl

/-- A list of integers of one's own. -/
def InAt (base : Nat) (M : List Int) (ov : Value) (w : World) : Prop := w.ownsRow base 3 1 ov M.length (inL M)
theorem InAt.ls {base : Nat} {M : List Int} {ov : Value} {w : World} (h : InAt base M ov w) : ∃ a cap, ov = .slice a M.length cap ∧ LsAt w a M.length (numOf M) := by
  have h2 := h
  rcases h2.2 with ⟨rfl, h0⟩ | ⟨g, cap, cur, rfl, _⟩
  · exact ⟨none, 0, by rw [h0], .inl h0⟩
  · refine ⟨_, cap, rfl, .inr ⟨g, 0, rfl, fun i hi => ?_⟩⟩
    have := h.cells (g := g) rfl i (.int .i64 M[i]) (by simp [inL, List.getElem?_eq_getElem hi])
    rw [numOf_lt hi, ← this]
    simp only [Addr.add, Nat.zero_add]
    split
    · rename_i hz; rw [hz]
    · rfl
theorem InAt.stay {base : Nat} {M : List Int} {ov : Value} {w w' : World} (h : InAt base M ov w) (hb : Below w.heap.size w w') : InAt base M ov w' := ownsRow_below h hb

/-- A text, read in part: M was read, R is left. -/
structure UnAt (L M R : List Int) (f : Nat) : Prop where
  bytes : isB R
  fuel : R.length ≤ f
  len : M.length + R.length ≤ L.length
  eq : unL L.length L = (unL f R).map fun q => M ++ q
theorem UnAt.start {L : List Int} (h : isB L) : UnAt L [] L L.length := ⟨h, Nat.le_refl _, by simp, by
  cases unL L.length L with
  | none => rfl
  | some q => rfl⟩
theorem UnAt.done {L M : List Int} {f : Nat} (h : UnAt L M [] f) : unL L.length L = some M := by
  rw [h.eq]
  cases f with
  | zero => simp [unL]
  | succ f => simp [unL]
theorem unL_cons {f : Nat} {R : List Int} (h : R ≠ []) : unL (f + 1) R = (oneG 9 true R).bind fun p => (unL f p.2).map fun M => unz p.1 :: M := by
  show (if R = [] then _ else _) = _
  rw [if_neg h]
theorem UnAt.no {L M R : List Int} {f : Nat} (h : UnAt L M R f) (hR : R ≠ []) (h1 : oneG 9 true R = none) : unL L.length L = none := by
  have hp := List.length_pos_iff.2 hR
  obtain ⟨g, rfl⟩ : ∃ g, f = g + 1 := ⟨f - 1, by have := h.fuel; omega⟩
  rw [h.eq, unL_cons hR, h1]; rfl
theorem UnAt.more {L M R : List Int} {f m k : Nat} (h : UnAt L M R f) (hR : R ≠ []) (h1 : oneG 9 true R = some (m, R.drop k)) (hk : 1 ≤ k) (hk2 : k ≤ R.length) : ∃ g, UnAt L (M ++ [unz m]) (R.drop k) g := by
  have hp := List.length_pos_iff.2 hR
  obtain ⟨g, rfl⟩ : ∃ g, f = g + 1 := ⟨f - 1, by have := h.fuel; omega⟩
  refine ⟨g, isB_drop h.bytes k, by have := h.fuel; rw [List.length_drop]; omega, by have := h.len; rw [List.length_append, List.length_drop]; simp; omega, ?_⟩
  rw [h.eq, unL_cons hR, h1]
  show ((unL g (R.drop k)).map fun M => unz m :: M).map _ = _
  cases unL g (R.drop k) with
  | none => rfl
  | some q => simp

/-- What Unpack gives. -/
def UnOk (L : List Int) (w : World) (a : Option Addr) (n : Nat) (k : Int) : Prop :=
  match unL L.length L with
  | none => n = 0 ∧ k = 2
  | some M => k = pkE M.length (numOf M) ∧ (k ≠ 0 → n = 0) ∧ (k = 0 → n = M.length ∧ LsAt w a n (numOf M))
/-- What the reference gives. -/
def UnRf (L : List Int) (w : World) (a : Option Addr) (n : Nat) (ok : Value) : Prop :=
  match unL L.length L with
  | none => n = 0 ∧ ok = .bool false
  | some M => ok = .bool true ∧ n = M.length ∧ LsAt w a n (numOf M)
theorem tx_nil : txB [] = ⟨#[]⟩ := rfl
theorem tx_ne {R : List Int} (h : R ≠ []) : txB R ≠ ⟨#[]⟩ := fun c => by
  have e := congrArg ByteArray.size c
  rw [txB_size] at e
  have := List.length_pos_iff.2 h
  have : (⟨#[]⟩ : ByteArray).size = 0 := rfl
  omega
theorem tx_empty {R : List Int} (h : R ≠ []) : (txB R).toList.isEmpty = false := by
  rw [ByteArray.toList_eq]
  cases R with
  | nil => exact absurd rfl h
  | cons x q => rfl
theorem tx_empty0 : (txB []).toList.isEmpty = true := by rw [ByteArray.toList_eq]; rfl
theorem tx_drop (R : List Int) (k : Nat) : (txB R).extract k R.length = txB (R.drop k) := by
  apply ByteArray.ext
  rw [ByteArray.data_extract]
  unfold txB
  apply Array.toList_inj.1
  rw [Array.toList_extract]
  simp only [List.extract_eq_take_drop, List.map_drop]
  apply List.take_of_length_le
  simp
end Go.Proofs.Ythemmpmjjdpdfaa

/- Contracts: a text builder of one's own: copyCheck, WriteByte, String. -/
namespace Go.Proofs.Ythemmpmjjdpdfaa
open Go.RowKit Go.Shelf
set_option linter.unusedVariables false

def bldRen : Go.Shelf.Ren := ⟨fun | 169 => 142 | n => n, fun | 70 => 197 | 9 => 9 | 0 => 0 | 72 => 200 | 37 => 198 | 127 => 241 | 3 => 3 | 5 => 5 | n => n, fun | n => n⟩
theorem bldLays : Go.Proofs.Lays.n169 Try.prog bldRen := {
  mixed := by kernel_rfl
  f169 := Try.func142.trans (congrArg some (by kernel_rfl))
  t0 := Try.underlying0
  a0 := Try.isAgg0
  z0 := Try.sizeOf0
  v0 := Try.zeroValue0
  t3 := Try.underlying3
  a3 := Try.isAgg3
  z3 := Try.sizeOf3
  v3 := Try.zeroValue3
  t9 := Try.underlying9
  a9 := Try.isAgg9
  z9 := Try.sizeOf9
  v9 := Try.zeroValue9
  t37 := Try.underlying198
  a37 := Try.isAgg198
  z37 := Try.sizeOf198
  v37 := Try.zeroValue198
  t70 := Try.underlying197
  a70 := Try.isAgg197
  z70 := Try.sizeOf197
  v70 := Try.zeroValue197
  t72 := Try.underlying200
  a72 := Try.isAgg200
  z72 := Try.sizeOf200
  v72 := Try.zeroValue200
  t127 := Try.underlying241
  a127 := Try.isAgg241
  z127 := Try.sizeOf241
  v127 := Try.zeroValue241 }
theorem bldExtra : Builder.Extra Try.prog bldRen := {
  sizeBuilder := by kernel_rfl
  liesBuilder := by kernel_rfl
  t5 := Try.underlying5
  a5 := Try.isAgg5
  z5 := Try.sizeOf5
  v5 := Try.zeroValue5
  infoByte := by kernel_rfl
  cellsByte := by kernel_rfl
  sizeByte := by kernel_rfl
  neB5 := by decide }

/-- A builder of one's own (from the block B on, in the block b) that holds the bytes L. -/
def BldAt (B b : Nat) (L : List Int) (w : World) : Prop := Lib.IsBuilder 200 5 B b (btL L) w

theorem byteCells_of {L : List Int} (h : isB L) : Lib.byteCells (L.map fun x => UInt8.ofNat x.toNat) = btL L := by
  unfold Lib.byteCells btL
  rw [List.map_map]
  apply List.map_congr_left
  intro x hx
  have := h x hx
  show Value.int .u8 ((UInt8.ofNat x.toNat).toNat : Int) = .int .u8 x
  rw [UInt8.toNat_ofNat']
  congr 1; omega

theorem bldString_any (B b : Nat) (L : List Int) (w : World) (h : BldAt B b L w) (hL : isB L) (hBw : B ≤ w.heap.size) :
    Calls Try.prog 142 #[.pointer (some ⟨b, 0, none⟩)] w fun e w' => e = .returned (.string (txB L)) ∧ Below B w w' := by
  have h' : Lib.IsBuilder 200 5 B b (Lib.byteCells (L.map fun x => UInt8.ofNat x.toNat)) w := by rw [byteCells_of hL]; exact h
  exact Any.Builder_String_any bldLays bldExtra B b _ w h' hBw

set_option maxHeartbeats 1000000 in
set_option maxRecDepth 100000 in
theorem bldCheck_any (B b : Nat) (bs : List Value) (w : World) (h : Lib.IsBuilder 200 5 B b bs w) :
    Calls Try.prog 176 #[.pointer (some ⟨b, 0, none⟩)] w fun e w' => e = .returned (.tuple #[]) ∧ Lib.BuilderAt 200 5 B b (.pointer (some ⟨b, 0, none⟩)) bs w' ∧ Below B w w' := by
  obtain ⟨j, hj, hjs⟩ := Option.map_eq_some_iff.1 bldExtra.sizeBuilder
  have HX := Lib.hid hj
  have HJ := Lib.hid hjs
  clear hj hjs
  rcases h with h | h
  · have h0 := h.cell0
    have hsh := h.shape
    have hfz := h.frozen0
    have H := Lib.hid h
    have HS := Lib.hid hsh
    clear h hsh
    go_enter Try.func176, Try.ntmps176
    go_wp2
    rw [Lib.run_to_unsafe w ⟨b, 0, none⟩ Try.underlying197 Try.underlying255 HX.out (by rw [HJ.out]; decide) HS.out (Nat.zero_lt_succ 1)]
    simp only [Result.andThen]
    rw [Oper.upon_value]
    go_wp2
    rw [run_callFunc_extern Try.func197 (by kernel_rfl) (by kernel_rfl) (by kernel_rfl) (e := Extern.AbiNoEscape.same) (by kernel_rfl)]
    rw [Lib.run_noEscape]
    simp only [Result.andThen]
    rw [Oper.upon_value]
    go_wp2
    rw [Lib.run_from_unsafe w ⟨b, 0, none⟩ Try.underlying255 Try.underlying197 HX.out HS.out bldExtra.liesBuilder]
    simp only [Result.andThen]
    rw [Oper.upon_value]
    go_wp2
    go_end0
    exact ⟨rfl, H.out.used _, (Below.refl B w).setCell (p := ⟨b, 0, none⟩) H.out.1 _⟩
  · have h0 := h.cell0
    have H := Lib.hid h
    clear h
    go_enter Try.func176, Try.ntmps176
    go_wp2
    rw [Lib.run_neq_ptr_same w _ Try.underlying197 HX.out]
    go_wp2
    go_end0
    exact ⟨rfl, H.out, Below.refl B _⟩

set_option maxHeartbeats 1000000 in
set_option maxRecDepth 100000 in
theorem bldByte_any (B b : Nat) (L : List Int) (c : Int) (w : World) (h0 : BldAt B b L w) (hlen : L.length + 1 ≤ 140737488355328) (hBw : B ≤ w.heap.size) :
    Calls Try.prog 141 #[.pointer (some ⟨b, 0, none⟩), .int .u8 c] w fun e w' => e = .returned .nilIface ∧ BldAt B b (L ++ [c]) w' ∧ Below B w w' := by
  obtain ⟨i0, hi0, hz0, hz1, hz2⟩ := info_parts bldExtra.infoByte
  have HI := Lib.hid hi0
  have H := Lib.hid h0
  clear h0 hi0
  go_enter Try.func141, Try.ntmps141
  go_wp2_with (go_at_call 176; refine (bldCheck_any B b (btL L) _ H.out).mono ?_)
  rintro e w1 ⟨rfl, h1, hb1⟩
  obtain ⟨hB, v, hbk, hown, hne⟩ := h1
  rw [btL_len] at hown
  have c0 : w1.cell? ⟨b, 0, none⟩ = some (.pointer (some ⟨b, 0, none⟩)) := by rw [Lib.cell_of_heap hbk]; rfl
  have c1 : w1.cell? ⟨b, 1, none⟩ = some v := by rw [Lib.cell_of_heap hbk]; rfl
  have z1 := hb1.size
  go_wp2_with (at_builtin; refine wpList_append_own _ rfl _ _ 198 rfl B 5 i0 (.int .u8 0) 1 1 Try.underlying198 HI.out hz0 hz1 hz2 rfl (by decide) _ _ _ rfl (hown.alloc _) ⟨w1.heap.size, 0, none⟩ 1 1 [.int .u8 c] rfl rfl ?c1 ?c2 ?c3 ?c4 ?c5 ?_)
  case c1 =>
    intro j u hj
    match j, hj with
    | 0, hj => simp at hj; subst hj; simp [Addr.add]
  case c2 => intro u hu; simp at hu; subst hu; rfl
  case c3 => unfold maxLen; omega
  case c4 => omega
  case c5 => simp; omega
  intro v' w2 hown' hgrow _
  have hlt : b < w1.heap.size := by
    rcases Nat.lt_or_ge b w1.heap.size with h' | h'
    · exact h'
    · simp [Array.getElem?_eq_none h'] at hbk
  have hb2 : w2.heap[b]? = some (.cells #[.pointer (some ⟨b, 0, none⟩), v] 200 (0, 0)) := by
    rw [hgrow.block b (by simp; omega) (fun e => hne e.symm), Lib.alloc_old w1 _ b hlt]
    exact hbk
  have d0 : w2.cell? ⟨b, 0, none⟩ = some (.pointer (some ⟨b, 0, none⟩)) := by rw [Lib.cell_of_heap hb2]; rfl
  have d1 : w2.cell? ⟨b, 1, none⟩ = some v := by rw [Lib.cell_of_heap hb2]; rfl
  have f1 : w2.frozen? ⟨b, 1, none⟩ = false := Lib.frozen_of_heap hb2 1
  obtain ⟨g, cap, rfl⟩ : ∃ g cap, v' = .slice (some ⟨g, 0, none⟩) (L.length + 1) cap := by
    rcases hown'.2 with ⟨_, h0⟩ | ⟨g, cap, cur, hv, _⟩
    · omega
    · exact ⟨g, cap, hv⟩
  go_wp2
  go_ret
  refine ⟨rfl, .inr (Lib.BuilderAt.put hB hb2 (bs' := btL (L ++ [c])) (by rw [btL_len, btL_app, List.length_append]; exact hown') bldExtra.neB5), ?_⟩
  exact ((hb1.alloc (by omega) _).grown hgrow (by simp; omega) (fun k hk => (hown.lt k hk).1)).setCell (p := ⟨b, 1, none⟩) hB _

theorem bldNew (w : World) : BldAt w.heap.size w.heap.size [] (w.alloc (.cells #[.pointer none, .slice none 0 0] 200)) := Lib.fresh_isBuilder _ _ w
end Go.Proofs.Ythemmpmjjdpdfaa

/- Contracts: checkPacked; Pack. -/
namespace Go.Proofs.Ythemmpmjjdpdfaa
open Go.RowKit
set_option linter.unusedVariables false

set_option maxHeartbeats 1000000 in
set_option maxRecDepth 100000 in
theorem checkPacked_any (n cap : Nat) (a : Option Addr) (v : Nat → Int) (w : World) (hc : LsAt w a n v) (hl : n ≤ 9223372036854775807) :
    Calls Try.prog 140 #[.slice a n cap] w fun e w' => e = .returned (.int .i64 (pkE n v)) ∧ w = w' := by
  have HC := Lib.hid hc
  clear hc
  by_cases hn : 65536 < n
  · have R := Lib.hid (show pkE n v = 4 by unfold pkE; rw [if_pos hn])
    go_enter Try.func140, Try.ntmps140
    go_wp2
    go_ret
    exact ⟨ret_int (by rw [R.out]), rfl⟩
  · have R := Lib.hid (show pkE n v = rgE 0 v n by unfold pkE; rw [if_neg hn])
    have WI := Lib.hid (fun x w => within_any x (-1099511627776) 1099511627776 w)
    go_enter Try.func140, Try.ntmps140
    go_wp2
    go_loop [10] (fun i => ∃ k : Nat, k ≤ n ∧ i = .int .i64 k ∧ rgE 0 v k = 0) (fun i => n - (intOf i).toNat)
    case atStart => exact ⟨0, Nat.zero_le _, rfl, rfl⟩
    case round =>
      obtain ⟨k, hk, rfl, h0⟩ := hrel
      have H0 := Lib.hid h0
      clear h0
      by_cases hlt : k < n
      · obtain ⟨b, off, rfl, hcell⟩ : ∃ b off, a = some ⟨b, off, none⟩ ∧ NumAt w b off n v := by
          rcases HC.out with z | h
          · omega
          · exact h
        have cc := hcell k hlt
        have HS := Lib.hid (show rgE 0 v (k + 1) = if withinB (v k) (-1099511627776) 1099511627776 = true then 0 else 3 by
          show (if rgE 0 v k = 0 then _ else _) = _; rw [if_pos H0.out])
        clear hcell
        have WK := Lib.hid (fun w => WI.out (v k) w)
        cases hb : withinB (v k) (-1099511627776) 1099511627776 with
        | true =>
          rw [hb] at WK HS
          clear hb
          go_wp2_with (go_at_call 91; refine (WK.out _).mono ?_; rintro e w' ⟨rfl, rfl⟩)
          go_round
          case rel => exact ⟨k + 1, by omega, by go_num, HS.out⟩
          case measure => simp [intOf]; omega
        | false =>
          rw [hb] at WK HS
          clear hb
          go_wp2_with (go_at_call 91; refine (WK.out _).mono ?_; rintro e w' ⟨rfl, rfl⟩)
          go_ret
          exact ⟨ret_int (by
            have h3 : rgE 0 v (k + 1) = 3 := HS.out
            have := rgE_stay 0 v (k + 1) (by rw [h3]; omega) (n - (k + 1))
            rw [R.out]; rw [show k + 1 + (n - (k + 1)) = n by omega] at this; rw [this, h3]), rfl⟩
      · obtain rfl : k = n := by omega
        go_wp2
        go_ret
        exact ⟨ret_int (by rw [R.out, H0.out]), rfl⟩
end Go.Proofs.Ythemmpmjjdpdfaa

/- Contract: unpackOne. -/
namespace Go.Proofs.Ythemmpmjjdpdfaa
open Go.RowKit
set_option linter.unusedVariables false

set_option maxHeartbeats 2000000 in
set_option maxRecDepth 100000 in
theorem unpackOne_any (L : List Int) (hB : isB L) (hl : L.length ≤ 9223372036854775807) (w : World) :
    Calls Try.prog 143 #[.string (txB L)] w fun e w' => ∃ (n wide : Int) (ok : Value), e = .returned (.tuple #[.int .i64 n, .int .i64 wide, ok]) ∧ OneIs L n wide ok ∧ w = w' := by
  have HB := Lib.hid hB
  have hs : (txB L).size = L.length := txB_size L
  have HX := Lib.hid (fun k (hk : k < L.length) w => index_ch (txB L) k (by rw [txB_size]; exact hk) w)
  have HCH := Lib.hid (fun k hk => chI_tx hB k hk)
  clear hB
  rcases Nat.lt_or_ge 9 L.length with hm | hm
  all_goals
    go_enter Try.func143, Try.ntmps143
    go_wp2
    go_loop [5, 11] (fun a i => ∃ k m : Nat, GrAt L k m ∧ a = .int .i64 m ∧ i = .int .i64 k) (fun _ i => 9 - (intOf i).toNat)
    case atStart => exact ⟨0, 0, GrAt.start L, rfl, rfl⟩
    case round =>
      obtain ⟨k, m, hG, rfl, rfl⟩ := hrel
      have HG := Lib.hid hG
      have k9 := hG.k9
      have kl := hG.len
      have ml := hG.lt
      clear hG
      by_cases hlt : k < 9 ∧ k < L.length
      · obtain ⟨hk, hl2⟩ := hlt
        have hx := fun w => HX.out k hl2 w
        rw [HCH.out k hl2] at hx
        obtain ⟨b1, b2⟩ := HB.out L[k] (List.getElem_mem hl2)
        generalize hc : L[k] = c at *
        have HC := Lib.hid hc
        clear hc
        have hW := grp_eq (c := c) m k b1 ml (by omega)
        have hyl := grp_lt ml (show c.toNat % 128 < 128 by omega) (show k ≤ 8 by omega)
        generalize hy : m + c.toNat % 128 * 128 ^ k = y at *
        have HY := Lib.hid hy
        clear hy ml
        by_cases h128 : c < 128
        · have LS := HG.out.last hk hl2 (by rw [HC.out]; exact h128)
          rw [HC.out, show c.toNat * 128 ^ k = c.toNat % 128 * 128 ^ k by rw [show c.toNat % 128 = c.toNat by omega], HY.out] at LS
          have LS := Lib.hid LS
          have O1 := Lib.hid (odd_div (y := y))
          have O2 := Lib.hid (even_div (y := y))
          rcases Nat.mod_two_eq_zero_or_one y with hp | hp
          all_goals
            have hpi : (y : Int) % 2 = ((y % 2 : Nat) : Int) := by omega
            rw [hp] at hpi
            go_wp2
            all_goals go_ret3
            all_goals exact ⟨_, _, _, rfl, OneIs.fin LS.out hl2 (by first | exact O1.out hp | exact O2.out hp) rfl (by simp; try omega), rfl⟩
        · have MO := Lib.hid (HG.out.more hk hl2 (by rw [HC.out]; exact b1) (by rw [HC.out]; exact h128))
          rw [HC.out, HY.out] at MO
          go_wp2
          exact ⟨⟨k + 1, y, MO.out, by rw [hW], by go_num⟩, by simp [intOf]; omega⟩
      · have NO := Lib.hid (HG.out.out (by omega))
        clear ml
        go_wp2
        go_ret3
        exact ⟨_, _, _, rfl, OneIs.no NO.out, rfl⟩

theorem unpackOne_no (L : List Int) (hB : isB L) (hl : L.length ≤ 9223372036854775807) (w : World) (h : oneG 9 true L = none) :
    Calls Try.prog 143 #[.string (txB L)] w fun e w' => ∃ (n wide : Int), e = .returned (.tuple #[.int .i64 n, .int .i64 wide, .bool false]) ∧ w = w' :=
  (unpackOne_any L hB hl w).mono fun e w' ⟨n, wide, ok, he, h1, hw⟩ => by
    unfold OneIs at h1; rw [h] at h1
    subst h1
    exact ⟨n, wide, he, hw⟩
theorem unpackOne_ok (L : List Int) (hB : isB L) (hl : L.length ≤ 9223372036854775807) (w : World) (m k : Nat) (h : oneG 9 true L = some (m, L.drop k)) (hk : 1 ≤ k) (hk2 : k ≤ L.length) :
    Calls Try.prog 143 #[.string (txB L)] w fun e w' => e = .returned (.tuple #[.int .i64 (unz m), .int .i64 (k : Int), .bool true]) ∧ w = w' :=
  (unpackOne_any L hB hl w).mono fun e w' ⟨n, wide, ok, he, h1, hw⟩ => by
    unfold OneIs at h1; rw [h] at h1
    obtain ⟨rfl, rfl, j, rfl, j1, j2, hd⟩ := h1
    have := congrArg List.length hd
    simp only [List.length_drop] at this
    obtain rfl : k = j := by omega
    exact ⟨he, hw⟩
theorem one_form {L : List Int} {p : Nat × List Int} (h : oneG 9 true L = some p) : ∃ m k, oneG 9 true L = some (m, L.drop k) ∧ 1 ≤ k ∧ k ≤ L.length := by
  obtain ⟨m, r⟩ := p
  obtain ⟨k, k1, k2, _, rfl⟩ := one_rest 9 true L m r h
  exact ⟨m, k, h, k1, k2⟩
end Go.Proofs.Ythemmpmjjdpdfaa

/- Contract: Unpack. -/
namespace Go.Proofs.Ythemmpmjjdpdfaa
open Go.RowKit
set_option linter.unusedVariables false

set_option maxHeartbeats 2000000 in
set_option maxRecDepth 100000 in
theorem unpack_any (L : List Int) (hB : isB L) (hl : L.length ≤ 4194304) (w : World) :
    Calls Try.prog 71 #[.string (txB L)] w fun e w' => ∃ a n cap k, e = .returned (.tuple #[.slice a n cap, .int .i64 k]) ∧ UnOk L w' a n k ∧ Below w.heap.size w w' := by
  have HB := Lib.hid hB
  have hs : (txB L).size = L.length := txB_size L
  have hinfo : (Try.prog.info? 3).map (fun i => (i.zero, i.size, i.bytes)) = some (some (.int .i64 0), 1, 8) := by kernel_rfl
  obtain ⟨i0, hi0, hz0, hz1, hz2⟩ := info_parts hinfo
  have HI := Lib.hid hi0
  clear hB hinfo hi0
  go_enter Try.func71, Try.ntmps71
  go_wp2
  go_loopw [0, 4] (fun t l wr => ∃ (M R : List Int) (f : Nat), t = .string (txB R) ∧ UnAt L M R f ∧ InAt w.heap.size M l wr ∧ Below w.heap.size w wr) (fun t _ _ => match t with | .string s => s.size | _ => 0)
  case atStart => exact ⟨[], L, L.length, rfl, UnAt.start HB.out, World.ownsRow_nil _ _ _ _, Below.refl _ _⟩
  case round =>
    obtain ⟨M, R, f, rfl, hU, hM, hb⟩ := hrel
    have HU := Lib.hid hU
    have HM := Lib.hid hM
    have HW := Lib.hid hb
    clear hU hM hb
    by_cases hR : R = []
    · subst hR
      have hem := tx_empty0
      have HD := Lib.hid HU.out.done
      obtain ⟨a, cap, rfl, hls⟩ := HM.out.ls
      have HLS := Lib.hid hls
      have hlen := HU.out.len
      have CP := Lib.hid (checkPacked_any M.length cap a (numOf M) wr hls (by omega))
      clear hls
      by_cases h0 : pkE M.length (numOf M) = 0
      · rw [h0] at CP
        have H0 := Lib.hid h0
        clear h0
        go_wp2_with (go_at_call 140; refine CP.out.mono ?_; rintro e w' ⟨rfl, rfl⟩)
        go_ret2
        refine ⟨_, _, _, _, rfl, ?_, HW.out⟩
        unfold UnOk; rw [HD.out]
        exact ⟨H0.out.symm, fun h => absurd rfl h, fun _ => ⟨rfl, HLS.out⟩⟩
      · have H0 : (pkE M.length (numOf M) != 0) = true := by simpa using h0
        have H1 := Lib.hid h0
        have HE := Lib.hid (Eq.refl (pkE M.length (numOf M)))
        clear h0
        generalize hq : pkE M.length (numOf M) = q at H0 CP
        have HQ := Lib.hid hq
        clear hq
        go_wp2_with (go_at_call 140; refine CP.out.mono ?_; rintro e w' ⟨rfl, rfl⟩)
        go_ret2
        refine ⟨_, _, _, _, rfl, ?_, HW.out⟩
        unfold UnOk; rw [HD.out]
        exact ⟨HQ.out.symm, fun _ => rfl, fun h => absurd (HQ.out.trans h) H1.out⟩
    · have hne := tx_empty hR
      have hsz : (txB R).size = R.length := txB_size R
      have hlen := HU.out.len
      cases hO : oneG 9 true R with
      | none =>
        have UR := Lib.hid (fun w => unpackOne_no R HU.out.bytes (by omega) w hO)
        have HN := Lib.hid (HU.out.no hR hO)
        clear hO hR
        go_wp2_with (go_at_call 143; refine (UR.out _).mono ?_; rintro e w' ⟨n, wide, rfl, rfl⟩)
        go_ret2
        refine ⟨_, _, _, _, rfl, ?_, HW.out⟩
        unfold UnOk; rw [HN.out]
        exact ⟨rfl, rfl⟩
      | some p =>
        obtain ⟨m, k, h1, k1, k2⟩ := one_form hO
        have UR := Lib.hid (fun w => unpackOne_ok R HU.out.bytes (by omega) w m k h1 k1 k2)
        have HN := Lib.hid (HU.out.more hR h1 k1 k2)
        clear hO h1 hR
        have hi := HI.out
        have sz := HW.out.size
        go_wp2_with (first
          | (go_at_call 143; refine (UR.out _).mono ?_; rintro e w' ⟨rfl, rfl⟩)
          | (at_builtin; go_loud (refine wpList_append_own _ rfl _ _ 112 rfl w.heap.size 3 i0 (.int .i64 0) 1 8 Try.underlying112 hi hz0 hz1 hz2 rfl (by decide) _ _ _ rfl (World.ownsRow.alloc HM.out _) ⟨wr.heap.size, 0, none⟩ 1 1 [.int .i64 (unz m)] rfl rfl (by intro j u hj; match j, hj with | 0, hj => (simp at hj; subst hj; simp [Addr.add])) (by intro u hu; simp at hu; subst hu; rfl) (by unfold maxLen; omega) (by omega) (by simp; omega) ?_; intro v' w2 hown' hgrow _)))
        rw [tx_drop]
        obtain ⟨g, hg⟩ := HN.out
        refine ⟨⟨_, _, g, rfl, hg, ?_, (HW.out.alloc sz _).grown hgrow (by simp; omega) (fun j hj => (HM.out.lt j hj).1)⟩, ?_⟩
        · unfold InAt; rw [inL_app, List.length_append]; exact hown'
        · show (txB (R.drop k)).size < (txB R).size
          rw [txB_size, txB_size, List.length_drop]; omega
end Go.Proofs.Ythemmpmjjdpdfaa

/- Contract: the reference's Unpacked. -/
namespace Go.Proofs.Ythemmpmjjdpdfaa
open Go.RowKit
set_option linter.unusedVariables false

theorem and127 {c : Int} (h0 : 0 ≤ c) (h1 : c < 256) : bits BinOp.and IntKind.u8 c 127 = c % 128 := by
  have h : ∀ n : Nat, n < 256 → bits BinOp.and IntKind.u8 (n : Int) 127 = (n : Int) % 128 := by decide +kernel
  obtain ⟨n, rfl⟩ := Int.eq_ofNat_of_zero_le h0
  exact h n (by omega)

set_option maxHeartbeats 4000000 in
set_option maxRecDepth 100000 in
theorem unpacked_any (L : List Int) (hB : isB L) (hl : L.length ≤ 4194304) (w : World) :
    Calls Try.prog 75 #[.string (txB L)] w fun e w' => ∃ a n cap ok, e = .returned (.tuple #[.slice a n cap, ok]) ∧ UnRf L w' a n ok ∧ Below w.heap.size w w' := by
  have HB := Lib.hid hB
  have hs : (txB L).size = L.length := txB_size L
  have hinfo : (Try.prog.info? 3).map (fun i => (i.zero, i.size, i.bytes)) = some (some (.int .i64 0), 1, 8) := by kernel_rfl
  obtain ⟨i0, hi0, hz0, hz1, hz2⟩ := info_parts hinfo
  have HI := Lib.hid hi0
  clear hB hinfo hi0
  go_enter Try.func75, Try.ntmps75
  go_wp2
  go_loopw [0, 4] (fun t l wr => ∃ (M R : List Int) (f : Nat), t = .string (txB R) ∧ UnAt L M R f ∧ InAt w.heap.size M l wr ∧ Below w.heap.size w wr) (fun t _ _ => match t with | .string s => s.size | _ => 0)
  case atStart => exact ⟨[], L, L.length, rfl, UnAt.start HB.out, World.ownsRow_nil _ _ _ _, Below.refl _ _⟩
  case round =>
    obtain ⟨M, R, f, rfl, hU, hM, hb⟩ := hrel
    have HU := Lib.hid hU
    have HM := Lib.hid hM
    have HW := Lib.hid hb
    clear hU hM hb
    by_cases hR : R = []
    · subst hR
      have hem := tx_empty0
      have HD := Lib.hid HU.out.done
      obtain ⟨a, cap, rfl, hls⟩ := HM.out.ls
      have HLS := Lib.hid hls
      clear hls
      go_wp2
      go_ret2
      refine ⟨_, _, _, _, rfl, ?_, HW.out⟩
      unfold UnRf; rw [HD.out]
      exact ⟨rfl, rfl, HLS.out⟩
    · have hne := tx_empty hR
      have hsz : (txB R).size = R.length := txB_size R
      have hlen := HU.out.len
      have HR := Lib.hid hR
      have HX := Lib.hid (fun k (hk : k < R.length) w => index_ch (txB R) k (by rw [txB_size]; exact hk) w)
      have HCH := Lib.hid (fun k hk => chI_tx HU.out.bytes k hk)
      clear hR
      go_wp2
      go_loop [5, 6] (fun a i => ∃ k m : Nat, GrAt R k m ∧ a = .int .i64 m ∧ i = .int .i64 k) (fun _ i => 9 - (intOf i).toNat)
      case atStart => exact ⟨0, 0, GrAt.start R, rfl, rfl⟩
      case round =>
        obtain ⟨k, m, hG, rfl, rfl⟩ := hrel
        have HG := Lib.hid hG
        have k9 := hG.k9
        have kl := hG.len
        have ml := hG.lt
        clear hG
        by_cases hlt : k < 9 ∧ k < R.length
        · obtain ⟨hk, hl2⟩ := hlt
          have hx := fun w => HX.out k hl2 w
          rw [HCH.out k hl2] at hx
          obtain ⟨b1, b2⟩ := HU.out.bytes R[k] (List.getElem_mem hl2)
          generalize hc : R[k] = c at *
          have HC := Lib.hid hc
          clear hc
          have hW := grp_eq (c := c) m k b1 ml (by omega)
          have hyl := grp_lt ml (show c.toNat % 128 < 128 by omega) (show k ≤ 8 by omega)
          generalize hy : m + c.toNat % 128 * 128 ^ k = y at *
          have HY := Lib.hid hy
          clear hy ml
          have hA := and127 b1 b2
          have e1 : ((k : Int) == (R.length : Int)) = false := by simp; omega
          have e2 : ((k : Int) == 9) = false := by simp; omega
          by_cases h128 : c < 128
          · have LS := HG.out.last hk hl2 (by rw [HC.out]; exact h128)
            rw [HC.out, show c.toNat * 128 ^ k = c.toNat % 128 * 128 ^ k by rw [show c.toNat % 128 = c.toNat by omega], HY.out] at LS
            by_cases hz : c = 0 ∧ k ≠ 0
            · rw [if_pos hz] at LS
              have HN := Lib.hid (HU.out.no HR.out LS)
              obtain ⟨rfl, z2⟩ := hz
              clear LS
              have hk1 : 1 < (k : Int) + 1 := by omega
              go_wp2
              go_ret2
              refine ⟨_, _, _, _, rfl, ?_, HW.out⟩
              unfold UnRf; rw [HN.out]
              exact ⟨rfl, rfl⟩
            · rw [if_neg hz] at LS
              have HN := Lib.hid (HU.out.more (k := k + 1) HR.out LS (by omega) (by omega))
              clear LS
              have hi := HI.out
              have sz := HW.out.size
              obtain ⟨q1, q2⟩ := unz_in hyl
              have hq1 : y % 2 = 1 → (wrap64 (-wrap64 ((y : Int) + 1))).tdiv 2 = unz y := fun h => odd_ref h hyl
              have hq2 : y % 2 = 0 → (y : Int) / 2 = unz y := even_div
              generalize unz y = z at *
              have hzz : wrap64 z = z := IntWalk.wrap64_in _ ⟨by omega, by omega⟩
              have hc0 : ¬ (1 < (k : Int) + 1) ∨ (1 < (k : Int) + 1 ∧ (c == 0) = false) := by
                rcases Nat.eq_zero_or_pos k with h | h
                · exact .inl (by omega)
                · exact .inr ⟨by omega, by simp; omega⟩
              have hpar := Nat.mod_two_eq_zero_or_one y
              clear hz
              have HHC := Lib.hid hc0
              clear hc0
              rcases hpar with hp | hp
              all_goals
                have hpi : (y : Int) % 2 = ((y % 2 : Nat) : Int) := by omega
                rw [hp] at hpi
                first | (have hq := hq1 hp; clear hq1 hq2) | (have hq := hq2 hp; clear hq1 hq2)
                rcases HHC.out with g1 | ⟨g1, g2⟩
                all_goals
                  go_wp2_with (at_builtin; go_loud (refine wpList_append_own _ rfl _ _ 112 rfl w.heap.size 3 i0 (.int .i64 0) 1 8 Try.underlying112 hi hz0 hz1 hz2 rfl (by decide) _ _ _ rfl (World.ownsRow.alloc HM.out _) ⟨wr.heap.size, 0, none⟩ 1 1 [.int .i64 z] rfl rfl (by intro j u hj; match j, hj with | 0, hj => (simp at hj; subst hj; simp [Addr.add])) (by intro u hu; simp at hu; subst hu; rfl) (by unfold maxLen; omega) (by omega) (by simp; omega) ?_; intro v' w2 hown' hgrow _))
                  rw [tx_drop]
                  obtain ⟨g, hg⟩ := HN.out
                  refine ⟨⟨_, _, g, rfl, hg, ?_, (HW.out.alloc sz _).grown hgrow (by simp; omega) (fun j hj => (HM.out.lt j hj).1)⟩, ?_⟩
                  · unfold InAt; rw [inL_app, List.length_append]; exact hown'
                  · show (txB (R.drop (k + 1))).size < (txB R).size
                    rw [txB_size, txB_size, List.length_drop]; omega
          · have MO := Lib.hid (HG.out.more hk hl2 (by rw [HC.out]; exact b1) (by rw [HC.out]; exact h128))
            rw [HC.out, HY.out] at MO
            go_wp2
            exact ⟨⟨k + 1, y, MO.out, by rw [hW], by go_num⟩, by simp [intOf]; omega⟩
        · have NO := Lib.hid (HU.out.no HR.out (HG.out.out (by omega)))
          clear ml
          have hk9 : (k : Int) = (R.length : Int) ∨ (k = 9 ∧ (k : Int) ≠ (R.length : Int)) := by omega
          clear hlt
          rcases hk9 with hk9 | ⟨rfl, hk9⟩
          all_goals
            go_wp2
            go_ret2
            refine ⟨_, _, _, _, rfl, ?_, HW.out⟩
            unfold UnRf; rw [NO.out]
            exact ⟨rfl, rfl⟩
end Go.Proofs.Ythemmpmjjdpdfaa

/- Contract: Pack. -/
namespace Go.Proofs.Ythemmpmjjdpdfaa
open Go.RowKit
set_option linter.unusedVariables false

theorem pkE_ok {n : Nat} {v : Nat → Int} (h : pkE n v = 0) : n ≤ 65536 ∧ rgE 0 v n = 0 := by
  unfold pkE at h
  by_cases c : 65536 < n
  · rw [if_pos c] at h; omega
  · rw [if_neg c] at h; exact ⟨by omega, h⟩

set_option maxHeartbeats 1000000 in
set_option maxRecDepth 100000 in
theorem pack_bad (n cap : Nat) (a : Option Addr) (v : Nat → Int) (w : World) (hc : LsAt w a n v) (hl : n ≤ 9223372036854775807) (h0 : pkE n v ≠ 0) :
    Calls Try.prog 69 #[.slice a n cap] w fun e w' => e = .returned (.tuple #[.string ⟨#[]⟩, .int .i64 (pkE n v)]) ∧ w = w' := by
  have CP := Lib.hid (checkPacked_any n cap a v w hc hl)
  have H0 : (pkE n v != 0) = true := by simpa using h0
  clear hc h0
  generalize pkE n v = er at *
  go_enter Try.func69, Try.ntmps69
  go_wp2_with (go_at_call 140; refine CP.out.mono ?_; rintro e w' ⟨rfl, rfl⟩)
  go_ret2
  exact ⟨rfl, rfl⟩

set_option maxHeartbeats 2000000 in
set_option maxRecDepth 100000 in
theorem pack_ok (n cap : Nat) (a : Option Addr) (v : Nat → Int) (w : World) (hc : LsAt w a n v) (h0 : pkE n v = 0) :
    Calls Try.prog 69 #[.slice a n cap] w fun e w' => e = .returned (.tuple #[.string (txB (pkL v n)), .int .i64 0]) ∧ Below w.heap.size w w' := by
  obtain ⟨hn, h1⟩ := pkE_ok h0
  have CP := Lib.hid (checkPacked_any n cap a v w hc (by omega))
  rw [h0] at CP
  have HIN := Lib.hid (rgE_zero v n h1)
  have HC := Lib.hid hc
  have BY := Lib.hid bldByte_any
  have BS := Lib.hid bldString_any
  have B0 := Lib.hid (bldNew w)
  clear hc h0 h1
  go_enter Try.func69, Try.ntmps69
  go_wp2_with (go_at_call 140; refine CP.out.mono ?_; rintro e w' ⟨rfl, rfl⟩)
  go_loopw [16] (fun i wr => ∃ k : Nat, k ≤ n ∧ i = .int .i64 k ∧ BldAt w.heap.size w.heap.size (pkL v k) wr ∧ Below w.heap.size w wr) (fun i _ => n - (intOf i).toNat)
  case atStart => exact ⟨0, Nat.zero_le _, rfl, B0.out, (by repeat (first | exact Below.refl _ _ | refine Below.alloc ?_ (by first | omega | (simp; done) | (simp; omega)) _ | refine Below.setCell ?_ (by first | omega | (simp; done) | (simp; omega)) _ | refine Below.drew ?_))⟩
  case round =>
    obtain ⟨k, hk, rfl, hB, hb⟩ := hrel
    have HB := Lib.hid hB
    have HW := Lib.hid hb
    clear hB hb
    by_cases hlt : k < n
    · obtain ⟨b, off, rfl, hcell⟩ : ∃ b off, a = some ⟨b, off, none⟩ ∧ NumAt w b off n v := by
        rcases HC.out with z | h
        · omega
        · exact h
      have zb : b < w.heap.size := World.block_lt_of_cell? w _ (hcell k hlt)
      have cc := numAt_congr hcell (HW.out.block b zb) k hlt
      obtain ⟨i1, i2⟩ := HIN.out k hlt
      clear hcell
      obtain ⟨q1, q2⟩ := pkL_bd v k fun i hi => HIN.out i (by omega)
      have HQ := Lib.hid q2
      obtain ⟨r1, r2⟩ := pkN_bd 5 (zigN (v k)) (zig_lt ⟨i1, i2⟩)
      have HR := Lib.hid r2
      have HZ := Lib.hid (zig_lt ⟨i1, i2⟩)
      have HP := Lib.hid (show pkL v (k + 1) = pkL v k ++ pkN (zigN (v k)) from rfl)
      have Z1 := Lib.hid (show v k < 0 → -(2 * v k) - 1 = ((zigN (v k) : Nat) : Int) from fun h => by unfold zigN; rw [if_pos h]; omega)
      have Z2 := Lib.hid (show ¬ v k < 0 → 2 * v k = ((zigN (v k) : Nat) : Int) from fun h => by unfold zigN; rw [if_neg h]; omega)
      clear q1 q2 r1 r2
      generalize v k = x at *
      by_cases hsg : x < 0
      all_goals
        go_wp2
        go_loopw [8] (fun m wr => ∃ (y : Nat) (P : List Int), m = .int .i64 y ∧ y < 4398046511104 ∧ P ++ pkN y = pkN (zigN x) ∧ BldAt w.heap.size w.heap.size (pkL v k ++ P) wr ∧ Below w.heap.size w wr) (fun m _ => (intOf m).toNat)
        case atStart => exact ⟨zigN x, [], by first | rw [← Z1.out hsg] | rw [← Z2.out hsg], HZ.out, rfl, by rw [List.append_nil]; exact HB.out, HW.out⟩
        case round =>
          obtain ⟨y, P, rfl, hy, hP, hB, hb⟩ := hrel
          have HB := Lib.hid hB
          have HW := Lib.hid hb
          have HPP := Lib.hid hP
          clear hB hb hP
          have hlen : (pkL v k ++ P).length + 1 ≤ 140737488355328 := by
            have e := congrArg List.length HPP.out
            have e1 := List.length_pos_iff.2 (pkN_ne y)
            have e2 := HR.out
            have e3 := HQ.out
            rw [List.length_append] at e ⊢
            omega
          have HL := Lib.hid hlen
          have sz := HW.out.size
          clear hlen
          by_cases hy8 : y < 128
          · have HN := Lib.hid (pkN_lo hy8)
            go_wp2_with (go_at_call 141; refine (BY.out w.heap.size w.heap.size (pkL v k ++ P) _ _ HB.out HL.out (by omega)).mono ?_; rintro e w2 ⟨rfl, hB2, hb2⟩; have HB2 := Lib.hid hB2; have HW2 := Lib.hid (HW.out.trans hb2); clear hB2 hb2)
            go_roundw
            case rel => exact ⟨k + 1, by omega, by go_num, by rw [HP.out, ← HPP.out, HN.out, ← List.append_assoc]; exact HB2.out, HW2.out⟩
            case measure => simp [intOf]; omega
          · have HN := Lib.hid (pkN_hi hy8)
            go_wp2_with (go_at_call 141; refine (BY.out w.heap.size w.heap.size (pkL v k ++ P) _ _ HB.out HL.out (by omega)).mono ?_; rintro e w2 ⟨rfl, hB2, hb2⟩; have HB2 := Lib.hid hB2; have HW2 := Lib.hid (HW.out.trans hb2); clear hB2 hb2)
            go_roundw
            case rel =>
              refine ⟨y / 128, P ++ [((y % 128 + 128 : Nat) : Int)], by go_num, by omega, ?_, by rw [← List.append_assoc]; exact HB2.out, HW2.out⟩
              rw [← HPP.out, HN.out, List.append_assoc]; rfl
            case measure => simp [intOf]; omega
    · obtain rfl : k = n := by omega
      have HI := Lib.hid (pkL_bd v k HIN.out).1
      have sz := HW.out.size
      go_wp2_with (go_at_call 142; refine (BS.out w.heap.size w.heap.size (pkL v k) _ HB.out HI.out (by omega)).mono ?_; rintro e w2 ⟨rfl, hb2⟩; have HW2 := Lib.hid (HW.out.trans hb2); clear hb2)
      go_ret2
      exact ⟨rfl, HW2.out⟩
end Go.Proofs.Ythemmpmjjdpdfaa

/- Contract: the reference's Packed. -/
namespace Go.Proofs.Ythemmpmjjdpdfaa
open Go.RowKit
set_option linter.unusedVariables false

theorem conv_one (c : Int) (h : 0 ≤ c ∧ c < 256) (w : World) :
    (convert 198 9 (.slice (some ⟨w.heap.size, 0, none⟩) 1 1)).run Try.prog (w.alloc (.cells #[.int .u8 c] 5)) = .ok (.string (txB [c])) (w.alloc (.cells #[.int .u8 c] 5)) := by
  have := run_convert_bytes_back (P := Try.prog) (w.alloc (.cells #[.int .u8 c] 5)) 198 9 5 ⟨w.heap.size, 0, none⟩ 1 [UInt8.ofNat c.toNat] Try.underlying198 Try.underlying5 Try.underlying9 (fun j hj => by
    obtain rfl : j = 0 := by simp at hj; exact hj
    rw [show (⟨w.heap.size, 0, none⟩ : Addr).add 0 = ⟨w.heap.size, 0, none⟩ from rfl, Lib.cell_of_heap (heap_alloc_new w _)]
    show some (Value.int .u8 c) = some (Value.int .u8 ((UInt8.ofNat c.toNat).toNat : Int))
    rw [UInt8.toNat_ofNat']
    congr 2; omega)
  exact this

theorem bt_assoc (T : ByteArray) (P Q : List Int) : T ++ txB P ++ txB Q = T ++ txB (P ++ Q) := by
  rw [txB_app, ByteArray.append_assoc]
theorem bt_nil (T : ByteArray) : T ++ txB [] = T := by
  apply ByteArray.ext
  simp [txB]

set_option maxHeartbeats 2000000 in
set_option maxRecDepth 100000 in
theorem packed_any (n cap : Nat) (a : Option Addr) (v : Nat → Int) (w : World) (hc : LsAt w a n v) (hn : n ≤ 65536) (h0 : ∀ i, i < n → pkIn (v i)) :
    Calls Try.prog 70 #[.slice a n cap] w fun e w' => e = .returned (.string (txB (pkL v n))) ∧ Below w.heap.size w w' := by
  have HIN := Lib.hid h0
  have HC := Lib.hid hc
  clear hc h0
  go_enter Try.func70, Try.ntmps70
  go_wp2
  go_loopw [3, 9] (fun o i wr => ∃ k : Nat, k ≤ n ∧ o = .string (txB (pkL v k)) ∧ i = .int .i64 k ∧ Below w.heap.size w wr) (fun _ i _ => n - (intOf i).toNat)
  case atStart => exact ⟨0, Nat.zero_le _, rfl, rfl, (by repeat (first | exact Below.refl _ _ | refine Below.alloc ?_ (by first | omega | (simp; done) | (simp; omega)) _ | refine Below.setCell ?_ (by first | omega | (simp; done) | (simp; omega)) _ | refine Below.drew ?_))⟩
  case round =>
    obtain ⟨k, hk, rfl, rfl, hb⟩ := hrel
    have HW := Lib.hid hb
    clear hb
    by_cases hlt : k < n
    · obtain ⟨b, off, rfl, hcell⟩ : ∃ b off, a = some ⟨b, off, none⟩ ∧ NumAt w b off n v := by
        rcases HC.out with z | h
        · omega
        · exact h
      have zb : b < w.heap.size := World.block_lt_of_cell? w _ (hcell k hlt)
      have cc := numAt_congr hcell (HW.out.block b zb) k hlt
      obtain ⟨i1, i2⟩ := HIN.out k hlt
      clear hcell
      have HZ := Lib.hid (zig_lt ⟨i1, i2⟩)
      have HP := Lib.hid (show txB (pkL v (k + 1)) = txB (pkL v k) ++ txB (pkN (zigN (v k))) from txB_app _ _)
      have Z1 := Lib.hid (show v k < 0 → -2 * v k - 1 = ((zigN (v k) : Nat) : Int) from fun h => by unfold zigN; rw [if_pos h]; omega)
      have Z2 := Lib.hid (show ¬ v k < 0 → 2 * v k = ((zigN (v k) : Nat) : Int) from fun h => by unfold zigN; rw [if_neg h]; omega)
      have hT : (txB (pkL v k)).size ≤ 393216 := by rw [txB_size]; have := (pkL_bd v k fun i hi => HIN.out i (by omega)).2; omega
      have HR := Lib.hid (pkN_bd 5 (zigN (v k)) (zig_lt ⟨i1, i2⟩)).2
      generalize v k = x at *
      generalize txB (pkL v k) = T at *
      by_cases hsg : x < 0
      all_goals
        go_wp2
        go_loopw [3, 6] (fun o m wr => ∃ (y : Nat) (P : List Int), o = .string (T ++ txB P) ∧ m = .int .i64 y ∧ y < 4398046511104 ∧ P ++ pkN y = pkN (zigN x) ∧ Below w.heap.size w wr) (fun _ m _ => (intOf m).toNat)
        case atStart => exact ⟨zigN x, [], by rw [bt_nil], by first | rw [← Z1.out hsg] | rw [← Z2.out hsg], HZ.out, rfl, HW.out⟩
        case round =>
          obtain ⟨y, P, rfl, rfl, hy, hP, hb⟩ := hrel
          have HW := Lib.hid hb
          have HPP := Lib.hid hP
          clear hb hP
          have hPs : (txB P).size ≤ 6 := by
            have e := congrArg List.length HPP.out
            have e2 := HR.out
            rw [List.length_append] at e
            rw [txB_size]; omega
          by_cases hy8 : y < 128
          · have HN := Lib.hid (pkN_lo hy8)
            have CV := fun w => conv_one (y : Int) ⟨by omega, by omega⟩ w
            have h1 : (txB [(y : Int)]).size = 1 := rfl
            go_wp2
            exact ⟨⟨k + 1, by omega, by rw [HP.out, ← HPP.out, HN.out, ← bt_assoc], by go_num, HW.out.alloc HW.out.size _⟩, by simp [intOf]; omega⟩
          · have HN := Lib.hid (pkN_hi hy8)
            have CV := fun w => conv_one (128 + (y : Int) % 128) ⟨by omega, by omega⟩ w
            have h1 : (txB [128 + (y : Int) % 128]).size = 1 := rfl
            go_wp2
            refine ⟨?_, by simp [intOf]; omega⟩
            · refine ⟨y / 128, P ++ [((y % 128 + 128 : Nat) : Int)], ?_, by go_num, by omega, ?_, HW.out.alloc HW.out.size _⟩
              · rw [bt_assoc, show ((y % 128 + 128 : Nat) : Int) = 128 + (y : Int) % 128 by omega]
              · rw [← HPP.out, HN.out, List.append_assoc]; rfl
    · obtain rfl : k = n := by omega
      go_wp2
      go_ret
      exact ⟨rfl, HW.out⟩
end Go.Proofs.Ythemmpmjjdpdfaa

/- The floor of a single, by the model's own rounding of a double to a whole number. -/
namespace Go.Proofs.Ythemmpmjjdpdfaa.Fl
open Ieee

/-- Down to a whole number: the magnitude. -/
theorem cut_down (s : Bool) (M k : Nat) : Toward.down.cut s M k = M / 2 ^ k + (s && decide (M % 2 ^ k ≠ 0)).toNat := by
  unfold Toward.cut
  simp only [Nat.one_shiftLeft]
  rcases Nat.le_total k (M.log2 + 2) with c | c
  · rw [Nat.min_eq_left c]
    congr 2
    simp [bne, BEq.beq]
  · rw [Nat.min_eq_right c]
    have h : M < 2 ^ (M.log2 + 2) := by
      rcases Nat.eq_zero_or_pos M with z | z
      · subst z; exact Nat.two_pow_pos _
      · exact Nat.lt_trans (Nat.lt_log2_self) (Nat.pow_lt_pow_right (by omega) (by omega))
    have h' : M < 2 ^ k := Nat.lt_of_lt_of_le h (Nat.pow_le_pow_right (by omega) c)
    rw [Nat.div_eq_of_lt h, Nat.div_eq_of_lt h', Nat.mod_eq_of_lt h, Nat.mod_eq_of_lt h']
    congr 2
    simp [bne, BEq.beq]

/-- The whole part of a double's magnitude, rounded down. -/
theorem integral_down {s : Bool} {M : Nat} {I : Int} {A : Nat} (hI : -1074 ≤ I) (hA : M * 2 ^ (I + 1074).toNat = A) :
    (Datum.number s M I).integral .down = .number s (A / one + (s && decide (A % one ≠ 0)).toNat) 0 := by
  show Datum.number s (Toward.down.cut s (M <<< I.toNat) (-I).toNat) 0 = _
  rw [cut_down, Nat.shiftLeft_eq]
  congr 1
  obtain ⟨j, hj⟩ : ∃ j : Nat, j = 1074 := ⟨_, rfl⟩
  rcases Int.le_total 0 I with c | c
  · have e : (I + 1074).toNat = I.toNat + j := by omega
    rw [e, Nat.pow_add, ← Nat.mul_assoc] at hA
    rw [show (-I).toNat = 0 by omega, Nat.pow_zero, Nat.div_one, Nat.mod_one, ← hA, one_pow hj, Nat.mul_div_cancel _ (Nat.two_pow_pos j), Nat.mul_mod_left]
  · obtain ⟨k, hk⟩ : ∃ k : Nat, k = (-I).toNat := ⟨_, rfl⟩
    have eo : one = 2 ^ k * 2 ^ (I + 1074).toNat := one_split (by omega)
    have p : 0 < 2 ^ (I + 1074).toNat := Nat.two_pow_pos _
    have hdec : decide (M % 2 ^ k * 2 ^ (I + 1074).toNat ≠ 0) = decide (M % 2 ^ k ≠ 0) := by
      generalize 2 ^ (I + 1074).toNat = P at *
      rw [decide_eq_decide]
      constructor
      · intro h h'; exact h (by rw [h', Nat.zero_mul])
      · intro h h'
        rcases Nat.mul_eq_zero.1 h' with x | x
        · exact h x
        · omega
    rw [show I.toNat = 0 by omega, Nat.pow_zero, Nat.mul_one, ← hk, ← hA, eo, Nat.mul_div_mul_right _ _ p, Nat.mul_mod_mul_right, hdec]

/-- The floor of a value. -/
def flV (a : Int) : Int := a / (one : Int) * (one : Int)

theorem fl_sign {O A : Nat} (hO : 0 < O) {s : Bool} {a : Int} (ha : a = (if s then -1 else 1) * (A : Int)) : (if s then -1 else 1) * (((A / O + (s && decide (A % O ≠ 0)).toNat) * O : Nat) : Int) = a / (O : Int) * (O : Int) := by
  have hd := Nat.div_add_mod A O
  have hr := Nat.mod_lt A hO
  have key : a / (O : Int) = (if s then -1 else 1) * ((A / O + (s && decide (A % O ≠ 0)).toNat : Nat) : Int) := by
    cases s with
    | false =>
      simp at ha ⊢
      rw [ha]
    | true =>
      generalize A / O = q at *
      generalize A % O = r at *
      simp only [if_true, Bool.true_and] at *
      have e : (A : Int) = (O : Int) * (q : Int) + (r : Int) := by rw [← Int.natCast_mul, ← Int.natCast_add, hd]
      rw [ha, e]
      by_cases z : r = 0
      · subst z
        have : (-1 : Int) * ((O : Int) * (q : Int) + ((0 : Nat) : Int)) = (O : Int) * (-(q : Int)) := by grind
        rw [this, Int.mul_ediv_cancel_left _ (by omega)]; simp
      · have : (-1 : Int) * ((O : Int) * (q : Int) + (r : Int)) = ((O : Int) - r) + (O : Int) * (-((q : Int) + 1)) := by grind
        rw [this, Int.add_mul_ediv_left _ _ (by omega), Int.ediv_eq_zero_of_lt (by omega) (by omega)]
        simp [z]
  rw [key, Int.natCast_mul, Int.mul_assoc]

theorem flV_sign {s : Bool} {A : Nat} {a : Int} (ha : a = (if s then -1 else 1) * (A : Int)) : (if s then -1 else 1) * (((A / one + (s && decide (A % one ≠ 0)).toNat) * one : Nat) : Int) = flV a := fl_sign one_pos ha

theorem whole_small {O A c : Nat} (hO : 0 < O) (h : c = A / O ∨ c = A / O + 1) : c * O ≤ A + O := by
  have hd := Nat.div_add_mod A O
  rcases h with rfl | rfl
  · rw [Nat.mul_comm]; omega
  · rw [Nat.succ_mul, Nat.mul_comm]; omega

/-- The word of a floor. -/
def flW (x : Nat) : Nat := ((Go.floatToFloatBits .f32 x .f64).bind fun X => Go.floatToFloatBits .f64 (double.write ((double.read X).integral .down)) .f32).getD 0

theorem floor_parts {x : Nat} {a : Int} {k : Nat} (h : vS x = some a) (hb : Bd k x) (hk : k ≤ 50) :
    ∃ X s M I F, Go.floatToFloatBits .f32 x .f64 = some X ∧ double.read X = .number s M I ∧ double.write ((double.read X).integral .down) = F ∧ Go.floatToFloatBits .f64 F .f32 = some (flW x) ∧ vS (flW x) = some (flV a) := by
  obtain ⟨s, m, p, e, rfl⟩ := vS_some h
  obtain ⟨X, M, I, c1, c2, c3, c4, _⟩ := toD e
  obtain ⟨A, hA⟩ : ∃ A, A = m * 2 ^ (p + 1074).toNat := ⟨_, rfl⟩
  have hv : vOf s m p = (if s then -1 else 1) * (A : Int) := by unfold vOf; rw [signed_eq, hA]
  have hbA : A ≤ 2 ^ (1074 + k) := by
    obtain ⟨s', m', p', e', b'⟩ := hb
    rw [e] at e'; cases e'
    rw [hA]; exact b'
  obtain ⟨t, j, ht, hj, hform⟩ := vS_form h
  have hAf : A = t.natAbs * 2 ^ j := by
    have := congrArg Int.natAbs hform
    rw [hv, Int.natAbs_mul, Int.natAbs_mul, Int.natAbs_natCast, Int.natAbs_natCast] at this
    cases s <;> simpa using this
  rw [← hA] at c4
  have hi := integral_down (s := s) c3 c4
  obtain ⟨c, hc⟩ : ∃ c, c = A / one + (s && decide (A % one ≠ 0)).toNat := ⟨_, rfl⟩
  rw [← hc] at hi
  obtain ⟨J, hJ⟩ : ∃ J : Nat, J = 1074 := ⟨_, rfl⟩
  have hw : double.write ((double.read X).integral .down) = wordAt double 0 s (c * one) := by
    rw [c2, hi]
    show double.nearest s c 0 = _
    rw [nearest_val double s (-1074) 0 leastD c (p := 0) (by omega), one_pow hJ, show ((0 : Int) - (-1074)).toNat = J by omega]
  -- the magnitude of the floor is a single's
  have hrep : ∃ u i, u < 16777216 ∧ 925 ≤ i ∧ c * one = u * 2 ^ i := by
    by_cases z : A % one = 0
    · refine ⟨t.natAbs, j, ht, hj, ?_⟩
      rw [← hAf, hc, z]
      have := Nat.div_add_mod A one
      rw [z, Nat.add_zero, Nat.mul_comm] at this
      simp [this]
    · have hj2 : j < J := by
        rcases Nat.lt_or_ge j J with q | q
        · exact q
        · exfalso; apply z
          have : A = t.natAbs * 2 ^ (j - J) * one := by rw [hAf, one_pow hJ, Nat.mul_assoc, ← Nat.pow_add, Nat.sub_add_cancel q]
          rw [this, Nat.mul_mod_left]
      have hlt : A < 8388608 * one := by
        have e1 : one = 2 * 2 ^ (J - 1) := by rw [one_pow hJ, ← Nat.pow_succ']; congr 1; omega
        rw [hAf, e1]
        have e2 : 2 ^ j ≤ 2 ^ (J - 1) := Nat.pow_le_pow_right (by omega) (by omega)
        have p1 : 0 < 2 ^ (J - 1) := Nat.two_pow_pos _
        calc t.natAbs * 2 ^ j ≤ t.natAbs * 2 ^ (J - 1) := Nat.mul_le_mul_left _ e2
          _ < 16777216 * 2 ^ (J - 1) := Nat.mul_lt_mul_of_pos_right ht p1
          _ = 8388608 * (2 * 2 ^ (J - 1)) := by rw [← Nat.mul_assoc]
      refine ⟨c, J, ?_, by omega, by rw [one_pow hJ]⟩
      have hq : A / one < 8388608 := Nat.div_lt_of_lt_mul (by rw [Nat.mul_comm]; exact hlt)
      have hb1 : (s && decide (A % one ≠ 0)).toNat ≤ 1 := Bool.toNat_le _
      generalize A / one = Q at *
      generalize (s && decide (A % one ≠ 0)).toNat = B1 at *
      omega
  obtain ⟨u, i, hu, hi2, hcu⟩ := hrep
  have hV : c * one < 2 ^ (1074 + k + 1 + 1) := by
    have hb1 : c = A / one ∨ c = A / one + 1 := by
      rw [hc]; cases (s && decide (A % one ≠ 0)) <;> simp
    have h1 := whole_small one_pos hb1
    have h2 : one ≤ 2 ^ (1074 + k) := by rw [one_pow hJ]; exact Nat.pow_le_pow_right (by omega) (by omega)
    rw [Nat.pow_succ, Nat.pow_succ]
    have p1 : 0 < 2 ^ (1074 + k) := Nat.two_pow_pos _
    generalize 2 ^ (1074 + k) = T at *
    generalize c * one = CO at *
    generalize one = O at *
    omega
  have hround : sRung (dVal (c * one)) = sRung (c * one) := by
    rw [hcu]; exact exact_round (Nat.lt_of_lt_of_le hu (by decide))
  have hback := back (sg := s) hV (by omega) hround
  have hfl : flW x = wordAt single 925 s (c * one) := by
    unfold flW
    rw [c1]
    show (Go.floatToFloatBits .f64 (double.write ((double.read X).integral .down)) .f32).getD 0 = _
    rw [hw, hback]; rfl
  refine ⟨X, s, M, I, _, c1, c2, rfl, by rw [hw, hback, hfl], ?_⟩
  rw [hfl, vS_word hV (by omega), hcu, rd_exact single 925 u i (by rw [fbS]; exact hu) hi2, ← hcu, hc, flV_sign hv]

end Go.Proofs.Ythemmpmjjdpdfaa.Fl

/- Contracts: math.Floor, and the floors of both sides. -/
namespace Go.Proofs.Ythemmpmjjdpdfaa
open Go.RowKit Fl
set_option linter.unusedVariables false

theorem toIntegral_num (X : Nat) (d : Ieee.Datum) (h : FloatKind.f64.decode X = d) (hd : ∃ s M I, d = .number s M I) :
    Extern.MathFloor.toIntegral "math.archFloor" .down #[.float .f64 X] = pure (.float .f64 (FloatKind.f64.encode (d.integral .down))) := by
  obtain ⟨s, M, I, rfl⟩ := hd
  conv => lhs; whnf
  rw [h]

theorem archFloor_num (X : Nat) (s : Bool) (M : Nat) (I : Int) (h : Ieee.double.read X = .number s M I) (w : World) :
    (callFunc 205 #[.float .f64 X]).run Try.prog w = .ok (.value (.float .f64 (Ieee.double.write ((Ieee.double.read X).integral .down)))) w := by
  rw [run_callFunc_extern Try.func205 (by kernel_rfl) (by kernel_rfl) (by kernel_rfl) (e := Extern.MathFloor.toIntegral "math.archFloor" .down) (by kernel_rfl), toIntegral_num X _ rfl ⟨s, M, I, h⟩]
  rfl

set_option maxHeartbeats 400000 in
theorem mathFloor_num (X F : Nat) (s : Bool) (M : Nat) (I : Int) (h : Ieee.double.read X = .number s M I) (hF : Ieee.double.write ((Ieee.double.read X).integral .down) = F) (w : World) :
    Calls Try.prog 196 #[.float .f64 X] w fun e w' => e = .returned (.float .f64 F) ∧ w = w' := by
  have a1 := archFloor_num X s M I h
  rw [hF] at a1
  clear h hF
  go_enter Try.func196, Try.ntmps196
  go_wp2
  go_ret
  exact ⟨rfl, rfl⟩

set_option maxHeartbeats 400000 in
theorem floor_any (x k : Nat) (a : Int) (h : vS x = some a) (hb : Bd k x) (hk : k ≤ 50) (w : World) :
    Calls Try.prog 175 #[.float .f32 x] w fun e w' => e = .returned (.float .f32 (flW x)) ∧ w = w' := by
  obtain ⟨X, s, M, I, F, c1, c2, c3, c4, _⟩ := floor_parts h hb hk
  have d1 := fun (W : World) => run_convert_float_float (P := Try.prog) W 27 97 .f32 .f64 x X (by kernel_rfl) Try.underlying97 c1
  have d2 := fun (W : World) => run_convert_float_float (P := Try.prog) W 97 27 .f64 .f32 F (flW x) (by kernel_rfl) Try.underlying27 c4
  have MF := Lib.hid (fun w => mathFloor_num X F s M I c2 c3 w)
  clear c1 c2 c3 c4 h hb
  go_enter Try.func175, Try.ntmps175
  go_wp2_with (go_at_call 196; refine (MF.out _).mono ?_; rintro e w' ⟨rfl, rfl⟩)
  go_ret
  exact ⟨rfl, rfl⟩

end Go.Proofs.Ythemmpmjjdpdfaa

/- Contracts: CheckWithin; Ease of both sides; the reference's operations of any words at all. -/
namespace Go.Proofs.Ythemmpmjjdpdfaa
open Go.RowKit Fl
set_option linter.unusedVariables false

/-- The error of a single that should be from a to b. -/
def wiE (x a b : Nat) : Int := if finB x = false then 2 else if (FloatKind.f32.format.order x a == some .lt) = true ∨ (FloatKind.f32.format.order x b == some .gt) = true then 3 else 0

set_option maxHeartbeats 400000 in
theorem checkWithin_any (x a b : Nat) (w : World) :
    Calls Try.prog 109 #[.float .f32 x, .float .f32 a, .float .f32 b] w fun e w' => e = .returned (.int .i64 (wiE x a b)) ∧ w = w' := by
  have IH := Lib.hid (fun w => isFinite_any x w)
  unfold wiE
  cases hf : finB x with
  | false =>
    rw [hf] at IH
    clear hf
    go_enter Try.func109, Try.ntmps109
    go_wp2_with (go_at_call 158; refine (IH.out _).mono ?_; rintro e w' ⟨rfl, rfl⟩)
    go_ret
    exact ⟨ret_int rfl, rfl⟩
  | true =>
    rw [hf] at IH
    clear hf
    cases h1 : (FloatKind.f32.format.order x a == some .lt) with
    | true =>
      go_enter Try.func109, Try.ntmps109
      go_wp2_with (go_at_call 158; refine (IH.out _).mono ?_; rintro e w' ⟨rfl, rfl⟩)
      go_ret
      exact ⟨ret_int rfl, rfl⟩
    | false =>
      cases h2 : (FloatKind.f32.format.order x b == some .gt) with
      | true =>
        go_enter Try.func109, Try.ntmps109
        go_wp2_with (go_at_call 158; refine (IH.out _).mono ?_; rintro e w' ⟨rfl, rfl⟩)
        go_ret
        exact ⟨ret_int rfl, rfl⟩
      | false =>
        go_enter Try.func109, Try.ntmps109
        go_wp2_with (go_at_call 158; refine (IH.out _).mono ?_; rintro e w' ⟨rfl, rfl⟩)
        go_ret
        exact ⟨ret_int rfl, rfl⟩

theorem choose_loose (q : Question) (k : FloatKind) (w : World) : ∃ r n, ((do pure (Value.float k (← choose q))) : Sem Value).run Try.prog w = .ok (.float k r) (w.drewN n) := by
  by_cases h : q.forced = true
  · exact ⟨0, 0, by simp [h, World.drewN]⟩
  · exact ⟨q.cut (w.tape w.drawn q), 1, by simp [h]; rfl⟩

theorem conv_loose (src dst : TypeId) (s k : FloatKind) (b : Nat) (hs : (Try.prog.underlying src).isSome = true) (hd : Try.prog.underlying dst = some (.float k)) (w : World) :
    ∃ r n, (convert src dst (.float s b)).run Try.prog w = .ok (.float k r) (w.drewN n) := by
  obtain ⟨u, hs'⟩ := Option.isSome_iff_exists.1 hs
  have key : ∃ r n, (Conv.floatToFloat s b k).run Try.prog w = .ok (.float k r) (w.drewN n) := by
    unfold Conv.floatToFloat
    by_cases e : s = k
    · exact ⟨b, 0, by simp [e, World.drewN]⟩
    · rw [if_neg e]
      cases hd : s.decode b with
      | nan g f => exact choose_loose _ k w
      | infinity g => exact ⟨_, 0, rfl⟩
      | number g m i =>
        simp only
        split
        · exact choose_loose _ k w
        · exact ⟨_, 0, rfl⟩
  obtain ⟨r, n, h⟩ := key
  refine ⟨r, n, ?_⟩
  rw [← h]
  cases u <;> simp [convert, run_underlying hs', run_underlying hd]

theorem arith_loose (op : BinOp) (t : TypeId) (k : FloatKind) (x y : Nat) (ho : op = .add ∨ op = .sub ∨ op = .mul) (w : World) :
    ∃ r n, (binOp op t (.float k x) (.float k y)).run Try.prog w = .ok (.float k r) (w.drewN n) := by
  cases h : floatBits op k x y with
  | some r => exact ⟨r, 0, run_float_arith w op t k x y r h⟩
  | none =>
    obtain ⟨r, n, c⟩ := choose_loose (.nanBits k x y) k w
    refine ⟨r, n, ?_⟩
    rw [← c]
    unfold floatBits at h
    rcases ho with rfl | rfl | rfl
    all_goals simp only at h
    all_goals simp [binOp, Op.floatArith, h]

/-- Some single; the world has drawn at most. -/
def LooseF (w : World) (e : Ending) (w' : World) : Prop := ∃ r n, e = .returned (.float .f32 r) ∧ w' = w.drewN n

theorem drewN_two (w : World) (a b : Nat) : (w.drewN a).drewN b = w.drewN (a + b) := by simp [World.drewN, Nat.add_assoc]

end Go.Proofs.Ythemmpmjjdpdfaa

/- Dither and Speckle of one cell, as words; what the steps come to. -/
namespace Go.Proofs.Ythemmpmjjdpdfaa
open Go.RowKit Fl
set_option linter.unusedVariables false

theorem div_val {x y k : Nat} {a b : Int} (hx : vS x = some a) (hy : vS y = some b) (hb : b ≠ 0) (hk : k ≤ 120) (h : a.natAbs ≤ b.natAbs * 2 ^ k) : Same2 .quo k x y := by
  obtain ⟨s, m, i, e1, rfl⟩ := vS_some hx
  obtain ⟨t, n, j, e2, rfl⟩ := vS_some hy
  have n1 : (vOf s m i).natAbs = m * 2 ^ (i + 1074).toNat := by unfold vOf; rw [signed_eq, Int.natAbs_mul, Int.natAbs_natCast]; cases s <;> simp
  have n2 : (vOf t n j).natAbs = n * 2 ^ (j + 1074).toNat := by unfold vOf; rw [signed_eq, Int.natAbs_mul, Int.natAbs_natCast]; cases t <;> simp
  refine div_same hk e1 e2 ?_ (by rw [← n1, ← n2]; exact h)
  rcases Nat.eq_zero_or_pos n with z | z
  · exfalso; apply hb; subst z
    have : (vOf t 0 j).natAbs = 0 := by rw [n2]; simp
    omega
  · exact z

theorem vS_lo {j : Nat} (hj : j = 1064) : vS 981467136 = some ((2 ^ j : Nat) : Int) := by
  have h : Ieee.single.read 981467136 = .number false 8388608 (-33) := by decide
  rw [vS_lit (t := 1) (k := 23) (j := j) h (by decide) (by rw [hj]; decide)]; simp
theorem vS_hi {j : Nat} (hj : j = 1084) : vS 1149239296 = some ((2 ^ j : Nat) : Int) := by
  have h : Ieee.single.read 1149239296 = .number false 8388608 (-13) := by decide
  rw [vS_lit (t := 1) (k := 23) (j := j) h (by decide) (by rw [hj]; decide)]; simp

/-- A right step: its value is from 2 ^ -10 to 2 ^ 10. -/
def StepOk (st : Nat) : Prop := ∃ b, vS st = some b ∧ (one : Int) ≤ 1024 * b ∧ b ≤ 1024 * (one : Int)
theorem step_ok {st : Nat} (h : wiE st 981467136 1149239296 = 0) : StepOk st := by
  unfold wiE at h
  by_cases hf : finB st = false
  · rw [if_pos hf] at h; cases h
  · rw [if_neg hf] at h
    split at h
    · cases h
    · rename_i c
      obtain ⟨a, ha⟩ := Option.isSome_iff_exists.1 (show (vS st).isSome = true by simpa [finB, Option.isSome_iff_ne_none] using hf)
      obtain ⟨j, hj⟩ : ∃ j : Nat, j = 1064 := ⟨_, rfl⟩
      have hj' : j + 20 = 1084 := by omega
      rw [show FloatKind.f32.format = Ieee.single from rfl, lss_val ha (vS_lo hj), gtr_val ha (vS_hi hj')] at c
      refine ⟨a, ha, ?_⟩
      have e1 : one = 1024 * 2 ^ j := by rw [one_split (a := 10) (j := j) (by omega)]
      have e2 : 2 ^ (j + 20) = 1048576 * 2 ^ j := by rw [Nat.pow_add, Nat.mul_comm]
      rw [e2] at c
      rw [e1]
      generalize 2 ^ j = U at *
      simp at c
      omega
theorem step_bd {st : Nat} (h : StepOk st) : Bd 11 st := by
  obtain ⟨b, hb, h1, h2⟩ := h
  obtain ⟨J, hJ⟩ : ∃ J : Nat, J = 1074 := ⟨_, rfl⟩
  refine bd_val' (j := 11 + J) hb (by omega) ?_
  have e : 2 ^ (11 + J) = 2048 * one := by rw [one_pow hJ, Nat.pow_add]
  have := one_pos
  rw [e]
  generalize one = O at *
  omega

theorem hgt_val {x : Nat} (h : hgtB x = true) : ∃ a, vS x = some a ∧ a.natAbs ≤ 1048576 * one := by
  obtain ⟨a, ha, hb⟩ := val_bd (hgt_bd h)
  refine ⟨a, ha, ?_⟩
  obtain ⟨J, hJ⟩ : ∃ J : Nat, J = 1074 := ⟨_, rfl⟩
  have e : 2 ^ (1074 + 20) = 1048576 * one := by
    rw [one_pow hJ, show 1074 + 20 = 20 + J by omega, Nat.pow_add]
  rwa [e] at hb

theorem flV_near (a : Int) : flV a ≤ a ∧ a < flV a + (one : Int) := by
  have hp : (0 : Int) < (one : Int) := Int.natCast_pos.2 one_pos
  unfold flV
  have h1 := Int.ediv_mul_le a (Int.ne_of_gt hp)
  have h2 := Int.lt_ediv_add_one_mul_self a hp
  rw [Int.add_mul, Int.one_mul] at h2
  exact ⟨h1, h2⟩

/-- The quotient that Dither makes. -/
def dthQ (v st : Nat) : Nat := (floatBits .quo .f32 v st).getD 0
/-- What Dither makes of a cell, by the word of its hash. -/
def dthW (v st : Nat) (h : Int) : Nat :=
  (floatBits .mul .f32 (if (FloatKind.f32.format.order (unitW h) ((floatBits .sub .f32 (dthQ v st) (flW (dthQ v st))).getD 0) == some .lt) = true then (floatBits .add .f32 (flW (dthQ v st)) 1065353216).getD 0 else flW (dthQ v st)) st).getD 0

structure DthAt (v st : Nat) (h : Int) (q d : Nat) (c : Bool) (j r : Nat) : Prop where
  q1 : floatBits .quo .f32 v st = some q
  q2 : Same2 .quo 30 v st
  fq : ∃ a, vS q = some a
  bq : Bd 30 q
  d1 : floatBits .sub .f32 q (flW q) = some d
  d2 : Same2 .sub 32 q (flW q)
  c1 : (FloatKind.f32.format.order (unitW h) d == some .lt) = c
  j1 : c = true → floatBits .add .f32 (flW q) 1065353216 = some j
  j2 : c = true → Same2 .add 32 (flW q) 1065353216
  j3 : c = false → j = flW q
  r1 : floatBits .mul .f32 j st = some r
  r2 : Same2 .mul 43 j st
  w : dthW v st h = r
  lt : r < 4294967296

theorem fl_bd {q k : Nat} (h : Bd k q) (hk : k ≤ 50) : Bd (k + 1) (flW q) := by
  obtain ⟨a, ha, hb⟩ := val_bd h
  obtain ⟨_, _, _, _, _, _, _, _, _, hv⟩ := floor_parts ha h hk
  refine bd_val hv ?_
  obtain ⟨h1, h2⟩ := flV_near a
  obtain ⟨J, hJ⟩ : ∃ J : Nat, J = 1074 := ⟨_, rfl⟩
  have e : one ≤ 2 ^ (1074 + k) := by rw [one_pow hJ]; exact Nat.pow_le_pow_right (by omega) (by omega)
  rw [show 1074 + (k + 1) = 1074 + k + 1 by omega, Nat.pow_succ]
  generalize 2 ^ (1074 + k) = T at *
  generalize one = O at *
  omega

theorem bd_one (k : Nat) : Bd k 1065353216 := by
  obtain ⟨J, hJ⟩ : ∃ J : Nat, J = 1074 := ⟨_, rfl⟩
  refine bd_val vS_one ?_
  rw [Int.natAbs_natCast, one_pow hJ]; exact Nat.pow_le_pow_right (by omega) (by omega)

theorem dth_parts {v st : Nat} (h : Int) (hv : hgtB v = true) (hs : StepOk st) : ∃ q d c j r, DthAt v st h q d c j r := by
  obtain ⟨a, ha, hab⟩ := hgt_val hv
  have hs' := hs
  obtain ⟨b, hb, hb1, hb2⟩ := hs'
  have op := one_pos
  have q2 : Same2 .quo 30 v st := by
    refine div_val ha hb ?_ (by omega) ?_
    · generalize one = O at *; omega
    · rw [show (2 : Nat) ^ 30 = 1073741824 by decide]; generalize one = O at *; omega
  obtain ⟨_, _, _, q, _, _, _, _, q1, bq⟩ := q2.ex
  obtain ⟨aq, haq, _⟩ := val_bd bq
  have bf := fl_bd bq (by omega)
  have d2 : Same2 .sub 32 q (flW q) := sub_same (k := 31) (by omega) (bd_up bq (by omega)) bf
  obtain ⟨_, _, _, d, _, _, _, _, d1, _⟩ := d2.ex
  have j2 : Same2 .add 32 (flW q) 1065353216 := add_same (k := 31) (by omega) bf (bd_one 31)
  obtain ⟨_, _, _, j, _, _, _, _, j1, bj⟩ := j2.ex
  have eq : dthQ v st = q := by unfold dthQ; rw [q1]; rfl
  cases hc : (FloatKind.f32.format.order (unitW h) d == some .lt) with
  | true =>
    have r2 : Same2 .mul (32 + 11) j st := mul_same (by omega) bj (step_bd hs)
    obtain ⟨_, _, _, r, _, _, _, _, r1, _⟩ := r2.ex
    refine ⟨q, d, true, j, r, q1, q2, ⟨aq, haq⟩, bq, d1, d2, hc, fun _ => j1, fun _ => j2, (fun h => by cases h), r1, r2, ?_, opt_lt (d := (Ieee.single.read j).product (Ieee.single.read st)) r1⟩
    unfold dthW
    rw [eq, d1]
    show (floatBits .mul .f32 (if (FloatKind.f32.format.order (unitW h) d == some .lt) = true then (floatBits .add .f32 (flW q) 1065353216).getD 0 else flW q) st).getD 0 = r
    rw [if_pos hc, j1]
    show (floatBits .mul .f32 j st).getD 0 = r
    rw [r1]; rfl
  | false =>
    have r2 : Same2 .mul (32 + 11) (flW q) st := mul_same (by omega) (bd_up bf (by omega)) (step_bd hs)
    obtain ⟨_, _, _, r, _, _, _, _, r1, _⟩ := r2.ex
    refine ⟨q, d, false, flW q, r, q1, q2, ⟨aq, haq⟩, bq, d1, d2, hc, (fun h => by cases h), (fun h => by cases h), fun _ => rfl, r1, r2, ?_, opt_lt (d := (Ieee.single.read (flW q)).product (Ieee.single.read st)) r1⟩
    unfold dthW
    rw [eq, d1]
    show (floatBits .mul .f32 (if (FloatKind.f32.format.order (unitW h) d == some .lt) = true then (floatBits .add .f32 (flW q) 1065353216).getD 0 else flW q) st).getD 0 = r
    rw [if_neg (by rw [hc]; simp), r1]; rfl

/-- What Speckle makes of a cell. -/
def spkW (st : Nat) (h : Int) : Nat := if (FloatKind.f32.format.order (unitW h) st == some .lt) = true then 1065353216 else 0

/-- The place of a cell by its number. -/
theorem place_of {X Y x y : Int} {W i : Nat} (hW : 1 ≤ W) (h1 : X ≤ x) (h2 : x < X + W) (h3 : Y ≤ y) (hi : (i : Int) = (y - Y) * W + (x - X)) : X + ((i % W : Nat) : Int) = x ∧ Y + ((i / W : Nat) : Int) = y := by
  obtain ⟨a, ha⟩ := Int.eq_ofNat_of_zero_le (show 0 ≤ x - X by omega)
  obtain ⟨b, hb⟩ := Int.eq_ofNat_of_zero_le (show 0 ≤ y - Y by omega)
  rw [ha, hb, ← Int.natCast_mul, ← Int.natCast_add] at hi
  have hi' : i = b * W + a := Int.ofNat.inj hi
  have ha' : a < W := by omega
  have e1 : i % W = a := by rw [hi', Nat.mul_comm, Nat.mul_add_mod, Nat.mod_eq_of_lt ha']
  have e2 : i / W = b := by rw [hi', Nat.mul_comm, Nat.mul_add_div (by omega), Nat.div_eq_of_lt ha']; rfl
  rw [e1, e2]; omega

end Go.Proofs.Ythemmpmjjdpdfaa

/- The error of a single that should lie between two others, by the tests of the reference. -/
namespace Go.Proofs.Ythemmpmjjdpdfaa
open Go.RowKit Fl
set_option linter.unusedVariables false

/-- The error of a single that should be from lo to hi, told by the reference's tests. -/
def WithinCases (st lo hi : Nat) : Prop :=
    ((fldE 1 (fun _ => st) = 2 ∨ fldE 1 (fun _ => st) = 3) ∧ wiE st lo hi = fldE 1 (fun _ => st)) ∨
    (fldE 1 (fun _ => st) = 0 ∧ wiE st lo hi = 3 ∧ (FloatKind.f32.format.order st lo == some .lt) = true) ∨
    (fldE 1 (fun _ => st) = 0 ∧ wiE st lo hi = 3 ∧ (FloatKind.f32.format.order st lo == some .lt) = false ∧ (FloatKind.f32.format.order st hi == some .gt) = true) ∨
    (fldE 1 (fun _ => st) = 0 ∧ wiE st lo hi = 0 ∧ (FloatKind.f32.format.order st lo == some .lt) = false ∧ (FloatKind.f32.format.order st hi == some .gt) = false)
theorem within_cases {st lo hi : Nat} {l h : Int} (hl : vS lo = some l) (hh : vS hi = some h) (l1 : -vTop ≤ l) (h1 : h ≤ vTop) : WithinCases st lo hi := by
  unfold WithinCases
  cases hf : finB st with
  | false =>
    have e : fldE 1 (fun _ => st) = 2 := by simp [fldE, allB, List.range_succ, hf]
    exact .inl ⟨.inl e, by rw [e]; unfold wiE; rw [if_pos hf]⟩
  | true =>
    obtain ⟨a, ha⟩ := Option.isSome_iff_exists.1 (show (vS st).isSome = true from hf)
    have l0 := lss_val ha hl
    have g1 := gtr_val ha hh
    rw [← f32f] at l0 g1
    have hw : ((FloatKind.f32.format.order st lo == some .lt) = true ∨ (FloatKind.f32.format.order st hi == some .gt) = true) → wiE st lo hi = 3 := fun c => by
      unfold wiE; rw [if_neg (by rw [hf]; simp), if_pos c]
    cases hgt : hgtB st with
    | false =>
      have e : fldE 1 (fun _ => st) = 3 := by simp [fldE, hgtE, allB, List.range_succ, hf, hgt]
      refine .inl ⟨.inr e, ?_⟩
      rw [e]
      refine hw ?_
      unfold hgtB at hgt
      rw [ha] at hgt
      rw [l0, g1]
      simp at hgt ⊢
      omega
    | true =>
      have e : fldE 1 (fun _ => st) = 0 := fldE_one_ok hgt
      cases c1 : (FloatKind.f32.format.order st lo == some .lt) with
      | true => exact .inr (.inl ⟨e, hw (.inl c1), rfl⟩)
      | false =>
        cases c2 : (FloatKind.f32.format.order st hi == some .gt) with
        | true => exact .inr (.inr (.inl ⟨e, hw (.inr c2), rfl, rfl⟩))
        | false => exact .inr (.inr (.inr ⟨e, by unfold wiE; rw [if_neg (by rw [hf]; simp), if_neg (by rw [c1, c2]; simp)], rfl, rfl⟩))

theorem vTop_one : vTop = 1048576 * (one : Int) := by
  obtain ⟨J, hJ⟩ : ∃ J : Nat, J = 1074 := ⟨_, rfl⟩
  unfold vTop
  rw [one_pow hJ, Nat.one_mul, show ((20 : Int) + 1074).toNat = 20 + J by omega, Nat.pow_add, Int.natCast_mul]; rfl
theorem step_cases (st : Nat) : WithinCases st 981467136 1149239296 := by
  obtain ⟨j, hj⟩ : ∃ j : Nat, j = 1064 := ⟨_, rfl⟩
  have hj' : j + 20 = 1084 := by omega
  have e1 : one = 1024 * 2 ^ j := by rw [one_split (a := 10) (j := j) (by omega)]
  have e2 : 2 ^ (j + 20) = 1048576 * 2 ^ j := by rw [Nat.pow_add, Nat.mul_comm]
  have hp := Nat.two_pow_pos j
  exact within_cases (st := st) (vS_lo hj) (vS_hi hj') (by rw [vTop_one, e1]; generalize 2 ^ j = U at *; omega) (by rw [vTop_one, e1, e2]; generalize 2 ^ j = U at *; omega)

theorem flAt_one_of {w : World} {b x : Nat} (h : w.heap[b]? = some (flObj x)) : FlAt w b 0 1 (fun _ => x) := by
  intro i hi
  have : i = 0 := by omega
  subst this
  exact (blkC h).1 0
end Go.Proofs.Ythemmpmjjdpdfaa

/- Contract: the law's writes. -/
namespace Go.Proofs.Ythemmpmjjdpdfaa
open Go.RowKit Fl
set_option linter.unusedVariables false

theorem encT_size (X Y W H : Int) (v : Nat → Nat) (n : Nat) : (encT X Y W H v n).size = 25 + 4 * n := by
  unfold encT; rw [txB_size, List.length_append, byteL_len]; unfold encL; rw [List.length_append, headL_len, fullL_len]; omega

set_option maxHeartbeats 1000000 in
set_option maxRecDepth 100000 in
theorem writes_any (w : World) : Calls Try.prog 54 #[] w fun e w' => e = .returned (.bool true) ∧ Below w.heap.size w w' := by
  have EN := Lib.hid (fun (b : Nat) (W : World) (hb : W.heap[b]? = some (.cells #[.float .f32 1065353216] 27)) => encFull_any 0 0 1 1 1 b 0 1 (fun _ => 1065353216) W (flAt_one_of hb) (fun _ _ => by show 1065353216 < 4294967296; omega) (fun _ _ => by show hgtB 1065353216 = true; kernel_rfl) (by decide) rfl)
  have HS := Lib.hid (encT_size 0 0 (1 : Nat) (1 : Nat) (fun _ => 1065353216) 1)
  generalize encT 0 0 (1 : Nat) (1 : Nat) (fun _ => 1065353216) 1 = s at *
  go_enter Try.func54, Try.ntmps54
  go_wp2_with (go_at_call 128; go_loud (refine (EN.out _ _ (by (first | (rw [heap_alloc_get, if_pos rfl]; done) | ((simp only [heap_alloc_get, heap_size_alloc, if_true]) <;> ((repeat' split) <;> first | rfl | omega))))).mono ?_; rintro e w2 ⟨rfl, hb2⟩; have B2 := Lib.hid (show Below w.heap.size w w2 from ((Below.refl _ _).alloc (Nat.le_refl _) _).trans (hb2.mono (by simp))); clear hb2; have hs := HS.out))
  go_ret
  exact ⟨rfl, B2.out⟩
end Go.Proofs.Ythemmpmjjdpdfaa

/- Contract: two lists of whole numbers of the same numbers are equal; what the law wants, step by step. -/
namespace Go.Proofs.Ythemmpmjjdpdfaa
open Go.RowKit
set_option linter.unusedVariables false

set_option maxHeartbeats 1000000 in
theorem equalLs_any (a a' : Option Addr) (cap cap' n : Nat) (c : Nat → Int) (hl : n ≤ 4194304) (w : World) (hc : LsAt w a n c) (hc' : LsAt w a' n c) :
    Calls Try.prog 72 #[.slice a n cap, .slice a' n cap'] w fun e w' => e = .returned (.bool true) ∧ Below w.heap.size w w' := by
  have HC := Lib.hid hc
  have HC' := Lib.hid hc'
  clear hc hc'
  go_enter Try.func72, Try.ntmps72
  go_wp2
  go_loopw [13] (fun i wr => ∃ k : Nat, k ≤ n ∧ i = .int .i64 k ∧ (∀ p : Addr, p.block < w.heap.size → wr.cell? p = w.cell? p) ∧ Below w.heap.size w wr) (fun i _ => n - (intOf i).toNat)
  case atStart => exact ⟨0, Nat.zero_le _, rfl, fun _ _ => rfl, Below.refl _ _⟩
  case round =>
    obtain ⟨k, hk, rfl, hs, hb⟩ := hrel
    have HB := Lib.hid hb
    have HS := Lib.hid hs
    by_cases hlt : k < n
    · obtain ⟨b, off, rfl, hcell⟩ : ∃ b off, a = some ⟨b, off, none⟩ ∧ NumAt w b off n c := by
        rcases HC.out with z | h
        · omega
        · exact h
      obtain ⟨b', off', rfl, hcell'⟩ : ∃ b off, a' = some ⟨b, off, none⟩ ∧ NumAt w b off n c := by
        rcases HC'.out with z | h
        · omega
        · exact h
      have z1 := World.block_lt_of_cell? w _ (hcell k hlt)
      have z2 := World.block_lt_of_cell? w _ (hcell' k hlt)
      have d1 := (hs ⟨b, off + k, none⟩ z1).trans (hcell k hlt)
      have d2 := (hs ⟨b', off' + k, none⟩ z2).trans (hcell' k hlt)
      have k1 : (k : Int) < (n : Int) := by omega
      clear hs hb hcell hcell'
      go_wp2
      go_region
      all_goals go_wp2
      all_goals go_roundw
      case rel => exact ⟨k + 1, by omega, by go_num, fun p hp => HS.out p hp, HB.out.drew⟩
      case measure => simp [intOf]; omega
    · clear hs hb
      go_wp2
      go_ret
      exact ⟨rfl, HB.out⟩

theorem want_step (s : Int) (v : Nat → Int) (k : Nat) : firstE (rgE s v k) (whenE (!withinB (v k) (-1099511627776) 1099511627776) 3) = rgE s v (k + 1) := by
  show _ = if rgE s v k = 0 then (if withinB (v k) (-1099511627776) 1099511627776 = true then 0 else 3) else rgE s v k
  unfold firstE whenE
  cases withinB (v k) (-1099511627776) 1099511627776 <;> rfl
theorem pkE_small {n : Nat} (v : Nat → Int) (h : n ≤ 65536) : pkE n v = rgE 0 v n := by unfold pkE; rw [if_neg (by omega)]
theorem LsAt.of_eq {w : World} {a : Option Addr} {n : Nat} {c c' : Nat → Int} (h : LsAt w a n c) (e : ∀ i, i < n → c i = c' i) : LsAt w a n c' := by
  rcases h with h | ⟨b, off, rfl, h⟩
  · exact .inl h
  · exact .inr ⟨b, off, rfl, fun i hi => by rw [← e i hi]; exact h i hi⟩
theorem numOf_ls (v : Nat → Int) (n i : Nat) (h : i < n) : numOf (lsF v 0 n) i = v i := by
  unfold numOf; rw [lsF_get v n 0 i h, Nat.zero_add]; rfl

/-- Unpack of what Pack wrote. -/
theorem unpack_pack (n : Nat) (v : Nat → Int) (w : World) (h0 : pkE n v = 0) :
    Calls Try.prog 71 #[.string (txB (pkL v n))] w fun e w' => ∃ a cap, e = .returned (.tuple #[.slice a n cap, .int .i64 0]) ∧ LsAt w' a n v ∧ Below w.heap.size w w' := by
  obtain ⟨hn, h1⟩ := pkE_ok h0
  have hin := rgE_zero v n h1
  obtain ⟨hB, hl⟩ := pkL_bd v n hin
  have hpk : n ≤ (pkL v n).length := by
    have : ∀ k, k ≤ (pkL v k).length := by
      intro k
      induction k with
      | zero => exact Nat.zero_le _
      | succ k ih =>
        have := List.length_pos_iff.2 (pkN_ne (zigN (v k)))
        show k + 1 ≤ (pkL v k ++ pkN (zigN (v k))).length
        rw [List.length_append]; omega
    exact this n
  have hU : unL (pkL v n).length (pkL v n) = some (lsF v 0 n) := by
    have := unL_pk v n 0 (pkL v n).length hpk fun j hj => by rw [Nat.zero_add]; exact hin j hj
    rwa [pkF_all] at this
  refine (unpack_any (pkL v n) hB (by omega) w).mono ?_
  rintro e w' ⟨a, m, cap, k, rfl, hO, hb⟩
  unfold UnOk at hO
  rw [hU] at hO
  simp only [lsF_len] at hO
  obtain ⟨o1, o2, o3⟩ := hO
  have hz : rgE 0 (numOf (lsF v 0 n)) n = rgE 0 v n := by
    have : ∀ k, k ≤ n → rgE 0 (numOf (lsF v 0 n)) k = rgE 0 v k := by
      intro k
      induction k with
      | zero => intro _; rfl
      | succ k ih =>
        intro hk
        show (if rgE 0 (numOf (lsF v 0 n)) k = 0 then _ else _) = if rgE 0 v k = 0 then _ else _
        rw [ih (by omega), numOf_ls v n k (by omega)]
    exact this n (Nat.le_refl _)
  have hk : k = 0 := by rw [o1, pkE_small _ hn, hz, h1]
  obtain ⟨rfl, hls⟩ := o3 hk
  subst hk
  exact ⟨a, cap, rfl, hls.of_eq fun i hi => numOf_ls v m i hi, hb⟩
end Go.Proofs.Ythemmpmjjdpdfaa

/- PacksMatch, walked. -/
namespace Go.Proofs.Ythemmpmjjdpdfaa
open Go.RowKit
set_option linter.unusedVariables false

theorem want_end (n : Nat) (v : Nat → Int) : rgE (whenE (decide ((65536 : Int) < (n : Int))) 4) v n = pkE n v := by
  rw [← pkE_law]
  unfold whenE
  by_cases h : 65536 < n
  · rw [if_pos h, if_pos (by simp; omega)]
  · rw [if_neg h, if_neg (by simp; omega)]

theorem un_no {L : List Int} (hB : isB L) (hl : L.length ≤ 4194304) (hU : unL L.length L = none) (w : World) :
    Calls Try.prog 71 #[.string (txB L)] w fun e w' => ∃ a cap, e = .returned (.tuple #[.slice a 0 cap, .int .i64 2]) ∧ Below w.heap.size w w' :=
  (unpack_any L hB hl w).mono fun e w' ⟨a, n, cap, k, he, h1, hb⟩ => by
    unfold UnOk at h1; rw [hU] at h1
    obtain ⟨rfl, rfl⟩ := h1
    exact ⟨a, cap, he, hb⟩
theorem rf_no {L : List Int} (hB : isB L) (hl : L.length ≤ 4194304) (hU : unL L.length L = none) (w : World) :
    Calls Try.prog 75 #[.string (txB L)] w fun e w' => ∃ a cap, e = .returned (.tuple #[.slice a 0 cap, .bool false]) ∧ Below w.heap.size w w' :=
  (unpacked_any L hB hl w).mono fun e w' ⟨a, n, cap, ok, he, h1, hb⟩ => by
    unfold UnRf at h1; rw [hU] at h1
    obtain ⟨rfl, rfl⟩ := h1
    exact ⟨a, cap, he, hb⟩
theorem un_bad {L M : List Int} (hB : isB L) (hl : L.length ≤ 4194304) (hU : unL L.length L = some M) (h0 : pkE M.length (numOf M) ≠ 0) (w : World) :
    Calls Try.prog 71 #[.string (txB L)] w fun e w' => ∃ a cap, e = .returned (.tuple #[.slice a 0 cap, .int .i64 (pkE M.length (numOf M))]) ∧ Below w.heap.size w w' :=
  (unpack_any L hB hl w).mono fun e w' ⟨a, n, cap, k, he, h1, hb⟩ => by
    unfold UnOk at h1; rw [hU] at h1
    obtain ⟨rfl, h2, _⟩ := h1
    obtain rfl := h2 h0
    exact ⟨a, cap, he, hb⟩
theorem un_ok {L M : List Int} (hB : isB L) (hl : L.length ≤ 4194304) (hU : unL L.length L = some M) (h0 : pkE M.length (numOf M) = 0) (w : World) :
    Calls Try.prog 71 #[.string (txB L)] w fun e w' => ∃ a cap, e = .returned (.tuple #[.slice a M.length cap, .int .i64 0]) ∧ LsAt w' a M.length (numOf M) ∧ Below w.heap.size w w' :=
  (unpack_any L hB hl w).mono fun e w' ⟨a, n, cap, k, he, h1, hb⟩ => by
    unfold UnOk at h1; rw [hU] at h1
    obtain ⟨rfl, _, h2⟩ := h1
    obtain ⟨rfl, h3⟩ := h2 h0
    rw [h0] at he
    exact ⟨a, cap, he, h3, hb⟩
theorem rf_ok {L M : List Int} (hB : isB L) (hl : L.length ≤ 4194304) (hU : unL L.length L = some M) (w : World) :
    Calls Try.prog 75 #[.string (txB L)] w fun e w' => ∃ a cap, e = .returned (.tuple #[.slice a M.length cap, .bool true]) ∧ LsAt w' a M.length (numOf M) ∧ Below w.heap.size w w' :=
  (unpacked_any L hB hl w).mono fun e w' ⟨a, n, cap, ok, he, h1, hb⟩ => by
    unfold UnRf at h1; rw [hU] at h1
    obtain ⟨rfl, rfl, h3⟩ := h1
    exact ⟨a, cap, he, h3, hb⟩
theorem unL_len : ∀ (f : Nat) (R M : List Int), unL f R = some M → M.length ≤ R.length
  | 0, R, M, h => by
    unfold unL at h
    split at h
    · have := Option.some.inj h; subst this; exact Nat.zero_le _
    · cases h
  | f + 1, R, M, h => by
    by_cases hR : R = []
    · subst hR
      have : M = [] := by have h' : some [] = some M := h; exact (Option.some.inj h').symm
      subst this; exact Nat.le_refl _
    · rw [unL_cons hR] at h
      cases hO : oneG 9 true R with
      | none => rw [hO] at h; cases h
      | some p =>
        obtain ⟨m, k, h1, k1, k2⟩ := one_form hO
        rw [h1] at h
        have h' : (unL f (R.drop k)).map (fun M => unz m :: M) = some M := h
        cases hq : unL f (R.drop k) with
        | none => rw [hq] at h'; cases h'
        | some q =>
          rw [hq] at h'
          have e := Option.some.inj h'
          have := unL_len f (R.drop k) q hq
          rw [List.length_drop] at this
          rw [← e]
          simp; omega

set_option maxHeartbeats 4000000 in
set_option maxRecDepth 100000 in
theorem packsLaw_bad (n cap : Nat) (a : Option Addr) (v : Nat → Int) (L : List Int) (w : World) (hc : LsAt w a n v) (hl : n ≤ 9223372036854775807) (hB : isB L) (hL : L.length ≤ 9223372036854775807) (h0 : pkE n v ≠ 0) :
    Calls Try.prog 11 #[.slice a n cap, .string (txB L)] w fun e w' => e = .returned (.bool true) ∧ Below w.heap.size w w' := by
  have PK := Lib.hid (pack_bad n cap a v w hc hl h0)
  have HC := Lib.hid hc
  have H0 := Lib.hid h0
  have WE := Lib.hid (want_end n v)
  have WN := Lib.hid when_any
  have WI := Lib.hid mWithin_any
  have WR := Lib.hid writes_any
  have FI := Lib.hid first2_any
  have hs : (txB L).size = L.length := txB_size L
  have SM := Lib.hid (fun w => sum_any (txB L) w (by omega))
  have SO := Lib.hid (fun w => qSumOf_any (txB L) w (by omega))
  generalize hw0 : whenE (decide ((65536 : Int) < (n : Int))) 4 = s0 at *
  have HW0 := Lib.hid hw0
  clear hc h0 hw0
  go_enter Try.func11, Try.ntmps11
  go_wp2_with (first
    | (go_at_call 69; refine PK.out.mono ?_; rintro e w1 ⟨rfl, rfl⟩)
    | (go_at_call 28; refine (WN.out _ _ _).mono ?_; rintro e w1 ⟨rfl, rfl⟩))
  go_loopw [7, 29] (fun t i wr => ∃ k : Nat, k ≤ n ∧ t = .int .i64 (rgE s0 v k) ∧ i = .int .i64 k ∧ Below w.heap.size w wr) (fun _ i _ => n - (intOf i).toNat)
  case atStart => exact ⟨0, Nat.zero_le _, by rw [HW0.out]; rfl, rfl, Below.refl _ _⟩
  case round =>
    obtain ⟨k, hk, rfl, rfl, hb⟩ := hrel
    have HW := Lib.hid hb
    clear hb
    by_cases hlt : k < n
    · obtain ⟨b, off, rfl, hcell⟩ : ∃ b off, a = some ⟨b, off, none⟩ ∧ NumAt w b off n v := by
        rcases HC.out with z | h
        · omega
        · exact h
      have zb : b < w.heap.size := World.block_lt_of_cell? w _ (hcell k hlt)
      have cc := numAt_congr hcell (HW.out.block b zb) k hlt
      have WS := Lib.hid (want_step s0 v k)
      clear hcell
      generalize rgE s0 v k = r at *
      generalize v k = x at *
      go_wp2_with (first
        | (go_at_call 29; refine (WI.out _ _ _ _).mono ?_; rintro e w1 ⟨rfl, rfl⟩)
        | (go_at_call 28; refine (WN.out _ _ _).mono ?_; rintro e w1 ⟨rfl, rfl⟩)
        | (go_at_call 27; refine (FI.out _ _ _ _ (by (first | (rw [heap_alloc_get, if_pos rfl]; done) | ((simp only [heap_alloc_get, heap_size_alloc, if_true]) <;> ((repeat' split) <;> first | rfl | omega))))).mono ?_; rintro e w1 ⟨rfl, rfl⟩))
      exact ⟨⟨k + 1, by omega, by rw [WS.out], by go_num, HW.out.alloc HW.out.size _⟩, by simp [intOf]; omega⟩
    · obtain rfl : k = n := by omega
      rw [WE.out]
      have H1 : (pkE k v != 0) = true := by have := H0.out; simpa using this
      have H2 : (pkE k v == 0) = false := by have := H0.out; simpa using this
      generalize pkE k v = er at *
      by_cases h5 : 5000 < L.length
      · go_wp2_with (first
          | (go_at_call 54; refine (WR.out _).mono ?_; rintro e w2 ⟨rfl, hb2⟩; have HWZ := Lib.hid (HW.out.trans (hb2.mono HW.out.size)); clear hb2)
          )
        go_ret
        exact ⟨rfl, HWZ.out⟩
      have h5i : ¬ ((5000 : Int) < (L.length : Int)) := by omega
      cases hU : unL L.length L with
      | none =>
        have UN := Lib.hid (un_no hB (by omega) hU)
        have RF := Lib.hid (rf_no hB (by omega) hU)
        clear hU
        go_wp2_with (first
            | (go_at_call 54; refine (WR.out _).mono ?_; rintro e w2 ⟨rfl, hb2⟩; have HWZ := Lib.hid (HW.out.trans (hb2.mono HW.out.size)); clear hb2)
            | (go_at_call 73; (with_reducible refine (SM.out _).mono ?_); rintro e w3 ⟨rfl, rfl⟩)
            | (go_at_call 74; (with_reducible refine (SO.out _).mono ?_); rintro e w3 ⟨rfl, rfl⟩)
            | (go_at_call 28; refine (WN.out _ _ _).mono ?_; rintro e w1 ⟨rfl, rfl⟩)
            | (go_at_call 71; refine (UN.out _).mono ?_; rintro e w4 ⟨a4, cap4, rfl, hb4⟩; have HW4 := Lib.hid (HWZ.out.trans (hb4.mono HWZ.out.size)); clear hb4)
            | (go_at_call 75; refine (RF.out _).mono ?_; rintro e w5 ⟨a5, cap5, rfl, hb5⟩; have HW5 := Lib.hid (HW4.out.trans (hb5.mono HW4.out.size)); clear hb5)
            )
        go_loopw [7, 113] (fun t i wr => t = .int .i64 2 ∧ i = .int .i64 0 ∧ Below w.heap.size w wr) (fun _ _ _ => 0)
        case atStart => exact ⟨rfl, rfl, HW5.out⟩
        case round =>
          obtain ⟨rfl, rfl, hb⟩ := hrel
          have HW6 := Lib.hid hb
          clear hb
          go_wp2
          go_ret
          exact ⟨rfl, HW6.out⟩
      | some M =>
        have hM := unL_len _ _ _ hU
        have RF := Lib.hid (rf_ok hB (by omega) hU)
        have EM := Lib.hid (pkE_small (numOf M) (show M.length ≤ 65536 by omega))
        by_cases hz : pkE M.length (numOf M) = 0
        · have UN := Lib.hid (un_ok hB (by omega) hU hz)
          have EQ := Lib.hid equalLs_any
          have HZ := Lib.hid hz
          clear hU hz
          go_wp2_with (first
              | (go_at_call 54; refine (WR.out _).mono ?_; rintro e w2 ⟨rfl, hb2⟩; have HWZ := Lib.hid (HW.out.trans (hb2.mono HW.out.size)); clear hb2)
              | (go_at_call 73; (with_reducible refine (SM.out _).mono ?_); rintro e w3 ⟨rfl, rfl⟩)
              | (go_at_call 74; (with_reducible refine (SO.out _).mono ?_); rintro e w3 ⟨rfl, rfl⟩)
              | (go_at_call 28; refine (WN.out _ _ _).mono ?_; rintro e w1 ⟨rfl, rfl⟩)
              | (go_at_call 71; refine (UN.out _).mono ?_; rintro e w4 ⟨a4, cap4, rfl, hl4, hb4⟩; have HW4 := Lib.hid (HWZ.out.trans (hb4.mono HWZ.out.size)); clear hb4; have HL4 := Lib.hid hl4; clear hl4)
              | (go_at_call 75; refine (RF.out _).mono ?_; rintro e w5 ⟨a5, cap5, rfl, hl5, hb5⟩; have HW5 := Lib.hid (HW4.out.trans (hb5.mono HW4.out.size)); have HB5 := Lib.hid hb5; clear hb5; have HL5 := Lib.hid hl5; clear hl5)
              )
          go_loopw [7, 113] (fun t i wr => ∃ k : Nat, k ≤ M.length ∧ t = .int .i64 (rgE 0 (numOf M) k) ∧ i = .int .i64 k ∧ Below w5.heap.size w5 wr) (fun _ i _ => M.length - (intOf i).toNat)
          case atStart => exact ⟨0, Nat.zero_le _, rfl, rfl, Below.refl _ _⟩
          case round =>
            obtain ⟨k, hk, rfl, rfl, hb⟩ := hrel
            have HW6 := Lib.hid hb
            clear hb
            by_cases hlt : k < M.length
            · obtain ⟨b, off, rfl, hcell⟩ : ∃ b off, a5 = some ⟨b, off, none⟩ ∧ NumAt w5 b off M.length (numOf M) := by
                rcases HL5.out with z | h
                · omega
                · exact h
              have zb : b < w5.heap.size := World.block_lt_of_cell? w5 _ (hcell k hlt)
              have cc := numAt_congr hcell (HW6.out.block b zb) k hlt
              have WS := Lib.hid (want_step 0 (numOf M) k)
              clear hcell
              generalize rgE 0 (numOf M) k = r at *
              generalize (numOf M) k = x at *
              go_wp2_with (first
                | (go_at_call 29; refine (WI.out _ _ _ _).mono ?_; rintro e w1 ⟨rfl, rfl⟩)
                | (go_at_call 28; refine (WN.out _ _ _).mono ?_; rintro e w1 ⟨rfl, rfl⟩)
                | (go_at_call 27; refine (FI.out _ _ _ _ (by (first | (rw [heap_alloc_get, if_pos rfl]; done) | ((simp only [heap_alloc_get, heap_size_alloc, if_true]) <;> ((repeat' split) <;> first | rfl | omega))))).mono ?_; rintro e w1 ⟨rfl, rfl⟩))
              exact ⟨⟨k + 1, by omega, by rw [WS.out], by go_num, HW6.out.alloc HW6.out.size _⟩, by simp [intOf]; omega⟩
            · have hkM : k = M.length := by omega
              have HK := Lib.hid hkM
              have hr : rgE 0 (numOf M) k = 0 := by rw [hkM, ← EM.out, HZ.out]
              rw [hr]
              have hki : (k : Int) = (M.length : Int) := by omega
              clear hr hkM
              go_wp2_with (go_at_call 72; refine (EQ.out a4 a5 cap4 cap5 M.length (numOf M) (by omega) _ ((HL4.out.stay HB5.out).stay HW6.out) (HL5.out.stay HW6.out)).mono ?_; rintro e w7 ⟨rfl, hb7⟩; have HW7 := Lib.hid (HW5.out.trans ((HW6.out.trans (hb7.mono HW6.out.size)).mono HW5.out.size)); clear hb7)
              go_ret
              exact ⟨rfl, HW7.out⟩
        · have UN := Lib.hid (un_bad hB (by omega) hU hz)
          have g1 : (pkE M.length (numOf M) != 0) = true := by simpa using hz
          have HP := Lib.hid (Eq.refl (pkE M.length (numOf M)))
          clear hU hz
          generalize hep : pkE M.length (numOf M) = ep at UN g1
          have HEP := Lib.hid hep
          clear hep HP
          go_wp2_with (first
              | (go_at_call 54; refine (WR.out _).mono ?_; rintro e w2 ⟨rfl, hb2⟩; have HWZ := Lib.hid (HW.out.trans (hb2.mono HW.out.size)); clear hb2)
              | (go_at_call 73; (with_reducible refine (SM.out _).mono ?_); rintro e w3 ⟨rfl, rfl⟩)
              | (go_at_call 74; (with_reducible refine (SO.out _).mono ?_); rintro e w3 ⟨rfl, rfl⟩)
              | (go_at_call 28; refine (WN.out _ _ _).mono ?_; rintro e w1 ⟨rfl, rfl⟩)
              | (go_at_call 71; refine (UN.out _).mono ?_; rintro e w4 ⟨a4, cap4, rfl, hb4⟩; have HW4 := Lib.hid (HWZ.out.trans (hb4.mono HWZ.out.size)); clear hb4)
              | (go_at_call 75; refine (RF.out _).mono ?_; rintro e w5 ⟨a5, cap5, rfl, hl5, hb5⟩; have HW5 := Lib.hid (HW4.out.trans (hb5.mono HW4.out.size)); have HB5 := Lib.hid hb5; clear hb5; have HL5 := Lib.hid hl5; clear hl5)
              )
          go_loopw [7, 113] (fun t i wr => ∃ k : Nat, k ≤ M.length ∧ t = .int .i64 (rgE 0 (numOf M) k) ∧ i = .int .i64 k ∧ Below w5.heap.size w5 wr) (fun _ i _ => M.length - (intOf i).toNat)
          case atStart => exact ⟨0, Nat.zero_le _, rfl, rfl, Below.refl _ _⟩
          case round =>
            obtain ⟨k, hk, rfl, rfl, hb⟩ := hrel
            have HW6 := Lib.hid hb
            clear hb
            by_cases hlt : k < M.length
            · obtain ⟨b, off, rfl, hcell⟩ : ∃ b off, a5 = some ⟨b, off, none⟩ ∧ NumAt w5 b off M.length (numOf M) := by
                rcases HL5.out with z | h
                · omega
                · exact h
              have zb : b < w5.heap.size := World.block_lt_of_cell? w5 _ (hcell k hlt)
              have cc := numAt_congr hcell (HW6.out.block b zb) k hlt
              have WS := Lib.hid (want_step 0 (numOf M) k)
              clear hcell
              generalize rgE 0 (numOf M) k = r at *
              generalize (numOf M) k = x at *
              go_wp2_with (first
                | (go_at_call 29; refine (WI.out _ _ _ _).mono ?_; rintro e w1 ⟨rfl, rfl⟩)
                | (go_at_call 28; refine (WN.out _ _ _).mono ?_; rintro e w1 ⟨rfl, rfl⟩)
                | (go_at_call 27; refine (FI.out _ _ _ _ (by (first | (rw [heap_alloc_get, if_pos rfl]; done) | ((simp only [heap_alloc_get, heap_size_alloc, if_true]) <;> ((repeat' split) <;> first | rfl | omega))))).mono ?_; rintro e w1 ⟨rfl, rfl⟩))
              exact ⟨⟨k + 1, by omega, by rw [WS.out], by go_num, HW6.out.alloc HW6.out.size _⟩, by simp [intOf]; omega⟩
            · have hkM : k = M.length := by omega
              have hr : rgE 0 (numOf M) k = ep := by rw [hkM, ← EM.out, HEP.out]
              rw [hr]
              have hki : (k : Int) = (M.length : Int) := by omega
              clear hr hkM
              go_wp2
              go_ret
              exact ⟨rfl, HW5.out.trans (HW6.out.mono HW5.out.size)⟩
end Go.Proofs.Ythemmpmjjdpdfaa

/- PacksMatch, walked: lists that are packed. -/
namespace Go.Proofs.Ythemmpmjjdpdfaa
open Go.RowKit
set_option linter.unusedVariables false

set_option maxHeartbeats 4000000 in
set_option maxRecDepth 100000 in
theorem packsLaw_ok (n cap : Nat) (a : Option Addr) (v : Nat → Int) (L : List Int) (w : World) (hc : LsAt w a n v) (hl : n ≤ 9223372036854775807) (hB : isB L) (hL : L.length ≤ 9223372036854775807) (h0 : pkE n v = 0) :
    Calls Try.prog 11 #[.slice a n cap, .string (txB L)] w fun e w' => e = .returned (.bool true) ∧ Below w.heap.size w w' := by
  have PK := Lib.hid (pack_ok n cap a v w hc h0)
  have HC := Lib.hid hc
  have H0 := Lib.hid h0
  have WE := Lib.hid (want_end n v)
  have WN := Lib.hid when_any
  have WI := Lib.hid mWithin_any
  have WR := Lib.hid writes_any
  have FI := Lib.hid first2_any
  have hs : (txB L).size = L.length := txB_size L
  have SM := Lib.hid (fun w => sum_any (txB L) w (by omega))
  have SO := Lib.hid (fun w => qSumOf_any (txB L) w (by omega))
  generalize hw0 : whenE (decide ((65536 : Int) < (n : Int))) 4 = s0 at *
  have HW0 := Lib.hid hw0
  clear hc h0 hw0
  go_enter Try.func11, Try.ntmps11
  go_wp2_with (first
    | (go_at_call 69; refine PK.out.mono ?_; rintro e w1 ⟨rfl, hb1⟩; have HB1 := Lib.hid hb1; clear hb1)
    | (go_at_call 28; refine (WN.out _ _ _).mono ?_; rintro e w1 ⟨rfl, rfl⟩))
  go_loopw [7, 29] (fun t i wr => ∃ k : Nat, k ≤ n ∧ t = .int .i64 (rgE s0 v k) ∧ i = .int .i64 k ∧ Below w.heap.size w wr) (fun _ i _ => n - (intOf i).toNat)
  case atStart => exact ⟨0, Nat.zero_le _, by rw [HW0.out]; rfl, rfl, HB1.out⟩
  case round =>
    obtain ⟨k, hk, rfl, rfl, hb⟩ := hrel
    have HW := Lib.hid hb
    clear hb
    by_cases hlt : k < n
    · obtain ⟨b, off, rfl, hcell⟩ : ∃ b off, a = some ⟨b, off, none⟩ ∧ NumAt w b off n v := by
        rcases HC.out with z | h
        · omega
        · exact h
      have zb : b < w.heap.size := World.block_lt_of_cell? w _ (hcell k hlt)
      have cc := numAt_congr hcell (HW.out.block b zb) k hlt
      have WS := Lib.hid (want_step s0 v k)
      clear hcell
      generalize rgE s0 v k = r at *
      generalize v k = x at *
      go_wp2_with (first
        | (go_at_call 29; refine (WI.out _ _ _ _).mono ?_; rintro e w1 ⟨rfl, rfl⟩)
        | (go_at_call 28; refine (WN.out _ _ _).mono ?_; rintro e w1 ⟨rfl, rfl⟩)
        | (go_at_call 27; refine (FI.out _ _ _ _ (by (first | (rw [heap_alloc_get, if_pos rfl]; done) | ((simp only [heap_alloc_get, heap_size_alloc, if_true]) <;> ((repeat' split) <;> first | rfl | omega))))).mono ?_; rintro e w1 ⟨rfl, rfl⟩))
      exact ⟨⟨k + 1, by omega, by rw [WS.out], by go_num, HW.out.alloc HW.out.size _⟩, by simp [intOf]; omega⟩
    · obtain rfl : k = n := by omega
      rw [WE.out]
      have HIN := Lib.hid (pkE_ok H0.out)
      have PD := Lib.hid (fun W (hb : Below w.heap.size w W) => packed_any k cap a v W (HC.out.stay hb) HIN.out.1 (rgE_zero v k HIN.out.2))
      have UP := Lib.hid (fun W => unpack_pack k v W H0.out)
      have EQ1 := Lib.hid (fun a2 cap2 W => equalLs_any a a2 cap cap2 k v (by have := HIN.out.1; omega) W)
      rw [H0.out]
      generalize hT : txB (pkL v k) = T at *
      have HT := Lib.hid hT
      clear hT
      by_cases h5 : 5000 < L.length
      · go_wp2_with (first
          | (go_at_call 54; refine (WR.out _).mono ?_; rintro e w2 ⟨rfl, hb2⟩; have HWA := Lib.hid (HW.out.trans (hb2.mono HW.out.size)); clear hb2)
          | (go_at_call 70; refine (PD.out _ HWA.out).mono ?_; rintro e w8 ⟨rfl, hb8⟩; have HWB := Lib.hid (HWA.out.trans (hb8.mono HWA.out.size)); clear hb8)
          | (go_at_call 71; (with_reducible refine (UP.out _).mono ?_); rintro e w9 ⟨a9, cap9, rfl, hl9, hb9⟩; have HWC := Lib.hid (HWB.out.trans (hb9.mono HWB.out.size)); clear hb9; have HL9 := Lib.hid hl9; clear hl9)
          | (go_at_call 72; (with_reducible refine (EQ1.out a9 cap9 _ (HC.out.stay HWC.out) HL9.out).mono ?_); rintro e w10 ⟨rfl, hb10⟩; have HWZ := Lib.hid (HWC.out.trans (hb10.mono HWC.out.size)); clear hb10)
          )
        go_ret
        exact ⟨rfl, HWZ.out⟩
      have h5i : ¬ ((5000 : Int) < (L.length : Int)) := by omega
      cases hU : unL L.length L with
      | none =>
        have UN := Lib.hid (un_no hB (by omega) hU)
        have RF := Lib.hid (rf_no hB (by omega) hU)
        clear hU
        go_wp2_with (first
            | (go_at_call 54; refine (WR.out _).mono ?_; rintro e w2 ⟨rfl, hb2⟩; have HWA := Lib.hid (HW.out.trans (hb2.mono HW.out.size)); clear hb2)
            | (go_at_call 70; refine (PD.out _ HWA.out).mono ?_; rintro e w8 ⟨rfl, hb8⟩; have HWB := Lib.hid (HWA.out.trans (hb8.mono HWA.out.size)); clear hb8)
            | (go_at_call 71; (with_reducible refine (UP.out _).mono ?_); rintro e w9 ⟨a9, cap9, rfl, hl9, hb9⟩; have HWC := Lib.hid (HWB.out.trans (hb9.mono HWB.out.size)); clear hb9; have HL9 := Lib.hid hl9; clear hl9)
            | (go_at_call 72; (with_reducible refine (EQ1.out a9 cap9 _ (HC.out.stay HWC.out) HL9.out).mono ?_); rintro e w10 ⟨rfl, hb10⟩; have HWZ := Lib.hid (HWC.out.trans (hb10.mono HWC.out.size)); clear hb10)
            | (go_at_call 73; (with_reducible refine (SM.out _).mono ?_); rintro e w3 ⟨rfl, rfl⟩)
            | (go_at_call 74; (with_reducible refine (SO.out _).mono ?_); rintro e w3 ⟨rfl, rfl⟩)
            | (go_at_call 28; refine (WN.out _ _ _).mono ?_; rintro e w1 ⟨rfl, rfl⟩)
            | (go_at_call 71; refine (UN.out _).mono ?_; rintro e w4 ⟨a4, cap4, rfl, hb4⟩; have HW4 := Lib.hid (HWZ.out.trans (hb4.mono HWZ.out.size)); clear hb4)
            | (go_at_call 75; refine (RF.out _).mono ?_; rintro e w5 ⟨a5, cap5, rfl, hb5⟩; have HW5 := Lib.hid (HW4.out.trans (hb5.mono HW4.out.size)); clear hb5)
            )
        go_loopw [7, 113] (fun t i wr => t = .int .i64 2 ∧ i = .int .i64 0 ∧ Below w.heap.size w wr) (fun _ _ _ => 0)
        case atStart => exact ⟨rfl, rfl, HW5.out⟩
        case round =>
          obtain ⟨rfl, rfl, hb⟩ := hrel
          have HW6 := Lib.hid hb
          clear hb
          go_wp2
          go_ret
          exact ⟨rfl, HW6.out⟩
      | some M =>
        have hM := unL_len _ _ _ hU
        have RF := Lib.hid (rf_ok hB (by omega) hU)
        have EM := Lib.hid (pkE_small (numOf M) (show M.length ≤ 65536 by omega))
        by_cases hz : pkE M.length (numOf M) = 0
        · have UN := Lib.hid (un_ok hB (by omega) hU hz)
          have EQ := Lib.hid equalLs_any
          have HZ := Lib.hid hz
          clear hU hz
          go_wp2_with (first
              | (go_at_call 54; refine (WR.out _).mono ?_; rintro e w2 ⟨rfl, hb2⟩; have HWA := Lib.hid (HW.out.trans (hb2.mono HW.out.size)); clear hb2)
              | (go_at_call 70; refine (PD.out _ HWA.out).mono ?_; rintro e w8 ⟨rfl, hb8⟩; have HWB := Lib.hid (HWA.out.trans (hb8.mono HWA.out.size)); clear hb8)
              | (go_at_call 71; (with_reducible refine (UP.out _).mono ?_); rintro e w9 ⟨a9, cap9, rfl, hl9, hb9⟩; have HWC := Lib.hid (HWB.out.trans (hb9.mono HWB.out.size)); clear hb9; have HL9 := Lib.hid hl9; clear hl9)
              | (go_at_call 72; (with_reducible refine (EQ1.out a9 cap9 _ (HC.out.stay HWC.out) HL9.out).mono ?_); rintro e w10 ⟨rfl, hb10⟩; have HWZ := Lib.hid (HWC.out.trans (hb10.mono HWC.out.size)); clear hb10)
              | (go_at_call 73; (with_reducible refine (SM.out _).mono ?_); rintro e w3 ⟨rfl, rfl⟩)
              | (go_at_call 74; (with_reducible refine (SO.out _).mono ?_); rintro e w3 ⟨rfl, rfl⟩)
              | (go_at_call 28; refine (WN.out _ _ _).mono ?_; rintro e w1 ⟨rfl, rfl⟩)
              | (go_at_call 71; refine (UN.out _).mono ?_; rintro e w4 ⟨a4, cap4, rfl, hl4, hb4⟩; have HW4 := Lib.hid (HWZ.out.trans (hb4.mono HWZ.out.size)); clear hb4; have HL4 := Lib.hid hl4; clear hl4)
              | (go_at_call 75; refine (RF.out _).mono ?_; rintro e w5 ⟨a5, cap5, rfl, hl5, hb5⟩; have HW5 := Lib.hid (HW4.out.trans (hb5.mono HW4.out.size)); have HB5 := Lib.hid hb5; clear hb5; have HL5 := Lib.hid hl5; clear hl5)
              )
          go_loopw [7, 113] (fun t i wr => ∃ k : Nat, k ≤ M.length ∧ t = .int .i64 (rgE 0 (numOf M) k) ∧ i = .int .i64 k ∧ Below w5.heap.size w5 wr) (fun _ i _ => M.length - (intOf i).toNat)
          case atStart => exact ⟨0, Nat.zero_le _, rfl, rfl, Below.refl _ _⟩
          case round =>
            obtain ⟨k, hk, rfl, rfl, hb⟩ := hrel
            have HW6 := Lib.hid hb
            clear hb
            by_cases hlt : k < M.length
            · obtain ⟨b, off, rfl, hcell⟩ : ∃ b off, a5 = some ⟨b, off, none⟩ ∧ NumAt w5 b off M.length (numOf M) := by
                rcases HL5.out with z | h
                · omega
                · exact h
              have zb : b < w5.heap.size := World.block_lt_of_cell? w5 _ (hcell k hlt)
              have cc := numAt_congr hcell (HW6.out.block b zb) k hlt
              have WS := Lib.hid (want_step 0 (numOf M) k)
              clear hcell
              generalize rgE 0 (numOf M) k = r at *
              generalize (numOf M) k = x at *
              go_wp2_with (first
                | (go_at_call 29; refine (WI.out _ _ _ _).mono ?_; rintro e w1 ⟨rfl, rfl⟩)
                | (go_at_call 28; refine (WN.out _ _ _).mono ?_; rintro e w1 ⟨rfl, rfl⟩)
                | (go_at_call 27; refine (FI.out _ _ _ _ (by (first | (rw [heap_alloc_get, if_pos rfl]; done) | ((simp only [heap_alloc_get, heap_size_alloc, if_true]) <;> ((repeat' split) <;> first | rfl | omega))))).mono ?_; rintro e w1 ⟨rfl, rfl⟩))
              exact ⟨⟨k + 1, by omega, by rw [WS.out], by go_num, HW6.out.alloc HW6.out.size _⟩, by simp [intOf]; omega⟩
            · have hkM : k = M.length := by omega
              have HK := Lib.hid hkM
              have hr : rgE 0 (numOf M) k = 0 := by rw [hkM, ← EM.out, HZ.out]
              rw [hr]
              have hki : (k : Int) = (M.length : Int) := by omega
              clear hr hkM
              go_wp2_with (go_at_call 72; refine (EQ.out a4 a5 cap4 cap5 M.length (numOf M) (by omega) _ ((HL4.out.stay HB5.out).stay HW6.out) (HL5.out.stay HW6.out)).mono ?_; rintro e w7 ⟨rfl, hb7⟩; have HW7 := Lib.hid (HW5.out.trans ((HW6.out.trans (hb7.mono HW6.out.size)).mono HW5.out.size)); clear hb7)
              go_ret
              exact ⟨rfl, HW7.out⟩
        · have UN := Lib.hid (un_bad hB (by omega) hU hz)
          have g1 : (pkE M.length (numOf M) != 0) = true := by simpa using hz
          have HP := Lib.hid (Eq.refl (pkE M.length (numOf M)))
          clear hU hz
          generalize hep : pkE M.length (numOf M) = ep at UN g1
          have HEP := Lib.hid hep
          clear hep HP
          go_wp2_with (first
              | (go_at_call 54; refine (WR.out _).mono ?_; rintro e w2 ⟨rfl, hb2⟩; have HWA := Lib.hid (HW.out.trans (hb2.mono HW.out.size)); clear hb2)
              | (go_at_call 70; refine (PD.out _ HWA.out).mono ?_; rintro e w8 ⟨rfl, hb8⟩; have HWB := Lib.hid (HWA.out.trans (hb8.mono HWA.out.size)); clear hb8)
              | (go_at_call 71; (with_reducible refine (UP.out _).mono ?_); rintro e w9 ⟨a9, cap9, rfl, hl9, hb9⟩; have HWC := Lib.hid (HWB.out.trans (hb9.mono HWB.out.size)); clear hb9; have HL9 := Lib.hid hl9; clear hl9)
              | (go_at_call 72; (with_reducible refine (EQ1.out a9 cap9 _ (HC.out.stay HWC.out) HL9.out).mono ?_); rintro e w10 ⟨rfl, hb10⟩; have HWZ := Lib.hid (HWC.out.trans (hb10.mono HWC.out.size)); clear hb10)
              | (go_at_call 73; (with_reducible refine (SM.out _).mono ?_); rintro e w3 ⟨rfl, rfl⟩)
              | (go_at_call 74; (with_reducible refine (SO.out _).mono ?_); rintro e w3 ⟨rfl, rfl⟩)
              | (go_at_call 28; refine (WN.out _ _ _).mono ?_; rintro e w1 ⟨rfl, rfl⟩)
              | (go_at_call 71; refine (UN.out _).mono ?_; rintro e w4 ⟨a4, cap4, rfl, hb4⟩; have HW4 := Lib.hid (HWZ.out.trans (hb4.mono HWZ.out.size)); clear hb4)
              | (go_at_call 75; refine (RF.out _).mono ?_; rintro e w5 ⟨a5, cap5, rfl, hl5, hb5⟩; have HW5 := Lib.hid (HW4.out.trans (hb5.mono HW4.out.size)); have HB5 := Lib.hid hb5; clear hb5; have HL5 := Lib.hid hl5; clear hl5)
              )
          go_loopw [7, 113] (fun t i wr => ∃ k : Nat, k ≤ M.length ∧ t = .int .i64 (rgE 0 (numOf M) k) ∧ i = .int .i64 k ∧ Below w5.heap.size w5 wr) (fun _ i _ => M.length - (intOf i).toNat)
          case atStart => exact ⟨0, Nat.zero_le _, rfl, rfl, Below.refl _ _⟩
          case round =>
            obtain ⟨k, hk, rfl, rfl, hb⟩ := hrel
            have HW6 := Lib.hid hb
            clear hb
            by_cases hlt : k < M.length
            · obtain ⟨b, off, rfl, hcell⟩ : ∃ b off, a5 = some ⟨b, off, none⟩ ∧ NumAt w5 b off M.length (numOf M) := by
                rcases HL5.out with z | h
                · omega
                · exact h
              have zb : b < w5.heap.size := World.block_lt_of_cell? w5 _ (hcell k hlt)
              have cc := numAt_congr hcell (HW6.out.block b zb) k hlt
              have WS := Lib.hid (want_step 0 (numOf M) k)
              clear hcell
              generalize rgE 0 (numOf M) k = r at *
              generalize (numOf M) k = x at *
              go_wp2_with (first
                | (go_at_call 29; refine (WI.out _ _ _ _).mono ?_; rintro e w1 ⟨rfl, rfl⟩)
                | (go_at_call 28; refine (WN.out _ _ _).mono ?_; rintro e w1 ⟨rfl, rfl⟩)
                | (go_at_call 27; refine (FI.out _ _ _ _ (by (first | (rw [heap_alloc_get, if_pos rfl]; done) | ((simp only [heap_alloc_get, heap_size_alloc, if_true]) <;> ((repeat' split) <;> first | rfl | omega))))).mono ?_; rintro e w1 ⟨rfl, rfl⟩))
              exact ⟨⟨k + 1, by omega, by rw [WS.out], by go_num, HW6.out.alloc HW6.out.size _⟩, by simp [intOf]; omega⟩
            · have hkM : k = M.length := by omega
              have hr : rgE 0 (numOf M) k = ep := by rw [hkM, ← EM.out, HEP.out]
              rw [hr]
              have hki : (k : Int) = (M.length : Int) := by omega
              clear hr hkM
              go_wp2
              go_ret
              exact ⟨rfl, HW5.out.trans (HW6.out.mono HW5.out.size)⟩

theorem packsMatch_any (n cap : Nat) (a : Option Addr) (v : Nat → Int) (s : ByteArray) (w : World) (hc : LsAt w a n v) (hl : n ≤ 9223372036854775807) (hs : s.size ≤ 9223372036854775807) :
    Calls Try.prog 11 #[.slice a n cap, .string s] w fun e w' => e = .returned (.bool true) ∧ Below w.heap.size w w' := by
  rw [← txB_lsB s]
  by_cases h0 : pkE n v = 0
  · exact packsLaw_ok n cap a v (lsB s) w hc hl (lsB_isB s) (by rw [lsB_len]; exact hs) h0
  · exact packsLaw_bad n cap a v (lsB s) w hc hl (lsB_isB s) (by rw [lsB_len]; exact hs) h0
end Go.Proofs.Ythemmpmjjdpdfaa

/- A field that came in, opened: four integers, and a slice of singles that is empty or known cell by cell. -/
namespace Go.Proofs.Ythemmpmjjdpdfaa
open Go.ChangeShapes Go.WideShapes Go.ChangeAt Go.RowKit Go.Joins Fl

section
variable {H : Type} {enc : TypeId × Value → H} {w : World} {base : Nat} {spare : Nat → Bool} {held : Bool}

theorem trod_f32 {P : Program} {t : TypeId} {fuel : Nat} {v : Value} {y : DataW H × List MemPlace} (ht : P.underlying t = some (.float .f32)) (h : DataW.trod enc P w base spare held fuel t [v] = some y) : ∃ b, v = .float .f32 b ∧ b < 4294967296 := by
  cases fuel with
  | zero => simp [DataW.trod] at h
  | succ n =>
    unfold DataW.trod at h
    rw [ht] at h
    cases v <;> simp at h
    rename_i k b
    obtain ⟨⟨rfl, hw⟩, _⟩ := h
    exact ⟨b, rfl, by simpa [Lit.wf] using hw⟩

theorem array5 {α : Type} {cs : Array α} (h : cs.size = 5) : ∃ c0 c1 c2 c3 c4, cs = #[c0, c1, c2, c3, c4] := by
  obtain ⟨l⟩ := cs
  match l, h with
  | [c0, c1, c2, c3, c4], _ => exact ⟨c0, c1, c2, c3, c4, rfl⟩

theorem flAt_congr' {w w' : World} {b off n : Nat} {f : Nat → Nat} (h : FlAt w b off n f) (e : w'.heap[b]? = w.heap[b]?) : FlAt w' b off n f := fun i hi => by
  rw [← h i hi]; exact World.cell?_of_block (w := w) (a := ⟨b, off + i, none⟩) e

/-- What a slice of singles is: empty, or known cell by cell. -/
def SlF (w : World) (s : Value) : Prop :=
  (∃ a cap, s = .slice a 0 cap) ∨ ∃ b off len cap x, s = .slice (some ⟨b, off, none⟩) len cap ∧ 0 < len ∧ len ≤ 9223372036854775807 ∧ FlAt w b off len x ∧ wf32 len x

theorem open_singles {t e : TypeId} {fuel : Nat} {cs : List Value} {y : DataW H × List MemPlace} (ht : Try.prog.underlying t = some (.slice e)) (he : Try.prog.underlying e = some (.float .f32)) (hc : Try.prog.cellsOf e = 1)
    (h : DataW.trod enc Try.prog w base spare held fuel t cs = some y) : ∃ s, cs = [s] ∧ SlF w s := by
  rcases Go.Deep.open_slice1 ht hc h with ⟨rfl, _⟩ | ⟨a, len, cap, m, n, V, D, Pl, rfl, hb, hl, hm, hmm, _, hx⟩
  · exact ⟨_, rfl, .inl ⟨none, 0, rfl⟩⟩
  · refine ⟨_, rfl, ?_⟩
    rcases Nat.eq_zero_or_pos len with z | z
    · subst z; exact .inl ⟨_, _, rfl⟩
    · have hlm : len ≤ m := by rw [hmm]; split <;> omega
      have h0 := (hx 0 (by omega)).1
      obtain ⟨b, off, spot⟩ := a
      have hspot : spot = none := by simpa [Addr.add] using World.cell?_spot h0
      subst hspot
      have hv : ∀ i, i < len → ∃ x, V i = .float .f32 x ∧ x < 4294967296 := fun i hi => trod_f32 he (hx i (by omega)).2
      refine .inr ⟨b, off, len, cap, fun i => match V i with | .float _ x => x | _ => 0, rfl, z, ?_, fun i hi => ?_, fun i hi => ?_⟩
      · exact Nat.le_trans hl (Nat.le_trans hm (by decide))
      · have h1 := (hx i (by omega)).1
        obtain ⟨x, e1, _⟩ := hv i hi
        rw [← Go.WideShapes.add_plain, h1]
        simp only [e1]
      · obtain ⟨x, e1, e2⟩ := hv i hi
        simp only [e1]; exact e2

theorem cellsF : Try.prog.cellsOf 26 = 5 := by kernel_rfl
theorem cellsR : Try.prog.cellsOf 23 = 4 := by kernel_rfl
theorem cellsS : Try.prog.cellsOf 24 = 1 := by kernel_rfl
theorem cells1 : Try.prog.cellsOf 27 = 1 := by kernel_rfl
theorem cellsI : Try.prog.cellsOf 3 = 1 := by kernel_rfl

set_option maxRecDepth 100000 in
theorem open_field {r : Reach} {b0 : Nat} {v : Value} {d : DataW H} {p : List MemPlace} (hv : Value.okWide Try.prog w r b0 26 v) (h : DataW.Trod enc Try.prog w base spare held 26 v d p) :
    ∃ X Y W' H' : Int, ∃ s, v = fldV X Y W' H' s ∧ SlF w s := by
  obtain ⟨cs, rfl, hsz⟩ := okWide_struct Try.underlying26 hv
  obtain ⟨c0, c1, c2, c3, c4, rfl⟩ := array5 (hsz.trans cellsF)
  obtain ⟨fuel, hf⟩ := h
  obtain ⟨y0, y1, n, _, _, h0, h1⟩ := trod_struct2 Try.underlying26 hf
  rw [cellsR] at h0
  rw [cellsS] at h1
  obtain ⟨s, e4, hs⟩ := open_singles Try.underlying24 Try.underlying27 cells1 h1
  obtain ⟨z0, z1, z2, z3, n2, _, _, g0, g1, g2, g3⟩ := trod_struct4 Try.underlying23 h0
  rw [cellsI] at g0 g1 g2 g3
  obtain ⟨x0, e0, _, _⟩ := DataW.trod_int Try.underlying3 g0
  obtain ⟨x1, e1, _, _⟩ := DataW.trod_int Try.underlying3 g1
  obtain ⟨x2, e2, _, _⟩ := DataW.trod_int Try.underlying3 g2
  obtain ⟨x3, e3, _, _⟩ := DataW.trod_int Try.underlying3 g3
  simp [Value.cells] at e0 e1 e2 e3 e4
  subst e0 e1 e2 e3 e4
  exact ⟨x0, x1, x2, x3, _, rfl, hs⟩
end

theorem SlF.stay {w w' : World} {s : Value} (h : SlF w s) (hb : Below w.heap.size w w') : SlF w' s := by
  rcases h with h | ⟨b, off, len, cap, x, rfl, h1, h2, h3, h4⟩
  · exact .inl h
  · exact .inr ⟨b, off, len, cap, x, rfl, h1, h2, flAt_congr' h3 (hb.block _ (World.block_lt_of_cell? w _ (h3 0 h1))), h4⟩

theorem laidOut : laidOutB Try.prog = true := by kernel_rfl
end Go.Proofs.Ythemmpmjjdpdfaa
