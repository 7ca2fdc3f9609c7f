/- slices.Repeat of heights, 300 times: heights, 300 times as many. -/
import Derived.Test.YtncgcjeihihkfaaFit2
import Derived.Test.YtncgcjeihihkfaaByCell
import Derived.Laws.CopyRow
import Derived.Laws.CopyOwn
import Derived.Laws.BitsAllLaws
namespace Go.Proofs.Ytncgcjeihihkfaa
open Go.RowKit Fl
set_option linter.unusedVariables false

theorem and32 (v : Nat) (hv : v < 4294967296) : bits BinOp.and IntKind.u64 (v : Int) 4294967295 = (v : Int) := by
  have := u64_and_nat v 4294967295 (by omega) (by decide)
  have e : v &&& 4294967295 = v := by rw [show (4294967295 : Nat) = 2 ^ 32 - 1 from rfl, Nat.and_two_pow_sub_one_eq_mod]; exact Nat.mod_eq_of_lt hv
  rw [e] at this
  simpa using this

set_option maxHeartbeats 1000000 in
theorem mul64_300 (n : Nat) (hn : n ≤ 256) (w : World) :
    Calls Try.prog 112 #[.int .u64 n, .int .u64 300] w fun e w' => e = .returned (.tuple #[.int .u64 0, .int .u64 ((n * 300 : Nat) : Int)]) ∧ w = w' := by
  have a1 := and32 n (by omega)
  have a2 : bits BinOp.and IntKind.u64 300 4294967295 = 300 := by decide
  have a3 : bits BinOp.and IntKind.u64 0 4294967295 = 0 := by decide
  have d1 : (n : Int) / 4294967296 = 0 := by omega
  have d2 : (n : Int) * 300 / 4294967296 = 0 := by omega
  go_enter Try.func112, Try.ntmps112
  go_wp2
  go_ret2
  exact ⟨by simp, rfl⟩

theorem make_f32L (n : Nat) (hn : n ≤ 1048576) (w : World) :
    (Instr.makeSlice 34 (.int .i64 (n : Int)) (.int .i64 (n : Int))).run Try.prog w = .ok (.slice (some ⟨w.heap.size, 0, none⟩) n n) (w.alloc (.cells (madeCells #[Value.float .f32 0] n) 39)) := by
  have h : (Try.prog.info? 39).map (fun i => (i.zero, i.size, i.bytes)) = some (some (.float .f32 0), 1, 4) := by kernel_rfl
  obtain ⟨i0, hi, hz0, hz1, hz2⟩ := info_parts h
  have hr := run_make (P := Try.prog) w 34 39 i0 (.float .f32 0) Try.underlying34 hi hz0 .i64 .i64 n n (by omega) (by omega) (by rw [hz2]; omega) (by omega)
  rw [hz1, Nat.mul_one, Int.toNat_natCast] at hr
  exact hr

theorem heap_alloc_newR (w : World) (o : Obj) : (w.alloc o).heap[w.heap.size]? = some o := by rw [heap_alloc_get, if_pos rfl]
theorem hgt0R : hgtB 0 = true := by kernel_rfl
theorem fitRow_ltR {w : World} {b n : Nat} (h : FitRow w b n n) : b < w.heap.size := by
  obtain ⟨cs, h1, _⟩ := h
  exact (blkC h1).2.2
/-- Heights copied into a row of heights. -/
theorem copy_heights {w : World} {b M g N s sLen sCap o dLen dCap : Nat} {ty : TypeId} (hs : FitRow w b M M) (hd : FitRow w g N N) (h1 : s + sLen ≤ M) (h2 : o + min sLen dLen ≤ N) :
    ∃ w', (Builtin.copy_ #[34, 34] ty #[.slice (some ⟨g, o, none⟩) dLen dCap, .slice (some ⟨b, s, none⟩) sLen sCap]).run Try.prog w = .ok (.int .i64 ((min sLen dLen : Nat) : Int)) w' ∧ FitRow w' g N N ∧ (∀ k, k ≠ g → w'.heap[k]? = w.heap[k]?) ∧ (∀ B w0, Below B w0 w → B ≤ g → Below B w0 w') ∧ w'.heap.size = w.heap.size := by
  obtain ⟨cs, a1, a2, a3⟩ := hs
  obtain ⟨ds, d1, d2, d3⟩ := hd
  obtain ⟨m, hm⟩ : ∃ m, m = min sLen dLen := ⟨_, rfl⟩
  have hm1 : m ≤ sLen := by omega
  have hinfo : (Try.prog.info? 39).map (·.size) = some 1 := by kernel_rfl
  have hl : ((cs.toList.drop s).take m).length = m := by simp; omega
  have lo : (ds.toList.take o).length = o := by simp; omega
  have hg : ∀ j v, ((cs.toList.drop s).take m)[j]? = some v → cs[s + j]? = some v ∧ j < m := by
    intro j v hj
    rw [List.getElem?_take] at hj
    split at hj
    · rename_i c
      rw [List.getElem?_drop] at hj
      exact ⟨by rw [← Array.getElem?_toList]; exact hj, c⟩
    · cases hj
  have hr := run_copy_row (P := Try.prog) w 34 34 ty 39 g o dLen dCap ⟨b, s, none⟩ sLen sCap ds 39 ((cs.toList.drop s).take m) Try.underlying34 hinfo d1 (by rw [hl, hm])
    (fun j v hj => by rw [Go.WideShapes.add_plain, (blkC a1).1]; exact (hg j v hj).1) (by rw [hl, d2]; omega)
    (fun v hv => by
      obtain ⟨j, hj⟩ := List.getElem?_of_mem hv
      obtain ⟨e1, e2⟩ := hg j v hj
      obtain ⟨x, e3, _⟩ := a3 (s + j) (by omega)
      rw [e3] at e1; cases e1; rfl)
  rw [hl] at hr
  refine ⟨_, by rw [hr, ← hm]; rfl, ⟨_, setRow_heap w g ds _ _ _ d1, ?_, ?_⟩, fun k hk => setRow_other w g k _ hk, fun B w0 hb hB => below_setRow hb hB _, by simp⟩
  · simp; omega
  · intro j hj
    simp only [List.getElem?_toArray]
    by_cases c1 : j < o
    · obtain ⟨x, e1, e2⟩ := d3 j hj
      refine ⟨x, ?_, e2⟩
      rw [List.append_assoc, List.getElem?_append_left (by simp; omega), List.getElem?_take, if_pos c1, Array.getElem?_toList]; exact e1
    · by_cases c2 : j < o + m
      · obtain ⟨x, e1, e2, e3⟩ := a3 (s + (j - o)) (by omega)
        refine ⟨x, ?_, e2, fun _ => e3 (by omega)⟩
        rw [List.append_assoc, List.getElem?_append_right (by rw [lo]; omega), lo, List.getElem?_append_left (by rw [hl]; omega), List.getElem?_take, if_pos (by omega), List.getElem?_drop, Array.getElem?_toList]
        exact e1
      · obtain ⟨x, e1, e2⟩ := d3 j hj
        refine ⟨x, ?_, e2⟩
        rw [List.append_assoc, List.getElem?_append_right (by rw [lo]; omega), lo, List.getElem?_append_right (by rw [hl]; omega), hl, List.getElem?_drop, Array.getElem?_toList, show o + m + (j - o - m) = j by omega]
        exact e1

set_option maxHeartbeats 1000000 in
theorem mul_300 (n : Nat) (hn : n ≤ 256) (w : World) :
    Calls Try.prog 61 #[.int .u64 n, .int .u64 300] w fun e w' => e = .returned (.tuple #[.int .u64 0, .int .u64 ((n * 300 : Nat) : Int)]) ∧ w = w' := by
  have M := Lib.hid (fun w => mul64_300 n hn w)
  clear hn
  go_enter Try.func61, Try.ntmps61
  go_wp2_with (first | (go_at_call 112; refine (M.out _).mono ?_; rintro e w' ⟨rfl, rfl⟩))
  go_ret2
  exact ⟨rfl, rfl⟩

theorem slice_fl_l (g n N : Nat) (hn : n < N) (W : World) : (Instr.slice 34 (.slice (some ⟨g, 0, none⟩) N N) (some (.int .i64 (n : Int))) none none).run Try.prog W = .ok (.slice (some ⟨g, n, none⟩) (N - n) (N - n)) W := by
  have hs : (sizeOf (Try.prog.elem 34)).run Try.prog W = .ok 1 W := by kernel_rfl
  rw [run_slice_l W 34 _ N N (by kernel_rfl) .i64 n (by omega) (by omega), hs]
  show Result.ok (sliced _ _ _ _ _) W = _
  unfold sliced
  rw [if_neg (by omega)]
  simp [Addr.add]; omega
theorem slice_fl_h (g n N : Nat) (hn : n ≤ N) (W : World) : (Instr.slice 34 (.slice (some ⟨g, 0, none⟩) N N) none (some (.int .i64 (n : Int))) none).run Try.prog W = .ok (.slice (some ⟨g, 0, none⟩) n N) W := by
  have hs : (sizeOf (Try.prog.elem 34)).run Try.prog W = .ok 1 W := by kernel_rfl
  rw [run_slice_h W 34 _ N N (by kernel_rfl) .i64 n (by omega) (by omega), hs]
  show Result.ok (sliced _ _ _ _ _) W = _
  unfold sliced
  simp [Addr.add]

set_option maxHeartbeats 4000000 in
set_option maxRecDepth 100000 in
theorem repeat_any (b n : Nat) (w : World) (hb : FitRow w b n n) (h1 : 1 ≤ n) (h2 : n ≤ 256) :
    Calls Try.prog 16 #[.slice (some ⟨b, 0, none⟩) n n, .int .i64 300] w fun e w' =>
      ∃ g, e = .returned (.slice (some ⟨g, 0, none⟩) (n * 300) (n * 300)) ∧ w.heap.size ≤ g ∧ FitRow w' g (n * 300) (n * 300) ∧ Below w.heap.size w w' := by
  have ML := Lib.hid (fun w => mul_300 n h2 w)
  obtain ⟨N, hN⟩ : ∃ N, N = n * 300 := ⟨_, rfl⟩
  rw [← hN] at ML ⊢
  have hN1 : N ≤ 76800 := by omega
  have hnN : n ≤ N := by omega
  have hMK := make_f32L N (by omega)
  have HB := Lib.hid hb
  have z := fitRow_ltR hb
  have HN := Lib.hid hN
  clear hb hN
  have F0 : FitRow (w.alloc (.cells (madeCells #[Value.float .f32 0] N) 39)) w.heap.size N N :=
    ⟨madeCells #[Value.float .f32 0] N, heap_alloc_newR w _, size_madeCells _ _, fun j hj => ⟨0, by simp [madeCells, hj, Nat.mod_one], by omega, fun _ => hgt0R⟩⟩
  have F1 : FitRow (w.alloc (.cells (madeCells #[Value.float .f32 0] N) 39)) b n n := by
    obtain ⟨cs, c1, c2⟩ := HB.out
    exact ⟨cs, by rw [heap_alloc_get, if_neg (by omega)]; exact c1, c2⟩
  obtain ⟨w2, hc, F2, o2, bl2, s2⟩ := copy_heights (ty := 3) (s := 0) (sLen := n) (sCap := n) (o := 0) (dLen := N) (dCap := N) F1 F0 (by omega) (by omega)
  rw [Nat.min_eq_left hnN] at hc
  have B2 : Below w.heap.size w w2 := bl2 _ _ ((Below.refl _ _).alloc (Nat.le_refl _) _) (Nat.le_refl _)
  have BL := Lib.hid B2
  have FL := Lib.hid F2
  clear F0 F1 F2 o2 bl2 s2 B2
  go_enter Try.func16, Try.ntmps16
  go_wp2_with (first | (go_at_call 61; refine (ML.out _).mono ?_; rintro e w' ⟨rfl, rfl⟩))
  clear hMK hc
  go_loopw [8] (fun i wr => ∃ k : Nat, 1 ≤ k ∧ k ≤ N ∧ i = .int .i64 k ∧ FitRow wr w.heap.size N N ∧ Below w.heap.size w wr) (fun i _ => N - (intOf i).toNat)
  case atStart => exact ⟨n, h1, hnN, rfl, FL.out, BL.out⟩
  case round =>
    obtain ⟨k, k1, k2, rfl, hf, hb⟩ := hrel
    by_cases hlt : k < N
    · have s1 := fun W => slice_fl_l w.heap.size k N hlt W
      have s2 := fun W => slice_fl_h w.heap.size k N k2 W
      obtain ⟨w3, hc3, F3, o3, bl3, sz3⟩ := copy_heights (w := wr.drew) (ty := 3) (b := w.heap.size) (g := w.heap.size) (s := 0) (sLen := k) (sCap := N) (o := k) (dLen := N - k) (dCap := N - k) (M := N) (N := N) hf hf (by omega) (by omega)
      have B3 := bl3 _ _ hb.drew (Nat.le_refl _)
      obtain ⟨m, hm⟩ : ∃ m, m = min k (N - k) := ⟨_, rfl⟩
      rw [← hm] at hc3
      have hm1 : 1 ≤ m := by omega
      have hm2 : k + m ≤ N := by omega
      have HF := Lib.hid F3
      have HBL := Lib.hid B3
      clear hm hf hb F3 o3 bl3 sz3 B3
      go_wp2
      go_region
      go_wp2
      go_roundw
      case rel => exact ⟨k + m, by omega, hm2, by go_num, HF.out, HBL.out⟩
      case measure => simp [intOf]; omega
    · obtain rfl : k = N := by omega
      go_wp2
      go_ret
      exact ⟨w.heap.size, rfl, Nat.le_refl _, hf, hb⟩
end Go.Proofs.Ytncgcjeihihkfaa
