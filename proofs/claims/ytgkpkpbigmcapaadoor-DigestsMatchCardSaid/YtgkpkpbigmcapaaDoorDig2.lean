/- formatBits at base 16. -/
import Derived.Test.YtgkpkpbigmcapaaDoorDig
import Derived.Laws.BitsAllLaws
namespace Go.Proofs.YtgkpkpbigmcapaaDoor
open Go.RowKit
set_option linter.unusedVariables false

/-- The block of digits: behind k rounds. -/
def DigAt (w : World) (b u k : Nat) : Prop := ∃ cs : Array Value, w.heap[b]? = some (.cells cs 57 (0, 0)) ∧ cs.size = 65 ∧ ∀ j, j < k → cs[64 - j]? = some (.int .u8 ((hexAt u j).toNat : Int))

theorem and15 (v : Nat) (hv : v < 18446744073709551616) : bits BinOp.and IntKind.u64 (v : Int) 15 = ((v % 16 : Nat) : Int) := by
  have := u64_and_nat v 15 hv (by decide)
  rw [nat_mask4] at this
  simpa using this
theorem digs_at (d : Nat) (hd : d < 36) (w : World) : (Instr.index 9 (.string ⟨#[48, 49, 50, 51, 52, 53, 54, 55, 56, 57, 97, 98, 99, 100, 101, 102, 103, 104, 105, 106, 107, 108, 109, 110, 111, 112, 113, 114, 115, 116, 117, 118, 119, 120, 121, 122]⟩) (.int .u64 (d : Int))).run Tryd.prog w = .ok (.int .u8 ((hexD d).toNat : Int)) w := by
  rw [run_index_string (w := w) 9 _ _ _ Tryd.underlying9, dif_pos (by constructor <;> first | omega | (simp only [ByteArray.size]; simp; omega))]
  congr 3
  simp only [Int.toNat_natCast]
  unfold hexD
  rw [Array.getElem?_eq_getElem (by simpa using hd)]
  rfl
theorem zero65 (w : World) : (zeroValue 57).run Tryd.prog w = .ok (.agg (madeCells #[Value.int .u8 0] 65)) w := by kernel_rfl

theorem slice65 (b m : Nat) (hm : m < 65) (W : World) : (Instr.sliceAt 57 (.pointer (some ⟨b, 0, none⟩)) (some (.int .i64 (m : Int))) none none).run Tryd.prog W = .ok (.slice (some ⟨b, m, none⟩) (65 - m) (65 - m)) W := by
  have hl : Tryd.prog.arrayLen 57 = 65 := by kernel_rfl
  have hs : (sizeOf (Tryd.prog.elem 57)).run Tryd.prog W = .ok 1 W := by kernel_rfl
  rw [run_sliceAt_array_l W 57 _ (by kernel_rfl) .i64 m (by omega) (by rw [hl]; omega), hs]
  show Result.ok (slicedAt _ _ _ _ _) W = _
  unfold slicedAt
  rw [hl, if_neg (by omega)]
  simp [Addr.add]; omega
theorem DigAt.text {w : World} {b u m : Nat} (h : DigAt w b u (hexK u + 1)) (hm : m = 64 - hexK u) (hk : hexK u ≤ 15) :
    (convert 32 9 (.slice (some ⟨b, m, none⟩) (65 - m) (65 - m))).run Tryd.prog w = .ok (.string ⟨(hexL u).toArray⟩) w := by
  obtain ⟨cs, h1, h2, h3⟩ := h
  have := run_convert_bytes_back (P := Tryd.prog) w 32 9 5 ⟨b, m, none⟩ (65 - m) (hexL u) Tryd.underlying32 Tryd.underlying5 Tryd.underlying9 (fun j hj => by
    rw [hexL_length] at hj
    rw [Go.WideShapes.add_plain, (blkC h1).1, hexL_get, ← h3 (hexK u - j) (by omega), show 64 - (hexK u - j) = m + j by omega])
  rw [hexL_length, show hexK u + 1 = 65 - m by omega] at this
  exact this

theorem DigAt.put {w : World} {b u k m : Nat} {cs : Array Value} (h : w.heap[b]? = some (.cells cs 57 (0, 0))) (hsz : cs.size = 65) (hds : ∀ j, j < k → cs[64 - j]? = some (.int .u8 ((hexAt u j).toNat : Int))) (hm : m = 64 - k) (hk : k ≤ 15) :
    DigAt (w.setCell ⟨b, m, none⟩ (.int .u8 ((hexAt u k).toNat : Int))) b u (k + 1) := by
  refine ⟨cs.setIfInBounds m _, heap_setCell_same w b m cs _ _ h, by simp [hsz], fun j hj => ?_⟩
  by_cases e : j = k
  · subst e; rw [← hm, Array.getElem?_setIfInBounds_self_of_lt (by omega)]
  · rw [Array.getElem?_setIfInBounds_ne (by omega)]; exact hds j (by omega)

set_option maxHeartbeats 2000000 in
set_option maxRecDepth 100000 in
theorem fmtBits_any (u : Nat) (w : World) (hu : u < 18446744073709551616) (htab : ∀ W', Below w.heap.size w W' → Tab16 W') :
    Calls Tryd.prog 20 #[.slice none 0 0, .int .u64 u, .int .i64 16, .bool false, .bool false] w fun e w' => e = .returned (.tuple #[.slice none 0 0, .string ⟨(hexL u).toArray⟩]) ∧ Below w.heap.size w w' := by
  have TZ := Lib.hid (fun W' (hb : Below w.heap.size w W') => tz_16 W' (htab W' hb))
  clear htab
  have z65 := zero65
  go_enter Tryd.func20, Tryd.ntmps20
  go_wp2_with (first | (go_at_call 29; refine (pow2_16 _).mono ?_; rintro e w' ⟨rfl, rfl⟩) | (go_at_call 30; refine (TZ.out _ (by repeat (first | exact Below.refl _ _ | refine Below.alloc ?_ (by first | omega | (simp; done) | (simp; omega)) _ | refine Below.setCell ?_ (by first | omega | (simp; done) | (simp; omega)) _ | refine Below.drew ?_))).mono ?_; rintro e w' ⟨rfl, rfl⟩))
  have h16 : ∀ k, 16 ^ (k + 1) = 16 * 16 ^ k := fun k => by rw [Nat.pow_succ, Nat.mul_comm]
  go_loopw [1, 13] (fun a b wr => ∃ k v : Nat, v = u / 16 ^ k ∧ v < 16 ^ (16 - k) ∧ k ≤ 15 ∧ hexK u = k + hexK v ∧ a = .int .u64 v ∧ b = .int .i64 ((65 - k : Nat) : Int) ∧ DigAt wr w.heap.size u k ∧ Below w.heap.size w wr) (fun a _ _ => (intOf a).toNat)
  case atStart =>
    refine ⟨0, u, by simp, by simpa using hu, by omega, by omega, rfl, rfl, ⟨madeCells #[Value.int .u8 0] 65, ?_, size_madeCells _ _, fun j hj => by omega⟩, (by repeat (first | exact Below.refl _ _ | refine Below.alloc ?_ (by first | omega | (simp; done) | (simp; omega)) _ | refine Below.setCell ?_ (by first | omega | (simp; done) | (simp; omega)) _ | refine Below.drew ?_))⟩
    ((simp only [heap_alloc_get, if_true]) <;> ((repeat' split) <;> first | rfl | omega))
  case round =>
    obtain ⟨k, v, hv, hlt, hk, hK, rfl, rfl, hD, hb⟩ := hrel
    have HD := Lib.hid hD
    have HV := Lib.hid hv
    have HL := Lib.hid hlt
    have HK := Lib.hid hK
    clear hD hv hlt hK h16
    obtain ⟨cs, hcs, hsz, hds⟩ := HD.out
    by_cases hge : 16 ≤ v
    · have hk14 : k ≤ 14 := by
        rcases Nat.lt_or_ge k 15 with h | h
        · omega
        · obtain rfl : k = 15 := by omega
          have := HL.out; simp at this; omega
      obtain ⟨m, hm⟩ : ∃ m, m = 64 - k := ⟨_, rfl⟩
      have hm1 : 65 - k = m + 1 := by omega
      have HM := Lib.hid hm
      have hvu : v < 18446744073709551616 := by
        have : v ≤ u := by rw [HV.out]; exact Nat.div_le_self _ _
        omega
      have ha := and15 v hvu
      have hd := fun w => digs_at (v % 16) (by omega) w
      rw [hm1]
      have hm64 : m < 65 := by omega
      clear hm hm1
      obtain ⟨x0, hx0⟩ : ∃ x0, wr.cell? ⟨w.heap.size, m, none⟩ = some x0 := ⟨cs[m]'(by omega), by rw [(blkC hcs).1 m, Array.getElem?_eq_getElem (by omega)]⟩
      have fx := (blkC hcs).2.1 m
      have zx := (blkC hcs).2.2
      generalize hq : v % 16 = q at ha hd
      go_wp2
      have hat : hexAt u k = hexD q := by unfold hexAt; rw [← HV.out, hq]
      refine ⟨⟨k + 1, v / 16, ?_, ?_, by omega, ?_, by simp, ?_, ?_, ?_⟩, ?_⟩
      · rw [HV.out, Nat.div_div_eq_div_mul, Nat.pow_succ]
      · have := HL.out
        rw [show 16 - k = (16 - (k + 1)) + 1 by omega, Nat.pow_succ] at this
        exact Nat.div_lt_of_lt_mul (by rw [Nat.mul_comm]; exact this)
      · rw [HK.out, hexK_ge hge]; omega
      · rw [show 65 - (k + 1) = m by have := HM.out; omega]
      · rw [← hat]; exact DigAt.put hcs hsz hds HM.out hk
      · exact hb.setCell (p := ⟨w.heap.size, m, none⟩) (Nat.le_refl _) _
      · simp [intOf]; omega
    · have hKu : hexK u = k := by rw [HK.out, hexK_lt (by omega)]; rfl
      obtain ⟨m, hm⟩ : ∃ m, m = 64 - k := ⟨_, rfl⟩
      have hm1 : 65 - k = m + 1 := by omega
      have HM := Lib.hid hm
      have hd := fun w => digs_at v (by omega) w
      rw [hm1]
      have hm64 : m < 65 := by omega
      have h2 : DigAt (wr.setCell ⟨w.heap.size, m, none⟩ (.int .u8 ((hexD v).toNat : Int))) w.heap.size u (hexK u + 1) := by
        rw [hKu, show hexD v = hexAt u k by unfold hexAt; rw [← HV.out, Nat.mod_eq_of_lt (by omega)]]
        exact DigAt.put hcs hsz hds hm hk
      have h3 := h2.text (m := m) (by rw [hKu]; exact hm) (by omega)
      have hs65 := fun W => slice65 w.heap.size m hm64 W
      clear hm hm1 hKu h2
      obtain ⟨x0, hx0⟩ : ∃ x0, wr.cell? ⟨w.heap.size, m, none⟩ = some x0 := ⟨cs[m]'(by omega), by rw [(blkC hcs).1 m, Array.getElem?_eq_getElem (by omega)]⟩
      have fx := (blkC hcs).2.1 m
      have zx := (blkC hcs).2.2
      have hlt16 : (v : Int) < 16 := by omega
      go_wp2
      go_ret2
      exact ⟨rfl, hb.setCell (p := ⟨w.heap.size, m, none⟩) (Nat.le_refl _) _⟩
end Go.Proofs.YtgkpkpbigmcapaaDoor
