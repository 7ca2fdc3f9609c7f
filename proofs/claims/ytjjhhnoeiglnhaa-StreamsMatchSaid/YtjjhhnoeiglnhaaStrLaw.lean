/- StreamsMatch: streams of both sides give the same numbers. -/
import Derived.Test.YtjjhhnoeiglnhaaStr2
import Derived.Deep.DeepCutAuto
namespace Go.Proofs.Ytjjhhnoeiglnhaa
open Go.RowKit Fl
set_option linter.unusedVariables false

/-- n cells from b, off on are the whole numbers v. -/
def IntAt (w : World) (b off n : Nat) (v : Nat → Int) : Prop := ∀ i, i < n → w.cell? ⟨b, off + i, none⟩ = some (.int .i64 (v i))

theorem both_start {w w1 w2 w3 : World} {b2 : Nat} {s0 : Int} (h1 : Below w.heap.size w w1) (h2 : w2 = w1.alloc (.cells #[.int .u32 s0] 115)) (h3 : w2.heap.size ≤ b2 ∧ SAt 117 w3 b2 s0 ∧ Below w2.heap.size w2 w3) : Both w.heap.size w1.heap.size b2 w w3 := by
  obtain ⟨a, b, c⟩ := h3
  have z1 := h1.size
  have z2 : w2.heap.size = w1.heap.size + 1 := by rw [h2, heap_size_alloc]
  have s1 : SAt 115 w2 w1.heap.size s0 := by rw [h2]; unfold SAt; rw [heap_alloc_get, if_pos rfl]
  refine ⟨⟨s0, blkStay s1 c, b⟩, z1, by omega, ?_⟩
  refine h1.trans (Below.trans ?_ (c.mono (by omega)))
  rw [h2]; exact (Below.refl _ _).alloc z1 _

set_option maxHeartbeats 8000000 in
set_option maxRecDepth 100000 in
theorem streamsMatch_some (s x y : Int) (b off n cap : Nat) (v : Nat → Int) (w : World) (hb : b < w.heap.size) (hn : n ≤ cap) (hcap : cap ≤ 9223372036854775807) (hc : IntAt w b off n v) :
    Calls Try.prog 9 #[.int .u32 s, .int .i64 x, .int .i64 y, .slice (some ⟨b, off, none⟩) n cap] w fun e w' => e = .returned (.bool true) ∧ Below w.heap.size w w' := by
  have HC := Lib.hid hc
  have HW := Lib.hid hb
  clear hc hb
  obtain ⟨M, hM, hmin, hmin2⟩ : ∃ M : Nat, M ≤ n ∧ (if (50 : Int) < (n : Int) then (50 : Int) else (n : Int)) = (M : Int) ∧ (if 50 < n then (50 : Int) else (n : Int)) = (M : Int) := by
    by_cases c : 50 < n
    · exact ⟨50, by omega, by rw [if_pos (by omega)]; rfl, by rw [if_pos c]; rfl⟩
    · exact ⟨n, by omega, by rw [if_neg (by omega)], by rw [if_neg c]⟩
  · go_enter Try.func9, Try.ntmps9
    go_wp2_with (first | (go_at_call 15; refine (landed_any _).mono ?_; rintro e w1 ⟨rfl, hb1⟩; have HB1 := Lib.hid hb1; clear hb1) | (go_at_call 46; refine (newStream_any _ _ _ _).mono ?_; rintro e w2 ⟨rfl, hw2⟩; have HW2 := Lib.hid hw2; clear hw2) | (go_at_call 47; refine (refNewStream_any _ _ _ _).mono ?_; rintro e w3 ⟨b2, rfl, h3⟩; have H3 := Lib.hid h3; clear h3))
    have HB := Lib.hid (both_start HB1.out HW2.out H3.out)
    clear HB1 HW2 H3
    clear hmin hmin2
    go_loopw [34] (fun i wr => ∃ k : Nat, k ≤ M ∧ i = .int .i64 k ∧ Both w.heap.size w1.heap.size b2 w wr) (fun i _ => M - (intOf i).toNat)
    case atStart => exact ⟨0, Nat.zero_le _, rfl, HB.out⟩
    case round =>
      clear HB
      obtain ⟨k, hk, rfl, hB⟩ := hrel
      have HB := Lib.hid hB
      clear hB
      by_cases hlt : k < M
      · obtain ⟨t, hs1, hs2⟩ := HB.out.ex
        have HS1 := Lib.hid hs1
        have HS2 := Lib.hid hs2
        have NE := Lib.hid (show b2 ≠ w1.heap.size by have := HB.out.ne; omega)
        clear hs1 hs2
        have hcell : wr.cell? ⟨b, off + k, none⟩ = some (.int .i64 (v k)) := by rw [← HC.out k (by omega)]; exact HB.out.below.cell (p := ⟨b, off + k, none⟩) HW.out
        generalize v k = m at *
        have HLT := Lib.hid hlt
        have NI := Lib.hid (nxI_in t)
        rcases (by omega : (k : Int) % 3 = 0 ∨ (k : Int) % 3 = 1 ∨ (k : Int) % 3 = 2) with h3 | h3 | h3
        · go_wp2_with fail
          refine (next_any _ _ _ HS1.out).mono ?_
          rintro e w4 ⟨rfl, a4, o4⟩
          have A4 := Lib.hid a4
          have O4 := Lib.hid o4
          clear a4 o4
          go_wp2_with fail
          refine (refNext_any _ _ _ (HS2.out.other O4.out NE.out)).mono ?_
          rintro e w5 ⟨rfl, a5, o5⟩
          have A5 := Lib.hid a5
          have O5 := Lib.hid o5
          clear a5 o5
          go_wp2
          go_roundw
          case rel => exact ⟨k + 1, by have := HLT.out; omega, by go_num, HB.out.step O4.out O5.out A4.out A5.out⟩
          case measure => have := HLT.out; simp [intOf]; omega
        · by_cases hm : 1 ≤ m ∧ m ≤ 2147483647
          · obtain ⟨n0, n1⟩ := hm
            obtain ⟨p0, p1, p2, p3⟩ := mulShr (nxI t) m NI.out.1 NI.out.2 n0 n1
            go_wp2_with fail
            refine (streamBelow_ok _ _ _ _ HS1.out n0 n1).mono ?_
            rintro e w4 ⟨rfl, a4, o4⟩
            have A4 := Lib.hid a4
            have O4 := Lib.hid o4
            clear a4 o4
            go_wp2_with fail
            refine (refNext_any _ _ _ (HS2.out.other O4.out NE.out)).mono ?_
            rintro e w5 ⟨rfl, a5, o5⟩
            have A5 := Lib.hid a5
            have O5 := Lib.hid o5
            clear a5 o5
            have s0 := NI.out.1
            have s1 := NI.out.2
            have d4 : decide (m ≤ nxI t * m / 4294967296) = false := by simp; omega
            clear p3
            go_wp2
            go_roundw
            case rel => exact ⟨k + 1, by have := HLT.out; omega, by go_num, HB.out.step O4.out O5.out A4.out A5.out⟩
            case measure => have := HLT.out; simp [intOf]; omega
          · have hm' := (by omega : m < 1 ∨ 2147483647 < m)
            clear hm
            rcases hm' with hm | hm
            · go_wp2_with fail
              refine (streamBelow_no _ m _ (.inl hm)).mono ?_
              rintro e w' ⟨rfl, rfl⟩
              go_wp2
              go_roundw
              case rel => exact ⟨k + 1, by have := HLT.out; omega, by go_num, HB.out⟩
              case measure => have := HLT.out; simp [intOf]; omega
            · go_wp2_with fail
              refine (streamBelow_no _ m _ (.inr hm)).mono ?_
              rintro e w' ⟨rfl, rfl⟩
              go_wp2
              go_roundw
              case rel => exact ⟨k + 1, by have := HLT.out; omega, by go_num, HB.out⟩
              case measure => have := HLT.out; simp [intOf]; omega
        · go_wp2_with fail
          refine (streamUnit_any _ _ _ HS1.out).mono ?_
          rintro e w4 ⟨rfl, a4, o4⟩
          have A4 := Lib.hid a4
          have O4 := Lib.hid o4
          clear a4 o4
          go_wp2_with fail
          refine (refNext_any _ _ _ (HS2.out.other O4.out NE.out)).mono ?_
          rintro e w5 ⟨rfl, a5, o5⟩
          have A5 := Lib.hid a5
          have O5 := Lib.hid o5
          clear a5 o5
          go_wp2_with (first | (go_at_call 41; refine (refUnit_any _ _ NI.out.1 NI.out.2).mono ?_; rintro e w' ⟨rfl, rfl⟩) | (go_at_call 40; refine (bits_self _ _).mono ?_; rintro e w' ⟨rfl, rfl⟩))
          go_roundw
          case rel => exact ⟨k + 1, by have := HLT.out; omega, by go_num, HB.out.step O4.out O5.out A4.out A5.out⟩
          case measure => have := HLT.out; simp [intOf]; omega
      · go_wp2
        go_ret
        exact ⟨rfl, HB.out.below⟩

set_option maxHeartbeats 1000000 in
set_option maxRecDepth 100000 in
theorem streamsMatch_nil (s x y : Int) (w : World) :
    Calls Try.prog 9 #[.int .u32 s, .int .i64 x, .int .i64 y, .slice none 0 0] w fun e w' => e = .returned (.bool true) ∧ Below w.heap.size w w' := by
  go_enter Try.func9, Try.ntmps9
  go_wp2_with (first | (go_at_call 15; refine (landed_any _).mono ?_; rintro e w1 ⟨rfl, hb1⟩; have HB1 := Lib.hid hb1; clear hb1) | (go_at_call 46; refine (newStream_any _ _ _ _).mono ?_; rintro e w2 ⟨rfl, hw2⟩; have HW2 := Lib.hid hw2; clear hw2) | (go_at_call 47; refine (refNewStream_any _ _ _ _).mono ?_; rintro e w3 ⟨b2, rfl, h3⟩; have H3 := Lib.hid h3; clear h3))
  have HB := Lib.hid (both_start HB1.out HW2.out H3.out)
  clear HB1 HW2 H3
  go_loopw [34] (fun i wr => i = .int .i64 0 ∧ Both w.heap.size w1.heap.size b2 w wr) (fun i _ => 0)
  case atStart => exact ⟨rfl, HB.out⟩
  case round =>
    clear HB
    obtain ⟨rfl, hB⟩ := hrel
    have HB := Lib.hid hB
    clear hB
    go_wp2
    go_ret
    exact ⟨rfl, HB.out.below⟩
set_option maxHeartbeats 1000000 in
set_option maxRecDepth 100000 in
theorem streamsMatch_zero (s x y : Int) (a : Addr) (cap : Nat) (w : World) (hcap : cap ≤ 9223372036854775807) :
    Calls Try.prog 9 #[.int .u32 s, .int .i64 x, .int .i64 y, .slice (some a) 0 cap] w fun e w' => e = .returned (.bool true) ∧ Below w.heap.size w w' := by
  go_enter Try.func9, Try.ntmps9
  go_wp2_with (first | (go_at_call 15; refine (landed_any _).mono ?_; rintro e w1 ⟨rfl, hb1⟩; have HB1 := Lib.hid hb1; clear hb1) | (go_at_call 46; refine (newStream_any _ _ _ _).mono ?_; rintro e w2 ⟨rfl, hw2⟩; have HW2 := Lib.hid hw2; clear hw2) | (go_at_call 47; refine (refNewStream_any _ _ _ _).mono ?_; rintro e w3 ⟨b2, rfl, h3⟩; have H3 := Lib.hid h3; clear h3))
  have HB := Lib.hid (both_start HB1.out HW2.out H3.out)
  clear HB1 HW2 H3
  go_loopw [34] (fun i wr => i = .int .i64 0 ∧ Both w.heap.size w1.heap.size b2 w wr) (fun i _ => 0)
  case atStart => exact ⟨rfl, HB.out⟩
  case round =>
    clear HB
    obtain ⟨rfl, hB⟩ := hrel
    have HB := Lib.hid hB
    clear hB
    go_wp2
    go_ret
    exact ⟨rfl, HB.out.below⟩
end Go.Proofs.Ytjjhhnoeiglnhaa
