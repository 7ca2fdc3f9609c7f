/- KindsError of the reference: the error of a list of kinds. -/
import Derived.Test.YtkjpjppfmfifeaaKnd5
import Derived.Test.YtkjpjppfmfifeaaKnd3
namespace Go.Proofs.Ytkjpjppfmfifeaa
open Go.RowKit Fl
set_option linter.unusedVariables false

theorem dup_no {K : Nat → Knd} {j : Nat} (h : ∀ i, i < j → eqN (K i).name (K j).name = false) : dupB K j = false := by
  unfold dupB; rw [allB_iff.2 fun i hi => by rw [h i hi]; rfl]; rfl
theorem dup_yes {K : Nat → Knd} {i j : Nat} (hi : i < j) (h : eqN (K i).name (K j).name = true) : dupB K j = true := by
  unfold dupB; rw [allB_no hi (by rw [h]; rfl)]; rfl

set_option maxHeartbeats 8000000 in
set_option maxRecDepth 100000 in
theorem qKindsError_any (a : Option Addr) (n cap : Nat) (K : Nat → Knd) (er : Int) (w : World) (L : KndL w a n K) (hn : n ≤ cap) (hcap : cap ≤ 9223372036854775807) (hs : ∀ i, i < n → (K i).name.size ≤ 9223372036854775807) (E : LstE n (kndS K) er) :
    Calls Try.prog 38 #[.slice a n cap] w fun e w' => e = .returned (.int .i64 (kndsE n er)) ∧ Below w.heap.size w w' := by
  unfold kndsE
  by_cases n0 : n = 0
  · subst n0
    simp only [if_true]
    clear E L hs hn
    go_enter Try.func38, Try.ntmps38
    go_wp2
    go_ret
    exact ⟨rfl, (by repeat (first | exact Below.refl _ _ | refine Below.alloc ?_ (by first | omega | (simp; done) | (simp; omega)) _ | refine Below.setCell ?_ (by first | omega | (simp; done) | (simp; omega)) _ | refine Below.drew ?_))⟩
  rw [if_neg n0]
  by_cases n12 : 12 < n
  · rw [if_pos n12]
    clear E L hs
    go_enter Try.func38, Try.ntmps38
    go_wp2
    go_ret
    exact ⟨rfl, (by repeat (first | exact Below.refl _ _ | refine Below.alloc ?_ (by first | omega | (simp; done) | (simp; omega)) _ | refine Below.setCell ?_ (by first | omega | (simp; done) | (simp; omega)) _ | refine Below.drew ?_))⟩
  rw [if_neg n12]
  have EE := Lib.hid E
  have HL := Lib.hid L
  have HS := Lib.hid hs
  have CK := Lib.hid (fun k hk w => qKindError_any k hk w)
  have hsf := fun (w : World) (a : Addr) (m : Mode) (k : FloatKind) (b : Nat) => run_store_float (P := Try.prog) (w := w) (a := a) (m := m) k b
  have e0 : ((n : Int) == 0) = false := by rw [beq_eq_false_iff_ne]; omega
  have e12 : decide ((12 : Int) < (n : Int)) = false := decide_eq_false (by omega)
  clear E L hs
  go_enter Try.func38, Try.ntmps38
  go_wp2
  go_loopw [16] (fun i wr => ∃ j : Nat, j ≤ n ∧ i = .int .i64 j ∧ (∀ i, i < j → kndS K i = 0) ∧ Below w.heap.size w wr) (fun i _ => n - (intOf i).toNat)
  case atStart => exact ⟨0, by omega, rfl, fun i hi => by omega, Below.refl _ _⟩
  case round =>
    obtain ⟨j, hj, rfl, hz, hb⟩ := hrel
    have HZ := Lib.hid hz
    have HB := Lib.hid hb
    clear hz
    by_cases c : j < n
    · rcases HL.out.stay hb with z | ⟨b', off, rfl, l⟩
      · omega
      have LL := Lib.hid l
      obtain ⟨l0, l1, l2, l3, l4, l5, l6, l7, l8, l9, l10, l11, l12⟩ := l.at c
      have C1 := Lib.hid (CK.out (K j) (HS.out j c))
      obtain ⟨ej, hej⟩ : ∃ ej, (K j).err = ej := ⟨_, rfl⟩
      rw [hej] at C1
      have HE := Lib.hid hej
      clear l hb hej
      by_cases c0 : ej = 0
      · subst c0
        have hslice : (j : Int) ≤ (cap : Int) := by omega
        go_wp2_with (first | (go_at_call 40; refine (C1.out _).mono ?_; rintro e' w4 ⟨rfl, hb4⟩; have HK := Lib.hid (blkStay (b := wr.heap.size) (o := kndO (K j)) (by (first | (rw [heap_alloc_get, if_pos rfl]; done) | ((simp only [heap_alloc_get, heap_size_alloc, if_true]) <;> ((repeat' split) <;> first | rfl | omega)))) hb4); have hB4 : Below wr.heap.size wr w4 := Below.trans (by repeat (first | exact Below.refl _ _ | refine Below.alloc ?_ (by first | omega | (simp; done) | (simp; omega)) _ | refine Below.setCell ?_ (by first | omega | (simp; done) | (simp; omega)) _ | refine Below.drew ?_)) (Below.mono hb4 (by simp)); have HB4 := Lib.hid hB4; clear hb4 hB4; obtain ⟨cK, fK, zK⟩ := blkC HK.out; clear l0 l1 l2 l3 l4 l5 l6 l7 l8 l9 l10 l11 l12))
        clear cK fK zK
        go_loopw [30] (fun i ws => ∃ m : Nat, m ≤ j ∧ i = .int .i64 m ∧ (∀ i, i < m → eqN (K i).name (K j).name = false) ∧ Below w4.heap.size w4 ws) (fun i _ => j - (intOf i).toNat)
        case atStart => exact ⟨0, by omega, rfl, fun i hi => by omega, Below.refl _ _⟩
        case round =>
          obtain ⟨m, hm, rfl, hy, hd⟩ := hrel
          have HY := Lib.hid hy
          have HD := Lib.hid hd
          clear hy
          have z4 := HB4.out.size
          by_cases d : m < j
          · obtain ⟨l0, l1, l2, l3, l4, l5, l6, l7, l8, l9, l10, l11, l12⟩ := (LL.out.stay (HB4.out.trans (hd.mono z4))).at (show m < n by omega)
            obtain ⟨cK, fK, zK⟩ := blkC (blkStay HK.out hd)
            obtain ⟨q, hq⟩ : ∃ q, eqN (K m).name (K j).name = q := ⟨_, rfl⟩
            have HQ := Lib.hid hq
            unfold eqN at hq
            clear hd
            cases q with
            | false =>
              go_wp2
              go_roundw
              case rel => exact ⟨m + 1, by omega, by go_num, (fun i hi => by
                rcases Nat.lt_or_ge i m with q | q
                · exact HY.out i q
                · rw [show i = m by omega]; exact HQ.out), Below.trans HD.out (Below.mono (by repeat (first | exact Below.refl _ _ | refine Below.alloc ?_ (by first | omega | (simp; done) | (simp; omega)) _ | refine Below.setCell ?_ (by first | omega | (simp; done) | (simp; omega)) _ | refine Below.drew ?_)) HD.out.size)⟩
              case measure => simp [intOf]; omega
            | true =>
              go_wp2
              go_ret
              have ks : kndS K j = 7 := by unfold kndS; rw [HE.out, dup_yes d HQ.out]; rfl
              exact ⟨ret_int (by rw [← ks]; exact EE.out.at HZ.out c (by rw [ks]; decide)), HB.out.trans ((HB4.out.trans (Below.mono (Below.trans HD.out (Below.mono (by repeat (first | exact Below.refl _ _ | refine Below.alloc ?_ (by first | omega | (simp; done) | (simp; omega)) _ | refine Below.setCell ?_ (by first | omega | (simp; done) | (simp; omega)) _ | refine Below.drew ?_)) HD.out.size)) z4)).mono HB.out.size)⟩
          · have : m = j := by omega
            subst this
            clear hd
            go_wp2
            go_roundw
            case rel => exact ⟨m + 1, by omega, by go_num, (fun i hi => by
              rcases Nat.lt_or_ge i m with q | q
              · exact HZ.out i q
              · rw [show i = m by omega]; unfold kndS; rw [HE.out, dup_no HY.out]; rfl), HB.out.trans ((HB4.out.trans (HD.out.mono z4)).mono HB.out.size)⟩
            case measure => simp [intOf]; omega
      · have cz : (ej != 0) = true := by simp [c0]
        have C0 := Lib.hid c0
        clear c0
        go_wp2_with (first | (go_at_call 40; refine (C1.out _).mono ?_; rintro e' w4 ⟨rfl, hb4⟩; have hB4 : Below wr.heap.size wr w4 := Below.trans (by repeat (first | exact Below.refl _ _ | refine Below.alloc ?_ (by first | omega | (simp; done) | (simp; omega)) _ | refine Below.setCell ?_ (by first | omega | (simp; done) | (simp; omega)) _ | refine Below.drew ?_)) (Below.mono hb4 (by simp)); have HB4 := Lib.hid (HB.out.trans (hB4.mono HB.out.size)); clear hb4 hB4))
        go_ret
        have ks : kndS K j = ej := by unfold kndS; rw [HE.out, if_pos C0.out]
        exact ⟨ret_int (by rw [← ks]; exact EE.out.at HZ.out c (by rw [ks]; exact C0.out)), HB4.out⟩
    · have : j = n := by omega
      subst this
      go_wp2
      go_ret
      exact ⟨ret_int (EE.out.zero HZ.out).symm, hb⟩
end Go.Proofs.Ytkjpjppfmfifeaa
