/- KindsMatch: CheckKinds and CheckKind answer as the references do, for every list of kinds. -/
import Derived.Test.YtkjpjppfmfifeaaKnd6
import Derived.Test.YtkjpjppfmfifeaaSlk3
namespace Go.Proofs.Ytkjpjppfmfifeaa
open Go.RowKit Fl
set_option linter.unusedVariables false

set_option maxHeartbeats 8000000 in
set_option maxRecDepth 100000 in
theorem kindsMatch_any (a : Option Addr) (n cap : Nat) (K : Nat → Knd) (w : World) (L : KndL w a n K) (hn : n ≤ cap) (hcap : cap ≤ 9223372036854775807) (hs : ∀ i, i < n → (K i).name.size ≤ 9223372036854775807) :
    Calls Try.prog 6 #[.slice a n cap] w fun e w' => e = .returned (.bool true) ∧ Below w.heap.size w w' := by
  obtain ⟨er, E⟩ := lstE_ex (kndS K) n
  have CK := Lib.hid (fun W' (hb : Below w.heap.size w W') => checkKinds_any a n cap K er W' (L.stay hb) hn hcap hs E)
  have QK := Lib.hid (fun W' (hb : Below w.heap.size w W') => qKindsError_any a n cap K er W' (L.stay hb) hn hcap hs E)
  have C1 := Lib.hid (fun k hk w => checkKind_any k hk w)
  have Q1 := Lib.hid (fun k hk w => qKindError_any k hk w)
  have HL := Lib.hid L
  have HS := Lib.hid hs
  have hsf := fun (w : World) (a : Addr) (m : Mode) (k : FloatKind) (b : Nat) => run_store_float (P := Try.prog) (w := w) (a := a) (m := m) k b
  clear E L hs
  generalize kndsE n er = ER at *
  go_enter Try.func6, Try.ntmps6
  go_wp2_with (first
    | (go_at_call 36; refine (grows_any _).mono ?_; rintro e w1 ⟨rfl, hb1⟩; have B1 : Below w.heap.size w w1 := hb1; clear hb1)
    | (go_at_call 37; refine (CK.out _ B1).mono ?_; rintro e w2 ⟨rfl, hb2⟩; have B2 : Below w.heap.size w w2 := B1.trans (hb2.mono B1.size); clear hb2)
    | (go_at_call 38; refine (QK.out _ B2).mono ?_; rintro e w3 ⟨rfl, hb3⟩; have B3 := Lib.hid (B2.trans (hb3.mono B2.size)); clear hb3 B1 B2 CK QK))
  go_loopw [16] (fun i wr => ∃ j : Nat, j ≤ n ∧ i = .int .i64 j ∧ Below w.heap.size w wr) (fun i _ => n - (intOf i).toNat)
  case atStart => exact ⟨0, by omega, rfl, B3.out⟩
  case round =>
    obtain ⟨j, hj, rfl, hb⟩ := hrel
    have HB := Lib.hid hb
    by_cases c : j < n
    · rcases HL.out.stay hb with z | ⟨b', off, rfl, l⟩
      · omega
      obtain ⟨l0, l1, l2, l3, l4, l5, l6, l7, l8, l9, l10, l11, l12⟩ := l.at c
      have C2 := Lib.hid (C1.out (K j) (HS.out j c))
      have Q2 := Lib.hid (Q1.out (K j) (HS.out j c))
      generalize (K j).err = ej at *
      clear l hb C1 Q1
      go_wp2
      have HK := Lib.hid (show (wr.alloc (kndO (K j))).heap[wr.heap.size]? = some (kndO (K j)) from heap_alloc_new _ _)
      go_region_held3 (fun w' => (∀ o, w'.cell? ⟨wr.heap.size, o, none⟩ = (K j).cells[o]?) ∧ Below (wr.alloc (kndO (K j))).heap.size (wr.alloc (kndO (K j))) w') (first | exact ⟨(blkC (blkStay HK.out hb9)).1, hb9⟩ | exact ⟨(blkC (blkStay HK.out (by repeat (first | exact Below.refl _ _ | refine Below.alloc ?_ (by first | omega | (simp; done) | (simp; omega)) _ | refine Below.setCell ?_ (by first | omega | (simp; done) | (simp; omega)) _ | refine Below.drew ?_)))).1, (by repeat (first | exact Below.refl _ _ | refine Below.alloc ?_ (by first | omega | (simp; done) | (simp; omega)) _ | refine Below.setCell ?_ (by first | omega | (simp; done) | (simp; omega)) _ | refine Below.drew ?_))⟩) (first | ((first | go_at_call 39 | go_at_call 40); (first | (with_reducible refine Calls.mono (C2.out _) ?_) | (with_reducible refine Calls.mono (Q2.out _) ?_)); rintro e w' ⟨rfl, hb8⟩; have hb9 : Below (wr.alloc (kndO (K j))).heap.size (wr.alloc (kndO (K j))) w' := Below.trans (by first | exact hb9 | exact hb9.drew | exact (by repeat (first | exact Below.refl _ _ | refine Below.alloc ?_ (by first | omega | (simp; done) | (simp; omega)) _ | refine Below.setCell ?_ (by first | omega | (simp; done) | (simp; omega)) _ | refine Below.drew ?_))) (Below.mono hb8 (by first | exact hb9.size | exact Nat.le_refl _ | (simp; done) | (simp; omega))); clear hb8))
      rename_i wh hHeld
      have HH := Lib.hid (HB.out.trans (Below.mono (Below.trans (show Below wr.heap.size wr (wr.alloc (kndO (K j))) from (by repeat (first | exact Below.refl _ _ | refine Below.alloc ?_ (by first | omega | (simp; done) | (simp; omega)) _ | refine Below.setCell ?_ (by first | omega | (simp; done) | (simp; omega)) _ | refine Below.drew ?_))) (hHeld.2.mono (by simp))) HB.out.size))
      clear hHeld l0 l1 l2 l3 l4 l5 l6 l7 l8 l9 l10 l11 l12
      go_wp2
      go_roundw
      case rel => exact ⟨j + 1, by omega, by go_num, HH.out⟩
      case measure => simp [intOf]; omega
    · have : j = n := by omega
      subst this
      go_wp2
      go_ret
      exact ⟨rfl, hb⟩
end Go.Proofs.Ytkjpjppfmfifeaa
