/- CheckKinds of the program: the error of a list of kinds. -/
import Derived.Test.YtkjpjppfmfifeaaKnd4
import Derived.Test.YtkjpjppfmfifeaaLst
namespace Go.Proofs.Ytkjpjppfmfifeaa
open Go.RowKit Fl
set_option linter.unusedVariables false

theorem namAt_unique {n : Nat} {K : Nat → Knd} {s : ByteArray} {r r' : Int} (h : NamAt n K s r) (h' : NamAt n K s r') : r = r' := by
  rcases h with ⟨rfl, h⟩ | ⟨i, rfl, hi, hk, h⟩ <;> rcases h' with ⟨rfl, h'⟩ | ⟨i', rfl, hi', hk', h'⟩
  · rfl
  · rw [h i' hi'] at hk'; cases hk'
  · rw [h' i hi] at hk; cases hk
  · rcases Nat.lt_trichotomy i i' with c | c | c
    · rw [h' i c] at hk; cases hk
    · rw [c]
    · rw [h i' c] at hk'; cases hk'
theorem namAt_ex (K : Nat → Knd) (s : ByteArray) : ∀ n, ∃ r, NamAt n K s r
  | 0 => ⟨-1, .inl ⟨rfl, fun i hi => by omega⟩⟩
  | n + 1 => by
    obtain ⟨r, h⟩ := namAt_ex K s n
    rcases h with ⟨rfl, h⟩ | ⟨i, rfl, hi, hk, h⟩
    · cases c : eqN (K n).name s with
      | true => exact ⟨n, .inr ⟨n, rfl, by omega, c, h⟩⟩
      | false => exact ⟨-1, .inl ⟨rfl, fun i hi => by rcases Nat.lt_or_ge i n with q | q; exact h i q; rw [show i = n by omega]; exact c⟩⟩
    · exact ⟨i, .inr ⟨i, rfl, by omega, hk, h⟩⟩
/-- Whether an earlier kind has the name of the kind i. -/
def dupB (K : Nat → Knd) (i : Nat) : Bool := !allB i fun j => !eqN (K j).name (K i).name
theorem namAt_dup {K : Nat → Knd} {i : Nat} {r : Int} (h : NamAt i K (K i).name r) : decide (0 ≤ r) = dupB K i := by
  unfold dupB
  rcases h with ⟨rfl, h⟩ | ⟨j, rfl, hj, hk, _⟩
  · rw [allB_iff.2 fun j hj => by rw [h j hj]; rfl]; rfl
  · rw [allB_no hj (by rw [hk]; rfl)]; simp
/-- A kind's error in its list. -/
def kndS (K : Nat → Knd) (i : Nat) : Int := if (K i).err ≠ 0 then (K i).err else if dupB K i then 7 else 0
/-- The error of a list of n kinds, er being the first one of its kinds. -/
def kndsE (n : Nat) (er : Int) : Int := if n = 0 then 10 else if 12 < n then 4 else er
theorem KndL.pre {w : World} {b off n j : Nat} {K : Nat → Knd} (l : KndsAt w b off n K) (h : j ≤ n) : KndL w (some ⟨b, off, none⟩) j K := .inr ⟨b, off, rfl, fun i hi => l i (by omega)⟩

set_option maxHeartbeats 4000000 in
set_option maxRecDepth 100000 in
theorem checkKinds_any (a : Option Addr) (n cap : Nat) (K : Nat → Knd) (er : Int) (w : World) (L : KndL w a n K) (hn : n ≤ cap) (hcap : cap ≤ 9223372036854775807) (hs : ∀ i, i < n → (K i).name.size ≤ 9223372036854775807) (E : LstE n (kndS K) er) :
    Calls Try.prog 37 #[.slice a n cap] w fun e w' => e = .returned (.int .i64 (kndsE n er)) ∧ Below w.heap.size w w' := by
  unfold kndsE
  by_cases n0 : n = 0
  · subst n0
    simp only [if_true]
    clear E L hs hn
    go_enter Try.func37, Try.ntmps37
    go_wp2
    go_ret
    exact ⟨rfl, (by repeat (first | exact Below.refl _ _ | refine Below.alloc ?_ (by first | omega | (simp; done) | (simp; omega)) _ | refine Below.setCell ?_ (by first | omega | (simp; done) | (simp; omega)) _ | refine Below.drew ?_))⟩
  rw [if_neg n0]
  by_cases n12 : 12 < n
  · rw [if_pos n12]
    clear E L hs
    go_enter Try.func37, Try.ntmps37
    go_wp2
    go_ret
    exact ⟨rfl, (by repeat (first | exact Below.refl _ _ | refine Below.alloc ?_ (by first | omega | (simp; done) | (simp; omega)) _ | refine Below.setCell ?_ (by first | omega | (simp; done) | (simp; omega)) _ | refine Below.drew ?_))⟩
  rw [if_neg n12]
  have EE := Lib.hid E
  have HL := Lib.hid L
  have HS := Lib.hid hs
  have CK := Lib.hid (fun k hk w => checkKind_any k hk w)
  have hsf := fun (w : World) (a : Addr) (m : Mode) (k : FloatKind) (b : Nat) => run_store_float (P := Try.prog) (w := w) (a := a) (m := m) k b
  have e0 : ((n : Int) == 0) = false := by rw [beq_eq_false_iff_ne]; omega
  have e12 : decide ((12 : Int) < (n : Int)) = false := decide_eq_false (by omega)
  clear E L hs
  go_enter Try.func37, Try.ntmps37
  go_wp2
  go_loopw [16] (fun i wr => ∃ j : Nat, j ≤ n ∧ i = .int .i64 j ∧ (∀ i, i < j → kndS K i = 0) ∧ Below w.heap.size w wr) (fun i _ => n - (intOf i).toNat)
  case atStart => exact ⟨0, by omega, rfl, fun i hi => by omega, Below.refl _ _⟩
  case round =>
    obtain ⟨j, hj, rfl, hz, hb⟩ := hrel
    have HZ := Lib.hid hz
    have HB := Lib.hid hb
    clear hz
    by_cases c : j < n
    · rcases HL.out.stay hb with z | ⟨b', off, rfl, l⟩
      · omega
      have LL := Lib.hid l
      obtain ⟨l0, l1, l2, l3, l4, l5, l6, l7, l8, l9, l10, l11, l12⟩ := l.at c
      have C1 := Lib.hid (CK.out (K j) (HS.out j c))
      obtain ⟨ej, hej⟩ : ∃ ej, (K j).err = ej := ⟨_, rfl⟩
      rw [hej] at C1
      have HE := Lib.hid hej
      clear l hb hej
      by_cases c0 : ej = 0
      · subst c0
        obtain ⟨R, hR⟩ := namAt_ex K (K j).name j
        have hd := namAt_dup hR
        have NA := Lib.hid (show ∀ W', Below wr.heap.size wr W' → Calls Try.prog 97 #[.slice (some ⟨b', off, none⟩) j cap, .string (K j).name] W' (fun e w' => e = .returned (.int .i64 R) ∧ Below W'.heap.size W' w') from fun W' hW => (named_any (some ⟨b', off, none⟩) j cap K (K j).name W' (KndL.stay (KndL.pre LL.out hj) hW) (by omega)).mono fun e w' ⟨r, h1, h2, h3⟩ => ⟨by rw [h1, namAt_unique h2 hR], h3⟩)
        clear hR
        have hslice : (j : Int) ≤ (cap : Int) := by omega
        obtain ⟨dj, hdj⟩ : ∃ dj, dupB K j = dj := ⟨_, rfl⟩
        rw [hdj] at hd
        have HD := Lib.hid hdj
        clear hdj
        go_wp2_with (first | (go_at_call 39; refine (C1.out _).mono ?_; rintro e' w4 ⟨rfl, hb4⟩; have HK := Lib.hid (blkStay (b := wr.heap.size) (o := kndO (K j)) (by (first | (rw [heap_alloc_get, if_pos rfl]; done) | ((simp only [heap_alloc_get, heap_size_alloc, if_true]) <;> ((repeat' split) <;> first | rfl | omega)))) hb4); have hB4 : Below wr.heap.size wr w4 := Below.trans (by repeat (first | exact Below.refl _ _ | refine Below.alloc ?_ (by first | omega | (simp; done) | (simp; omega)) _ | refine Below.setCell ?_ (by first | omega | (simp; done) | (simp; omega)) _ | refine Below.drew ?_)) (Below.mono hb4 (by simp)); have HB4 := Lib.hid hB4; clear hb4 hB4; obtain ⟨cK, fK, zK⟩ := blkC HK.out; clear l0 l1 l2 l3 l4 l5 l6 l7 l8 l9 l10 l11 l12))
        go_region_held3 (fun w' => (∀ o, w'.cell? ⟨wr.heap.size, o, none⟩ = (K j).cells[o]?) ∧ Below w4.heap.size w4 w') (first | exact ⟨(blkC (blkStay HK.out hb9)).1, hb9⟩ | exact ⟨(blkC (blkStay HK.out (by repeat (first | exact Below.refl _ _ | refine Below.alloc ?_ (by first | omega | (simp; done) | (simp; omega)) _ | refine Below.setCell ?_ (by first | omega | (simp; done) | (simp; omega)) _ | refine Below.drew ?_)))).1, (by repeat (first | exact Below.refl _ _ | refine Below.alloc ?_ (by first | omega | (simp; done) | (simp; omega)) _ | refine Below.setCell ?_ (by first | omega | (simp; done) | (simp; omega)) _ | refine Below.drew ?_))⟩) (first | (go_at_call 97; (with_reducible refine Calls.mono (NA.out _ ?_) ?_); exact HB4.out.trans (Below.mono (by first | exact hb9 | exact hb9.drew | exact (by repeat (first | exact Below.refl _ _ | refine Below.alloc ?_ (by first | omega | (simp; done) | (simp; omega)) _ | refine Below.setCell ?_ (by first | omega | (simp; done) | (simp; omega)) _ | refine Below.drew ?_))) HB4.out.size); rintro e w' ⟨rfl, hb8⟩; have hb9 : Below w4.heap.size w4 w' := Below.trans (by first | exact hb9 | exact hb9.drew | exact (by repeat (first | exact Below.refl _ _ | refine Below.alloc ?_ (by first | omega | (simp; done) | (simp; omega)) _ | refine Below.setCell ?_ (by first | omega | (simp; done) | (simp; omega)) _ | refine Below.drew ?_))) (Below.mono hb8 (by first | exact hb9.size | exact Nat.le_refl _ | (simp; done) | (simp; omega))); clear hb8))
        rename_i wh hHeld
        have HH := Lib.hid hHeld.2
        clear hHeld
        cases dj with
        | false =>
          go_wp2
          go_roundw
          case rel => exact ⟨j + 1, by omega, by go_num, (fun i hi => by
            rcases Nat.lt_or_ge i j with q | q
            · exact HZ.out i q
            · rw [show i = j by omega]; unfold kndS; rw [HE.out, HD.out]; rfl), HB.out.trans ((HB4.out.trans (HH.out.mono HB4.out.size)).mono HB.out.size)⟩
          case measure => simp [intOf]; omega
        | true =>
          go_wp2
          go_ret
          have ks : kndS K j = 7 := by unfold kndS; rw [HE.out, HD.out]; rfl
          exact ⟨ret_int (by rw [← ks]; exact EE.out.at HZ.out c (by rw [ks]; decide)), HB.out.trans ((HB4.out.trans (HH.out.mono HB4.out.size)).mono HB.out.size)⟩
      · have cz : (ej != 0) = true := by simp [c0]
        have C0 := Lib.hid c0
        clear c0
        go_wp2_with (first | (go_at_call 39; refine (C1.out _).mono ?_; rintro e' w4 ⟨rfl, hb4⟩; have hB4 : Below wr.heap.size wr w4 := Below.trans (by repeat (first | exact Below.refl _ _ | refine Below.alloc ?_ (by first | omega | (simp; done) | (simp; omega)) _ | refine Below.setCell ?_ (by first | omega | (simp; done) | (simp; omega)) _ | refine Below.drew ?_)) (Below.mono hb4 (by simp)); have HB4 := Lib.hid (HB.out.trans (hB4.mono HB.out.size)); clear hb4 hB4))
        go_ret
        have ks : kndS K j = ej := by unfold kndS; rw [HE.out, if_pos C0.out]
        exact ⟨ret_int (by rw [← ks]; exact EE.out.at HZ.out c (by rw [ks]; exact C0.out)), HB4.out⟩
    · have : j = n := by omega
      subst this
      go_wp2
      go_ret
      exact ⟨ret_int (EE.out.zero HZ.out).symm, hb⟩
end Go.Proofs.Ytkjpjppfmfifeaa
