/- A list of kinds: named, CheckKinds of the program. -/
import Derived.Test.YtkjpjppfmfifeaaKnd2
import Derived.Test.YtkjpjppfmfifeaaGen
namespace Go.Proofs.Ytkjpjppfmfifeaa
open Go.RowKit Fl
set_option linter.unusedVariables false

/-- The kinds lie in a block, one after the other. -/
def KndsAt (w : World) (b off n : Nat) (K : Nat → Knd) : Prop := ∀ i, i < n → ∀ j, j < 13 → w.cell? ⟨b, off + i * 13 + j, none⟩ = (K i).cells[j]?
/-- .. or there is none. -/
def KndL (w : World) (a : Option Addr) (n : Nat) (K : Nat → Knd) : Prop := n = 0 ∨ ∃ b off, a = some ⟨b, off, none⟩ ∧ KndsAt w b off n K
theorem cells_get (k : Knd) (j : Nat) (hj : j < 13) : ∃ v, k.cells[j]? = some v := by
  have : j < k.cells.size := hj
  exact ⟨k.cells[j], Array.getElem?_eq_getElem this⟩
theorem KndsAt.stay {w w' : World} {b off n : Nat} {K : Nat → Knd} (L : KndsAt w b off n K) (hb : Below w.heap.size w w') : KndsAt w' b off n K := fun i hi j hj => by
  obtain ⟨v, hv⟩ := cells_get (K i) j hj
  have h := L i hi j hj
  rw [hv] at h
  have hlt := World.block_lt_of_cell? w _ h
  rw [hv, ← h]
  exact Below.cell hb hlt
theorem KndL.stay {w w' : World} {a : Option Addr} {n : Nat} {K : Nat → Knd} (L : KndL w a n K) (hb : Below w.heap.size w w') : KndL w' a n K :=
  L.imp_right fun ⟨b, off, e, h⟩ => ⟨b, off, e, h.stay hb⟩
structure KndAt (w : World) (b o : Nat) (k : Knd) : Prop where
  c0 : w.cell? ⟨b, o, none⟩ = some (.string k.name)
  c1 : w.cell? ⟨b, o + 1, none⟩ = some (.float .f32 k.lo)
  c2 : w.cell? ⟨b, o + 2, none⟩ = some (.float .f32 k.hi)
  c3 : w.cell? ⟨b, o + 3, none⟩ = some (.float .f32 k.so)
  c4 : w.cell? ⟨b, o + 4, none⟩ = some (.float .f32 k.st)
  c5 : w.cell? ⟨b, o + 5, none⟩ = some (.float .f32 k.dr)
  c6 : w.cell? ⟨b, o + 6, none⟩ = some (.float .f32 k.da)
  c7 : w.cell? ⟨b, o + 7, none⟩ = some (.float .f32 k.to)
  c8 : w.cell? ⟨b, o + 8, none⟩ = some (.float .f32 k.pa)
  c9 : w.cell? ⟨b, o + 9, none⟩ = some (.float .f32 k.sh)
  c10 : w.cell? ⟨b, o + 10, none⟩ = some (.float .f32 k.ba)
  c11 : w.cell? ⟨b, o + 11, none⟩ = some (.int .i64 k.sp)
  c12 : w.cell? ⟨b, o + 12, none⟩ = some (.int .i64 k.th)
theorem KndsAt.at {w : World} {b off n : Nat} {K : Nat → Knd} (L : KndsAt w b off n K) {i : Nat} (hi : i < n) : KndAt w b (off + i * 13) (K i) :=
  ⟨L i hi 0 (by omega), L i hi 1 (by omega), L i hi 2 (by omega), L i hi 3 (by omega), L i hi 4 (by omega), L i hi 5 (by omega), L i hi 6 (by omega), L i hi 7 (by omega), L i hi 8 (by omega), L i hi 9 (by omega), L i hi 10 (by omega), L i hi 11 (by omega), L i hi 12 (by omega)⟩

/-- Whether two texts are the same. -/
def eqN (a b : ByteArray) : Bool := a.toList == b.toList
theorem enters_named1 : Enters 127 := by intro args W; simp [callFunc, Try.func127, Try.f127]
theorem named1_any (k : Knd) (s : ByteArray) (p : Nat) (w : World) (hp : w.heap[p]? = some (.cells #[.string s] 9)) : Calls Try.prog 127 #[kndV k, .pointer (some ⟨p, 0, none⟩)] w fun e w' => e = .returned (.bool (eqN k.name s)) ∧ Below w.heap.size w w' := by
  obtain ⟨c, f, z⟩ := blkC hp
  unfold eqN
  clear hp
  go_enter Try.func127, Try.ntmps127
  go_wp2
  go_ret
  exact ⟨rfl, (by repeat (first | exact Below.refl _ _ | refine Below.alloc ?_ (by first | omega | (simp; done) | (simp; omega)) _ | refine Below.setCell ?_ (by first | omega | (simp; done) | (simp; omega)) _ | refine Below.drew ?_))⟩

/-- The number of the first kind of that name, or -1. -/
def NamAt (n : Nat) (K : Nat → Knd) (s : ByteArray) (r : Int) : Prop := (r = -1 ∧ ∀ i, i < n → eqN (K i).name s = false) ∨ ∃ i : Nat, r = i ∧ i < n ∧ eqN (K i).name s = true ∧ ∀ j, j < i → eqN (K j).name s = false

set_option maxHeartbeats 2000000 in
theorem named_any (a : Option Addr) (n cap : Nat) (K : Nat → Knd) (s : ByteArray) (w : World) (L : KndL w a n K) (hn : n ≤ 9223372036854775807) :
    Calls Try.prog 97 #[.slice a n cap, .string s] w fun e w' => ∃ r : Int, e = .returned (.int .i64 r) ∧ NamAt n K s r ∧ Below w.heap.size w w' := by
  have IX : ∀ p W, Below w.heap.size w W → W.heap[p]? = some (.cells #[.string s] 9) → Calls Try.prog 126 #[.slice a n cap, .func (.func 127) #[] #[.pointer (some ⟨p, 0, none⟩)]] W fun e w' => ∃ r : Int, e = .returned (.int .i64 r) ∧ NamAt n K s r ∧ Below W.heap.size W w' := by
    intro p W hW hp
    have HP := Lib.hid hp
    have HL := Lib.hid (L.stay hW)
    have NC := Lib.hid (fun k w (h : w.heap[p]? = some (.cells #[.string s] 9)) => named1_any k s p w h)
    have hc := enters_named1
    unfold Enters at hc
    clear L hW hp
    go_enter Try.func126, Try.ntmps126
    go_wp2
    go_loopw [8] (fun i wr => ∃ j : Nat, j ≤ n ∧ i = .int .i64 j ∧ (∀ i, i < j → eqN (K i).name s = false) ∧ Below W.heap.size W wr) (fun i _ => n - (intOf i).toNat)
    case atStart => exact ⟨0, by omega, rfl, fun i hi => by omega, Below.refl _ _⟩
    case round =>
      obtain ⟨j, hj, rfl, hz, hb⟩ := hrel
      have HZ := Lib.hid hz
      have HB := Lib.hid hb
      clear hz
      by_cases c : j < n
      · rcases HL.out.stay hb with z | ⟨b', off, rfl, l⟩
        · omega
        obtain ⟨l0, l1, l2, l3, l4, l5, l6, l7, l8, l9, l10, l11, l12⟩ := l.at c
        have C1 := Lib.hid (NC.out (K j) wr (blkStay HP.out hb))
        obtain ⟨ej, hej⟩ : ∃ ej, eqN (K j).name s = ej := ⟨_, rfl⟩
        rw [hej] at C1
        have HE := Lib.hid hej
        clear l hb hej
        cases ej with
        | false =>
          go_wp2_with (first | (go_at_call 127; refine C1.out.mono ?_; rintro e' w4 ⟨rfl, hb4⟩; have HB4 := Lib.hid (HB.out.trans (hb4.mono HB.out.size)); clear hb4))
          go_roundw
          case rel => exact ⟨j + 1, by omega, by go_num, (fun i hi => by
            rcases Nat.lt_or_ge i j with q | q
            · exact HZ.out i q
            · rw [show i = j by omega]; exact HE.out), HB4.out⟩
          case measure => simp [intOf]; omega
        | true =>
          go_wp2_with (first | (go_at_call 127; refine C1.out.mono ?_; rintro e' w4 ⟨rfl, hb4⟩; have HB4 := Lib.hid (HB.out.trans (hb4.mono HB.out.size)); clear hb4))
          go_ret
          exact ⟨_, rfl, .inr ⟨j, rfl, c, HE.out, HZ.out⟩, HB4.out⟩
      · have : j = n := by omega
        subst this
        go_wp2
        go_ret
        exact ⟨_, rfl, .inl ⟨rfl, HZ.out⟩, hb⟩
  have IXH := Lib.hid IX
  clear IX L
  go_enter Try.func97, Try.ntmps97
  go_wp2_with (first | (go_at_call 126; refine (IXH.out w.heap.size _ (by repeat (first | exact Below.refl _ _ | refine Below.alloc ?_ (by first | omega | (simp; done) | (simp; omega)) _ | refine Below.setCell ?_ (by first | omega | (simp; done) | (simp; omega)) _ | refine Below.drew ?_)) (by (first | (rw [heap_alloc_get, if_pos rfl]; done) | ((simp only [heap_alloc_get, heap_size_alloc, if_true]) <;> ((repeat' split) <;> first | rfl | omega))))).mono ?_; rintro e' w4 ⟨r, rfl, hr, hb4⟩; have HB4 := Lib.hid (Below.trans (show Below w.heap.size w _ from (by repeat (first | exact Below.refl _ _ | refine Below.alloc ?_ (by first | omega | (simp; done) | (simp; omega)) _ | refine Below.setCell ?_ (by first | omega | (simp; done) | (simp; omega)) _ | refine Below.drew ?_))) (Below.mono hb4 (by simp))); have HR := Lib.hid hr; clear hb4 hr))
  go_ret
  exact ⟨r, rfl, HR.out, HB4.out⟩
end Go.Proofs.Ytkjpjppfmfifeaa
