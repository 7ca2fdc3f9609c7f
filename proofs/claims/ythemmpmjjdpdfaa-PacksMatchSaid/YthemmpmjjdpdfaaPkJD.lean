/- PacksMatch, for every list of integers and every text: Pack, Unpack and Sum answer as the reference does. No condition. -/
import Derived.Test.YthemmpmjjdpdfaaPkJC
import Derived.WalkLawsBesides
import Derived.ChangeMaps5
import Derived.LaidLaws

/- min and max of singles that have values. -/
namespace Go.Proofs.Ythemmpmjjdpdfaa
open Go.RowKit Fl
set_option linter.unusedVariables false

theorem max2_val {x y : Nat} {a b : Int} (hx : vS x = some a) (hy : vS y = some b) : ∃ r, Builtin.max2 (.float .f32 x) (.float .f32 y) = pure (.float .f32 r) ∧ vS r = some (if a < b then b else a) ∧ (b < a → r = x) ∧ (a < b → r = y) ∧ (r = x ∨ r = y) := by
  have o : FloatKind.f32.format.order x y = some (compare a b) := order_val hx hy
  unfold Builtin.max2
  dsimp only
  rw [o]
  rcases h : compare a b with _ | _ | _
  · have : a < b := Int.compare_eq_lt.1 h
    exact ⟨y, rfl, by rw [if_pos this]; exact hy, fun q => by omega, fun _ => rfl, .inr rfl⟩
  · have : a = b := Int.compare_eq_eq.1 h
    subst this
    dsimp only
    split
    · exact ⟨y, rfl, by rw [if_neg (by omega)]; exact hy, fun q => by omega, fun q => by omega, .inr rfl⟩
    · exact ⟨x, rfl, by rw [if_neg (by omega)]; exact hx, fun q => by omega, fun q => by omega, .inl rfl⟩
  · have : b < a := Int.compare_eq_gt.1 h
    exact ⟨x, rfl, by rw [if_neg (by omega)]; exact hx, fun _ => rfl, fun q => by omega, .inl rfl⟩
theorem min2_val {x y : Nat} {a b : Int} (hx : vS x = some a) (hy : vS y = some b) : ∃ r, Builtin.min2 (.float .f32 x) (.float .f32 y) = pure (.float .f32 r) ∧ vS r = some (if b < a then b else a) := by
  have o : FloatKind.f32.format.order x y = some (compare a b) := order_val hx hy
  unfold Builtin.min2
  dsimp only
  rw [o]
  rcases h : compare a b with _ | _ | _
  · have : a < b := Int.compare_eq_lt.1 h
    exact ⟨x, rfl, by rw [if_neg (by omega)]; exact hx⟩
  · have : a = b := Int.compare_eq_eq.1 h
    subst this
    dsimp only
    split
    · exact ⟨x, rfl, by rw [if_neg (by omega)]; exact hx⟩
    · exact ⟨y, rfl, by rw [if_neg (by omega)]; exact hy⟩
  · have : b < a := Int.compare_eq_gt.1 h
    exact ⟨y, rfl, by rw [if_pos this]; exact hy⟩

/-- The builtin max of two. -/
theorem run_max_two (ts : Array TypeId) (t : TypeId) {x y : Nat} {a b : Int} (hx : vS x = some a) (hy : vS y = some b) : ∃ r, (∀ w : World, (Builtin.max_ ts t #[.float .f32 x, .float .f32 y]).run Try.prog w = .ok (.float .f32 r) w) ∧ vS r = some (if a < b then b else a) ∧ (b < a → r = x) ∧ (a < b → r = y) ∧ (r = x ∨ r = y) := by
  obtain ⟨r, m, v⟩ := max2_val hx hy
  refine ⟨r, fun w => ?_, v⟩
  show (([Value.float .f32 y]).foldlM Builtin.max2 (Value.float .f32 x)).run Try.prog w = _
  simp only [List.foldlM]
  rw [m]
  rfl

theorem min_fold : ∀ (l : List (Nat × Int)) (x : Nat) (a : Int), vS x = some a → (∀ q ∈ l, vS q.1 = some q.2) → ∃ r m, (∀ w : World, ((l.map fun q => Value.float .f32 q.1).foldlM Builtin.min2 (Value.float .f32 x)).run Try.prog w = .ok (.float .f32 r) w) ∧ vS r = some m ∧ (m < 0 ↔ a < 0 ∨ ∃ q ∈ l, q.2 < 0)
  | [], x, a, hx, _ => ⟨x, a, fun w => rfl, hx, by simp⟩
  | q :: l, x, a, hx, hl => by
    obtain ⟨r, m, v⟩ := min2_val hx (hl q (by simp))
    obtain ⟨r', m', h1, h2, h3⟩ := min_fold l r _ v (fun p hp => hl p (by simp [hp]))
    refine ⟨r', m', fun w => ?_, h2, ?_⟩
    · simp only [List.map_cons, List.foldlM]
      rw [m]
      exact h1 w
    · rw [h3]
      simp only [List.mem_cons, exists_eq_or_imp]
      split <;> constructor
      · rintro (h | h)
        · exact .inr (.inl h)
        · exact .inr (.inr h)
      · rintro (h | h | h)
        · exact .inl (by omega)
        · exact .inl h
        · exact .inr h
      · rintro (h | h)
        · exact .inl h
        · exact .inr (.inr h)
      · rintro (h | h | h)
        · exact .inl h
        · exact .inl (by omega)
        · exact .inr h

/-- The builtin min of seven. -/
theorem run_min_seven (ts : Array TypeId) (t : TypeId) {x1 x2 x3 x4 x5 x6 x7 : Nat} {a1 a2 a3 a4 a5 a6 a7 : Int} (h1 : vS x1 = some a1) (h2 : vS x2 = some a2) (h3 : vS x3 = some a3) (h4 : vS x4 = some a4) (h5 : vS x5 = some a5) (h6 : vS x6 = some a6) (h7 : vS x7 = some a7) :
    ∃ r m, (∀ w : World, (Builtin.min_ ts t #[.float .f32 x1, .float .f32 x2, .float .f32 x3, .float .f32 x4, .float .f32 x5, .float .f32 x6, .float .f32 x7]).run Try.prog w = .ok (.float .f32 r) w) ∧ vS r = some m ∧ (m < 0 ↔ a1 < 0 ∨ a2 < 0 ∨ a3 < 0 ∨ a4 < 0 ∨ a5 < 0 ∨ a6 < 0 ∨ a7 < 0) := by
  obtain ⟨r, m, e, v, i⟩ := min_fold [(x2, a2), (x3, a3), (x4, a4), (x5, a5), (x6, a6), (x7, a7)] x1 a1 h1 (by
    intro q hq
    simp only [List.mem_cons, List.not_mem_nil, or_false] at hq
    rcases hq with rfl | rfl | rfl | rfl | rfl | rfl <;> assumption)
  exact ⟨r, m, fun w => e w, v, by rw [i]; simp⟩
end Go.Proofs.Ythemmpmjjdpdfaa

/- A kind of plants: its cells, its error; CheckKind, on both sides. -/
namespace Go.Proofs.Ythemmpmjjdpdfaa
open Go.RowKit Fl
set_option linter.unusedVariables false

/-- The fields of a kind. -/
structure Knd where
  name : ByteArray
  lo : Nat
  hi : Nat
  so : Nat
  st : Nat
  dr : Nat
  da : Nat
  tp : Nat
  pa : Nat
  sh : Nat
  ba : Nat
  sp : Int
  th : Int
def kndZ : Knd := ⟨ByteArray.empty, 0, 0, 0, 0, 0, 0, 0, 0, 0, 0, 0, 0⟩
abbrev Knd.cells (k : Knd) : Array Value := #[.string k.name, .float .f32 k.lo, .float .f32 k.hi, .float .f32 k.so, .float .f32 k.st, .float .f32 k.dr, .float .f32 k.da, .float .f32 k.tp, .float .f32 k.pa, .float .f32 k.sh, .float .f32 k.ba, .int .i64 k.sp, .int .i64 k.th]
abbrev kndV (k : Knd) : Value := .agg k.cells
/-- Its singles, in order. -/
def Knd.f (k : Knd) (i : Nat) : Nat := match i with | 0 => k.lo | 1 => k.hi | 2 => k.so | 3 => k.st | 4 => k.dr | 5 => k.da | 6 => k.tp | 7 => k.pa | 8 => k.sh | _ => k.ba
abbrev tenO (k : Knd) : Obj := .cells #[.float .f32 k.lo, .float .f32 k.hi, .float .f32 k.so, .float .f32 k.st, .float .f32 k.dr, .float .f32 k.da, .float .f32 k.tp, .float .f32 k.pa, .float .f32 k.sh, .float .f32 k.ba] 27
theorem flAt_ten {w : World} {p : Nat} {k : Knd} (h : w.heap[p]? = some (tenO k)) : FlAt w p 0 10 k.f := by
  intro i hi
  rw [Nat.zero_add, (blkC h).1 i]
  have : i = 0 ∨ i = 1 ∨ i = 2 ∨ i = 3 ∨ i = 4 ∨ i = 5 ∨ i = 6 ∨ i = 7 ∨ i = 8 ∨ i = 9 := by omega
  rcases this with rfl | rfl | rfl | rfl | rfl | rfl | rfl | rfl | rfl | rfl <;> rfl

/-- A byte of a text, as a number. -/
def byt (s : ByteArray) (i : Nat) : Int := ((s[i]?.getD 0).toNat : Int)
/-- Whether all bytes of a text are small letters. -/
def ltrB (s : ByteArray) : Bool := allB s.size fun i => decide (97 ≤ byt s i ∧ byt s i ≤ 122)
/-- Whether a text is a name of a kind. -/
def namB (s : ByteArray) : Bool := ltrB s && withinB s.size 1 20

/-- Whether a kind's numbers are in order. -/
def Knd.rng (k : Knd) : Bool := !(ltB k.so 0 || ltB k.st 0 || ltB k.dr 0 || ltB k.tp 0 || ltB k.pa 0 || ltB k.sh 0 || FloatKind.f32.format.order k.sh 1065353216 == some .gt || ltB k.ba 0 || FloatKind.f32.format.order k.ba 1065353216 == some .gt)
/-- A kind's error. -/
def Knd.err (k : Knd) : Int :=
  if namB k.name = false then 6 else if fldE 10 k.f ≠ 0 then fldE 10 k.f else if ltB k.hi k.lo = true ∨ ltB k.da k.dr = true then 8 else if k.rng = false then 3
  else if withinB k.sp 0 32 = false ∨ withinB k.th 0 32 = false then 3 else 0

theorem byt_at {s : ByteArray} {i : Nat} (h : i < s.size) : ((s[i]'h).toNat : Int) = byt s i := by
  unfold byt
  rw [ByteArray.getElem?_lt' s i h]; rfl

end Go.Proofs.Ythemmpmjjdpdfaa

/- CheckKind of the program, KindError of the reference: a kind's error. -/
namespace Go.Proofs.Ythemmpmjjdpdfaa
open Go.RowKit Fl
set_option linter.unusedVariables false

theorem fld_ten {k : Knd} (h : fldE 10 k.f = 0) : hgtB k.lo = true ∧ hgtB k.hi = true ∧ hgtB k.so = true ∧ hgtB k.st = true ∧ hgtB k.dr = true ∧ hgtB k.da = true ∧ hgtB k.tp = true ∧ hgtB k.pa = true ∧ hgtB k.sh = true ∧ hgtB k.ba = true := by
  have := allB_iff.1 (fldE_zero.1 h)
  exact ⟨this 0 (by omega), this 1 (by omega), this 2 (by omega), this 3 (by omega), this 4 (by omega), this 5 (by omega), this 6 (by omega), this 7 (by omega), this 8 (by omega), this 9 (by omega)⟩

theorem err_name {k : Knd} (h : namB k.name = false) : k.err = 6 := by unfold Knd.err; rw [if_pos h]
theorem err_fld {k : Knd} (n : namB k.name = true) (h : fldE 10 k.f ≠ 0) : k.err = fldE 10 k.f := by unfold Knd.err; rw [if_neg (by simp [n]), if_pos h]
theorem err_ord {k : Knd} (n : namB k.name = true) (h : fldE 10 k.f = 0) (o : ltB k.hi k.lo = true ∨ ltB k.da k.dr = true) : k.err = 8 := by unfold Knd.err; rw [if_neg (by simp [n]), if_neg (by simp [h]), if_pos o]
theorem err_rest {k : Knd} (n : namB k.name = true) (h : fldE 10 k.f = 0) (o1 : ltB k.hi k.lo = false) (o2 : ltB k.da k.dr = false) : k.err = if k.rng = false then 3 else if withinB k.sp 0 32 = false ∨ withinB k.th 0 32 = false then 3 else 0 := by
  unfold Knd.err; rw [if_neg (by simp [n]), if_neg (by simp [h]), if_neg (by simp [o1, o2])]

end Go.Proofs.Ythemmpmjjdpdfaa

/- A list of kinds: named, CheckKinds of the program. -/
namespace Go.Proofs.Ythemmpmjjdpdfaa
open Go.RowKit Fl
set_option linter.unusedVariables false

/-- The kinds lie in a block, one after the other. -/
def KndsAt (w : World) (b off n : Nat) (K : Nat → Knd) : Prop := ∀ i, i < n → ∀ j, j < 13 → w.cell? ⟨b, off + i * 13 + j, none⟩ = (K i).cells[j]?
/-- .. or there is none. -/
def KndL (w : World) (a : Option Addr) (n : Nat) (K : Nat → Knd) : Prop := n = 0 ∨ ∃ b off, a = some ⟨b, off, none⟩ ∧ KndsAt w b off n K
theorem cells_get (k : Knd) (j : Nat) (hj : j < 13) : ∃ v, k.cells[j]? = some v := by
  have : j < k.cells.size := hj
  exact ⟨k.cells[j], Array.getElem?_eq_getElem this⟩
theorem KndsAt.stay {w w' : World} {b off n : Nat} {K : Nat → Knd} (L : KndsAt w b off n K) (hb : Below w.heap.size w w') : KndsAt w' b off n K := fun i hi j hj => by
  obtain ⟨v, hv⟩ := cells_get (K i) j hj
  have h := L i hi j hj
  rw [hv] at h
  have hlt := World.block_lt_of_cell? w _ h
  rw [hv, ← h]
  exact Below.cell hb hlt
theorem KndL.stay {w w' : World} {a : Option Addr} {n : Nat} {K : Nat → Knd} (L : KndL w a n K) (hb : Below w.heap.size w w') : KndL w' a n K :=
  L.imp_right fun ⟨b, off, e, h⟩ => ⟨b, off, e, h.stay hb⟩
structure KndAt (w : World) (b o : Nat) (k : Knd) : Prop where
  c0 : w.cell? ⟨b, o, none⟩ = some (.string k.name)
  c1 : w.cell? ⟨b, o + 1, none⟩ = some (.float .f32 k.lo)
  c2 : w.cell? ⟨b, o + 2, none⟩ = some (.float .f32 k.hi)
  c3 : w.cell? ⟨b, o + 3, none⟩ = some (.float .f32 k.so)
  c4 : w.cell? ⟨b, o + 4, none⟩ = some (.float .f32 k.st)
  c5 : w.cell? ⟨b, o + 5, none⟩ = some (.float .f32 k.dr)
  c6 : w.cell? ⟨b, o + 6, none⟩ = some (.float .f32 k.da)
  c7 : w.cell? ⟨b, o + 7, none⟩ = some (.float .f32 k.tp)
  c8 : w.cell? ⟨b, o + 8, none⟩ = some (.float .f32 k.pa)
  c9 : w.cell? ⟨b, o + 9, none⟩ = some (.float .f32 k.sh)
  c10 : w.cell? ⟨b, o + 10, none⟩ = some (.float .f32 k.ba)
  c11 : w.cell? ⟨b, o + 11, none⟩ = some (.int .i64 k.sp)
  c12 : w.cell? ⟨b, o + 12, none⟩ = some (.int .i64 k.th)
theorem KndsAt.at {w : World} {b off n : Nat} {K : Nat → Knd} (L : KndsAt w b off n K) {i : Nat} (hi : i < n) : KndAt w b (off + i * 13) (K i) :=
  ⟨L i hi 0 (by omega), L i hi 1 (by omega), L i hi 2 (by omega), L i hi 3 (by omega), L i hi 4 (by omega), L i hi 5 (by omega), L i hi 6 (by omega), L i hi 7 (by omega), L i hi 8 (by omega), L i hi 9 (by omega), L i hi 10 (by omega), L i hi 11 (by omega), L i hi 12 (by omega)⟩

/-- Whether two texts are the same. -/
def eqN (a b : ByteArray) : Bool := a.toList == b.toList
/-- The number of the first kind of that name, or -1. -/
def NamAt (n : Nat) (K : Nat → Knd) (s : ByteArray) (r : Int) : Prop := (r = -1 ∧ ∀ i, i < n → eqN (K i).name s = false) ∨ ∃ i : Nat, r = i ∧ i < n ∧ eqN (K i).name s = true ∧ ∀ j, j < i → eqN (K j).name s = false

end Go.Proofs.Ythemmpmjjdpdfaa

/- Kinds that came in, opened: one, and a list. -/
namespace Go.Proofs.Ythemmpmjjdpdfaa
open Go.ChangeShapes Go.WideShapes Go.ChangeAt Go.RowKit Go.Joins Go.Deep Fl

section
variable {H : Type} {enc : TypeId × Value → H} {w : World} {base : Nat} {spare : Nat → Bool} {held : Bool}

theorem cellsStr : Try.prog.cellsOf 9 = 1 := by kernel_rfl
theorem trod_fieldAt {P : Program} {t : TypeId} {fs : Array Go.Field} {fuel : Nat} {cs : List Value} {x : DataW H × List MemPlace} (ht : P.underlying t = some (.struct fs)) (h : DataW.trod enc P w base spare held fuel t cs = some x) :
    ∃ n, ∀ (i : Nat) (ty : TypeId) (off : Nat), (fs[i]?).map (fun (f : Go.Field) => (f.type, f.offset)) = some (ty, off) → ∃ y, DataW.trod enc P w base spare held n ty ((cs.drop off).take (P.cellsOf ty)) = some y := by
  obtain ⟨xs, n, _, rfl, _, hlen, hf⟩ := DataW.trod_struct ht h
  refine ⟨n, fun i ty off e => ?_⟩
  cases hfi : fs[i]? with
  | none => rw [hfi] at e; cases e
  | some f =>
    rw [hfi] at e
    simp only [Option.map_some, Option.some.injEq, Prod.mk.injEq] at e
    obtain ⟨rfl, rfl⟩ := e
    have hi : i < fs.size := by rw [Array.getElem?_eq_some_iff] at hfi; exact hfi.1
    have hx : i < xs.length := by omega
    exact ⟨xs[i], by rw [hf i f hfi, List.getElem?_eq_getElem hx]⟩
theorem trod_f32at {fuel i : Nat} {cs : List Value} {v : Value} {y : DataW H × List MemPlace} (h : DataW.trod enc Try.prog w base spare held fuel 27 ((cs.drop i).take 1) = some y) (hv : cs[i]? = some v) : ∃ s, v = .float .f32 s ∧ s < 4294967296 := by
  have e : (cs.drop i).take 1 = [v] := by
    have hi : i < cs.length := by rw [List.getElem?_eq_some_iff] at hv; exact hv.1
    rw [List.drop_eq_getElem_cons hi]
    rw [List.getElem?_eq_getElem hi] at hv
    simp only [List.take_succ_cons, List.take_zero, Option.some.inj hv]
  rw [e] at h
  exact trod_f32 Try.underlying27 h
theorem take_at {α : Type} {cs : List α} {i : Nat} {v : α} (hv : cs[i]? = some v) : (cs.drop i).take 1 = [v] := by
  have hi : i < cs.length := by rw [List.getElem?_eq_some_iff] at hv; exact hv.1
  rw [List.drop_eq_getElem_cons hi]
  rw [List.getElem?_eq_getElem hi] at hv
  simp only [List.take_succ_cons, List.take_zero, Option.some.inj hv]

/-- A right kind: its name is a text of the machine, its singles are words. -/
structure KndWf (k : Knd) : Prop where
  name : k.name.size ≤ 9223372036854775807
  f : wf32 10 k.f

end
end Go.Proofs.Ythemmpmjjdpdfaa

/- PacksMatch, for every list of integers and every text: Pack, Unpack and Sum answer as the reference does. No condition. -/
namespace Go.Proofs.Ythemmpmjjdpdfaa.packsMatch
open Go.ChangeShapes Go.WideShapes Go.ChangeAt Go.RowKit Go.Joins
set_option linter.unusedVariables false

section
variable {H : Type} {enc : TypeId × Value → H} {w : World} {base : Nat} {spare : Nat → Bool} {held : Bool}
set_option maxRecDepth 100000 in
theorem open_ls {r : Reach} {b0 : Nat} {v : Value} {d : DataW H} {p : List MemPlace} (hv : Value.okWide Try.prog w r b0 112 v) (h : DataW.Trod enc Try.prog w base spare held 112 v d p) :
    ∃ a n cap c, v = .slice a n cap ∧ LsAt w a n c ∧ n ≤ 9223372036854775807 := by
  obtain ⟨a2, len, cap, rfl⟩ := okWide_slice Try.underlying112 hv
  obtain ⟨fuel, hf⟩ := h
  rcases open_ints Try.underlying112 Try.underlying3 cellsI hf with ⟨hcs, _⟩ | ⟨a', len', cap', zs, hcs, _, hl, hm, hz, _, hcell, _⟩
  · cases hcs
    exact ⟨_, _, _, fun _ => 0, rfl, .inl rfl, by omega⟩
  · cases hcs
    have hcap : cap ≤ 9223372036854775807 := Nat.le_trans hm (by decide)
    refine ⟨_, _, _, fun j => zs.getD j 0, rfl, ?_, by omega⟩
    rcases Nat.eq_zero_or_pos len with z | z
    · exact .inl z
    · have hzl : len ≤ zs.length := by rw [hz]; split <;> omega
      have h0 := hcell 0 (by omega)
      obtain ⟨b, off, spot⟩ := a'
      have hspot : spot = none := by simpa [Addr.add] using World.cell?_spot h0
      subst hspot
      exact .inr ⟨b, off, rfl, fun i hi => by rw [← Go.WideShapes.add_plain]; exact hcell i (by omega)⟩
end

theorem own : ownKnob Try.prog.godebug = none := by kernel_rfl

set_option maxRecDepth 100000 in
theorem lifted (os : Os) (started : os.Started) (H : Type) (enc : TypeId × Value → H) :
    ReturnsInHanded {} Try.checked os 11 .any (Rows.packsMatchSpec.pre6 enc Try.prog Try.f11 Rows.packsMatchRow.domain false) (Rows.packsMatchSpec.post enc Try.prog Try.f11 false true false false) := by
  refine returnsInHanded_of_change (C := Try.checked) own started (by kernel_rfl) Try.func11
    (ChangeSpec.witness6 (enc := enc) (C := Try.checked) false ⟨#[], #[.slice none 0 0, .string ⟨#[]⟩], []⟩ 8 (by kernel_rfl) (by kernel_rfl) (by kernel_rfl) (by kernel_rfl)) ?_
  intro W base args ds gs before hval0 hW hcnd _
  have hval : ∀ (j : Nat) t v, Try.f11.params[j]? = some t → args[j]? = some v → Value.okWide Try.prog W .any base t v := hval0
  have hW' := hW
  have hplt : ∀ x ∈ before, x.block < W.heap.size := fun x hx => by simpa using hW'.lt x hx
  obtain ⟨p, q, hA0, hV, rfl, hfz, hnd⟩ := hW
  have hA : DataW.TrodAll enc Try.prog W 0 (fun _ => true) true Try.f11.params.toList args.toList ds p := hA0
  rw [Try.params11] at hA hval
  obtain ⟨v0, vs0, d0, ds0, p0, q0, hargs, rfl, rfl, h0, r0⟩ := trodAll_cons hA
  obtain ⟨v1, vs1, d1, ds1, p1, q1, rfl, rfl, rfl, h1, r1⟩ := trodAll_cons r0
  obtain ⟨rfl, rfl, rfl⟩ := trodAll_nil r1
  obtain rfl : args = #[v0, v1] := by cases args; simp_all
  obtain ⟨rfl, rfl⟩ := trodVars_none hV
  obtain ⟨a, n, cap, c, rfl, hc, hn⟩ := open_ls (hval 0 112 v0 rfl rfl) h0
  obtain ⟨s, rfl, rfl, rfl, hs⟩ := Go.ChangeMaps.open_string Try.underlying9 (hval 1 9 v1 rfl rfl) h1
  have hlt0 : ∀ x ∈ p0, x.block < W.heap.size := fun x hx => hplt x (by simp [hx])
  clear hA0 hval0 hplt
  simp only [List.append_nil] at hW'
  refine (packsMatch_any n cap a c s W hc hn hs).mono fun e W' ⟨he, hb⟩ => ?_
  subst he
  exact ⟨_, rfl, _, _, _, [], _, [], hW', trodAll_cons_mk (shut_bool Try.underlying4 _) trodAll_mk0, trodAll_cons_mk (Below.trod laidOut (by kernel_rfl) (of_decide_eq_true (by kernel_rfl)) h0 hb hlt0) (trodAll_cons_mk (Go.ChangeMaps.shut_string Try.underlying9 hs) trodAll_mk0), rfl, hb.frame _, fun h => by cases h⟩

theorem over : Rows.packsMatchRow.holds Try.pinned (OpenSpec.ofChange Rows.packsMatchSpec) :=
  OpenClaim.holds_of_wide 11 Try.f11 rfl rfl rfl rfl rfl rfl rfl ⟨rfl, rfl, rfl, rfl, rfl⟩ rfl rfl rfl rfl rfl (by kernel_rfl) Try.func11 (by kernel_rfl)
    (of_decide_eq_true (by kernel_rfl)) (by unfold Func.isWrapper; rw [if_neg (of_decide_eq_false (by kernel_rfl))]; exact ⟨rfl, rfl⟩)
    (fun os started H enc _ => lifted os started H enc)

theorem proved : Rows.PacksMatchSaid :=
  over
#print axioms proved
end Go.Proofs.Ythemmpmjjdpdfaa.packsMatch
