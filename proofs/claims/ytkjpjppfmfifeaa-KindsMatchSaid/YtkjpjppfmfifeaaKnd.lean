/- A kind of plants: its cells, its error; CheckKind, on both sides. -/
import Derived.Test.YtkjpjppfmfifeaaMinM
import Derived.Test.YtkjpjppfmfifeaaBlk
import Derived.Test.YtkjpjppfmfifeaaOps
import Derived.WalkLawsBesides
namespace Go.Proofs.Ytkjpjppfmfifeaa
open Go.RowKit Fl
set_option linter.unusedVariables false

/-- The fields of a kind. -/
structure Knd where
  name : ByteArray
  lo : Nat
  hi : Nat
  so : Nat
  st : Nat
  dr : Nat
  da : Nat
  to : Nat
  pa : Nat
  sh : Nat
  ba : Nat
  sp : Int
  th : Int
def kndZ : Knd := ⟨ByteArray.empty, 0, 0, 0, 0, 0, 0, 0, 0, 0, 0, 0, 0⟩
abbrev Knd.cells (k : Knd) : Array Value := #[.string k.name, .float .f32 k.lo, .float .f32 k.hi, .float .f32 k.so, .float .f32 k.st, .float .f32 k.dr, .float .f32 k.da, .float .f32 k.to, .float .f32 k.pa, .float .f32 k.sh, .float .f32 k.ba, .int .i64 k.sp, .int .i64 k.th]
abbrev kndV (k : Knd) : Value := .agg k.cells
abbrev kndO (k : Knd) : Obj := .cells k.cells 62
/-- Its singles, in order. -/
def Knd.f (k : Knd) (i : Nat) : Nat := match i with | 0 => k.lo | 1 => k.hi | 2 => k.so | 3 => k.st | 4 => k.dr | 5 => k.da | 6 => k.to | 7 => k.pa | 8 => k.sh | _ => k.ba
abbrev tenO (k : Knd) : Obj := .cells #[.float .f32 k.lo, .float .f32 k.hi, .float .f32 k.so, .float .f32 k.st, .float .f32 k.dr, .float .f32 k.da, .float .f32 k.to, .float .f32 k.pa, .float .f32 k.sh, .float .f32 k.ba] 30
theorem flAt_ten {w : World} {p : Nat} {k : Knd} (h : w.heap[p]? = some (tenO k)) : FlAt w p 0 10 k.f := by
  intro i hi
  rw [Nat.zero_add, (blkC h).1 i]
  have : i = 0 ∨ i = 1 ∨ i = 2 ∨ i = 3 ∨ i = 4 ∨ i = 5 ∨ i = 6 ∨ i = 7 ∨ i = 8 ∨ i = 9 := by omega
  rcases this with rfl | rfl | rfl | rfl | rfl | rfl | rfl | rfl | rfl | rfl <;> rfl

/-- A byte of a text, as a number. -/
def byt (s : ByteArray) (i : Nat) : Int := ((s[i]?.getD 0).toNat : Int)
/-- Whether all bytes of a text are small letters. -/
def ltrB (s : ByteArray) : Bool := allB s.size fun i => decide (97 ≤ byt s i ∧ byt s i ≤ 122)
/-- Whether a text is a name of a kind. -/
def namB (s : ByteArray) : Bool := ltrB s && withinB s.size 1 20

/-- Whether a kind's numbers are in order. -/
def Knd.rng (k : Knd) : Bool := !(ltB k.so 0 || ltB k.st 0 || ltB k.dr 0 || ltB k.to 0 || ltB k.pa 0 || ltB k.sh 0 || FloatKind.f32.format.order k.sh 1065353216 == some .gt || ltB k.ba 0 || FloatKind.f32.format.order k.ba 1065353216 == some .gt)
/-- A kind's error. -/
def Knd.err (k : Knd) : Int :=
  if namB k.name = false then 6 else if fldE 10 k.f ≠ 0 then fldE 10 k.f else if ltB k.hi k.lo = true ∨ ltB k.da k.dr = true then 8 else if k.rng = false then 3
  else if withinB k.sp 0 32 = false ∨ withinB k.th 0 32 = false then 3 else 0

theorem byt_at {s : ByteArray} {i : Nat} (h : i < s.size) : ((s[i]'h).toNat : Int) = byt s i := by
  unfold byt
  rw [ByteArray.getElem?_lt' s i h]; rfl

set_option maxHeartbeats 1000000 in
theorem isName_any (s : ByteArray) (hs : s.size ≤ 9223372036854775807) (w : World) : Calls Try.prog 98 #[.string s] w fun e w' => e = .returned (.bool (namB s)) ∧ w = w' := by
  have WI := Lib.hid (fun w => within_any s.size 1 20 w)
  go_enter Try.func98, Try.ntmps98
  go_wp2
  go_loop [6] (fun i => ∃ k : Nat, k ≤ s.size ∧ i = .int .i64 k ∧ allB k (fun i => decide (97 ≤ byt s i ∧ byt s i ≤ 122)) = true) (fun i => s.size - (intOf i).toNat)
  case atStart => exact ⟨0, Nat.zero_le _, rfl, rfl⟩
  case round =>
    obtain ⟨k, hk, rfl, hall⟩ := hrel
    have HA := Lib.hid hall
    clear hall
    by_cases hlt : k < s.size
    · obtain ⟨B, hB⟩ : ∃ B, byt s k = B := ⟨_, rfl⟩
      have e1 : ((s[((k : Int)).toNat]'(by omega)).toNat : Int) = B := by rw [← hB]; exact byt_at (by omega)
      have ix : ∀ w : World, (Instr.index 9 (.string s) (.int .i64 (k : Int))).run Try.prog w = .ok (.int .u8 B) w := fun w => by
        rw [run_index_string (P := Try.prog) w 9 s .i64 k Try.underlying9, dif_pos ⟨by omega, by omega⟩, e1]
      have C := Lib.hid hB
      clear e1 hB
      by_cases c : 97 ≤ B ∧ B ≤ 122
      · obtain ⟨c1, c2⟩ := c
        go_wp2
        go_round
        case rel => exact ⟨k + 1, by omega, by go_num, allB_iff.2 fun i hi => by
          rcases Nat.lt_or_ge i k with c | c
          · exact allB_iff.1 HA.out i c
          · rw [show i = k by omega, C.out]; exact decide_eq_true ⟨c1, c2⟩⟩
        case measure => simp [intOf]; omega
      · have HN := Lib.hid (show namB s = false by
          unfold namB ltrB
          rw [allB_no hlt (by rw [C.out]; exact decide_eq_false c)]; rfl)
        by_cases c1 : B < 97
        · clear c
          go_wp2
          go_ret
          exact ⟨ret_bool HN.out.symm, rfl⟩
        · have c2 : 122 < B := by omega
          clear c
          go_wp2
          go_ret
          exact ⟨ret_bool HN.out.symm, rfl⟩
    · have hkn : k = s.size := by omega
      subst hkn
      go_wp2_with (go_at_call 99; refine (WI.out _).mono ?_; rintro e w' ⟨rfl, rfl⟩)
      go_ret
      exact ⟨ret_bool (by unfold namB ltrB; rw [HA.out]; rfl), rfl⟩
end Go.Proofs.Ytkjpjppfmfifeaa
