/- CountsMatch, for every list of kinds, every list of plants and every place: Count and Nearest answer as the law reckons. No condition. -/
import Derived.Test.YtkjpjppfmfifeaaCntJC
import Derived.BigRegion
import Derived.StillTailTactics
import Derived.BigQuiet
import Derived.ProofKit
import Derived.OpenShut
import Derived.Lib.SmallJoins
import Derived.Laws.Cover2
import Derived.Deep.Slices

/- Count of the program: its two loops. -/
namespace Go.Proofs.Ytkjpjppfmfifeaa
open Go.RowKit Fl
set_option linter.unusedVariables false

/-- Kinds and plants without an error. -/
structure Right (n : Nat) (K : Nat → Knd) (m : Nat) (P : Nat → Plt) : Prop where
  n1 : 0 < n
  n2 : n ≤ 12
  m2 : m ≤ 4000
  kd : ∀ i, i < m → 0 ≤ (P i).kd ∧ (P i).kd < n
  pla : ∀ i, i < m → -4194304 ≤ (P i).x ∧ (P i).x ≤ 4194304 ∧ -4194304 ≤ (P i).y ∧ (P i).y ≤ 4194304
  sz : ∀ i, i < m → SzOk (P i).sz
  ag : ∀ i, i < m → 0 ≤ (P i).ag ∧ (P i).ag ≤ 1000
  top : ∀ i, i < n → hgtB (K i).tp = true

/-- Two blocks of structs of the call's own. -/
structure CB (w wr : World) (n b1 b2 : Nat) (c1 c2 : Nat → Array Value) : Prop where
  r1 : RowsAt wr b1 n 5 c1
  r2 : RowsAt wr b2 n 2 c2
  ne : b1 ≠ b2
  g1 : w.heap.size ≤ b1
  g2 : w.heap.size ≤ b2
  below : Below w.heap.size w wr
theorem CB.stay {w wr w' : World} {n b1 b2 : Nat} {c1 c2 : Nat → Array Value} (h : CB w wr n b1 b2 c1 c2) (hb : Below wr.heap.size wr w') : CB w w' n b1 b2 c1 c2 :=
  ⟨h.r1.stay hb, h.r2.stay hb, h.ne, h.g1, h.g2, h.below.trans (hb.mono h.below.size)⟩
theorem CB.alloc {w wr : World} {n b1 b2 : Nat} {c1 c2 : Nat → Array Value} (h : CB w wr n b1 b2 c1 c2) (o : Obj) : CB w (wr.alloc o) n b1 b2 c1 c2 := h.stay ((Below.refl _ _).alloc (Nat.le_refl _) o)
theorem CB.drew {w wr : World} {n b1 b2 : Nat} {c1 c2 : Nat → Array Value} (h : CB w wr n b1 b2 c1 c2) : CB w wr.drew n b1 b2 c1 c2 := ⟨h.r1.congr rfl, h.r2.congr rfl, h.ne, h.g1, h.g2, h.below.drew⟩
theorem CB.put1 {w wr : World} {n b1 b2 : Nat} {c1 c2 : Nat → Array Value} (h : CB w wr n b1 b2 c1 c2) {q j o : Nat} (hq : q < n) (hj : j < 5) (ho : o = q * 5 + j) (v : Value) :
    CB w (wr.setCell ⟨b1, o, none⟩ v) n b1 b2 (updR c1 q ((c1 q).setIfInBounds j v)) c2 :=
  ⟨h.r1.put hq hj ho v, h.r2.congr (Below.heap_setCell _ _ _ _ h.ne.symm), h.ne, h.g1, h.g2, h.below.setCell (p := ⟨b1, o, none⟩) h.g1 v⟩
theorem CB.put2 {w wr : World} {n b1 b2 : Nat} {c1 c2 : Nat → Array Value} (h : CB w wr n b1 b2 c1 c2) {q j o : Nat} (hq : q < n) (hj : j < 2) (ho : o = q * 2 + j) (v : Value) :
    CB w (wr.setCell ⟨b2, o, none⟩ v) n b1 b2 c1 (updR c2 q ((c2 q).setIfInBounds j v)) :=
  ⟨h.r1.congr (Below.heap_setCell _ _ _ _ h.ne), h.r2.put hq hj ho v, h.ne, h.g1, h.g2, h.below.setCell (p := ⟨b2, o, none⟩) h.g2 v⟩
theorem updR_twice (c : Nat → Array Value) (q : Nat) (a a' : Array Value) : updR (updR c q a) q a' = updR c q a' := by
  funext i
  unfold updR
  split <;> rfl
theorem updR_self (c : Nat → Array Value) (q : Nat) : updR c q (c q) = c := by
  funext i
  unfold updR
  split
  · rename_i h; rw [h]
  · rfl
theorem CB.set1 {w wr : World} {n b1 b2 q : Nat} {c1 c2 : Nat → Array Value} {A A' : Array Value} (h : CB w wr n b1 b2 (updR c1 q A) c2) (hq : q < n) {j o : Nat} (hj : j < 5) (ho : o = q * 5 + j) (v : Value) (hA : A.setIfInBounds j v = A') :
    CB w (wr.setCell ⟨b1, o, none⟩ v) n b1 b2 (updR c1 q A') c2 := by
  have := h.put1 hq hj ho v
  rw [updR_same, hA, updR_twice] at this
  exact this
theorem CB.set2 {w wr : World} {n b1 b2 q : Nat} {c1 c2 : Nat → Array Value} {A A' : Array Value} (h : CB w wr n b1 b2 c1 (updR c2 q A)) (hq : q < n) {j o : Nat} (hj : j < 2) (ho : o = q * 2 + j) (v : Value) (hA : A.setIfInBounds j v = A') :
    CB w (wr.setCell ⟨b2, o, none⟩ v) n b1 b2 c1 (updR c2 q A') := by
  have := h.put2 hq hj ho v
  rw [updR_same, hA, updR_twice] at this
  exact this
/-- What is read of the struct q. -/
theorem CB.get1 {w wr : World} {n b1 b2 q : Nat} {c1 c2 : Nat → Array Value} {a0 a1 a2 a3 a4 : Value} (h : CB w wr n b1 b2 (updR c1 q #[a0, a1, a2, a3, a4]) c2) (hq : q < n) :
    wr.cell? ⟨b1, q * 5, none⟩ = some a0 ∧ wr.cell? ⟨b1, q * 5 + 1, none⟩ = some a1 ∧ wr.cell? ⟨b1, q * 5 + 2, none⟩ = some a2 ∧ wr.cell? ⟨b1, q * 5 + 3, none⟩ = some a3 ∧ wr.cell? ⟨b1, q * 5 + 4, none⟩ = some a4 ∧ (∀ j, wr.frozen? ⟨b1, j, none⟩ = false) ∧ b1 < wr.heap.size := by
  have g := fun j (hj : j < 5) => h.r1.cell hq hj
  simp only [updR_same] at g
  exact ⟨g 0 (by omega), g 1 (by omega), g 2 (by omega), g 3 (by omega), g 4 (by omega), h.r1.free, h.r1.lt⟩
theorem CB.get2 {w wr : World} {n b1 b2 q : Nat} {c1 c2 : Nat → Array Value} {a0 a1 : Value} (h : CB w wr n b1 b2 c1 (updR c2 q #[a0, a1])) (hq : q < n) :
    wr.cell? ⟨b2, q * 2, none⟩ = some a0 ∧ wr.cell? ⟨b2, q * 2 + 1, none⟩ = some a1 ∧ (∀ j, wr.frozen? ⟨b2, j, none⟩ = false) ∧ b2 < wr.heap.size := by
  have g := fun j (hj : j < 2) => h.r2.cell hq hj
  simp only [updR_same] at g
  exact ⟨g 0 (by omega), g 1 (by omega), h.r2.free, h.r2.lt⟩
/-- The blocks of Count behind k plants. -/
def CntAt (w wr : World) (n : Nat) (K : Nat → Knd) (P : Nat → Plt) (b1 b2 k : Nat) : Prop :=
  CB w wr n b1 b2 (fun i => cnsA (cnsC (fun j => yngB K (P j)) P i k)) (fun i => talA (cnsC (fun j => yngB K (P j)) P i k))

theorem CntAt.step {w wr : World} {n : Nat} {K : Nat → Knd} {P : Nat → Plt} {b1 b2 k q : Nat} {C : Cns} {Y : Bool} {c1 c2 : Nat → Array Value} {A T : Array Value}
    (h : CB w wr n b1 b2 (updR c1 q A) (updR c2 q T)) (h1 : (fun i => cnsA (cnsC (fun j => yngB K (P j)) P i k)) = c1) (h2 : (fun i => talA (cnsC (fun j => yngB K (P j)) P i k)) = c2)
    (hC : cnsC (fun j => yngB K (P j)) P q k = C) (hY : yngB K (P k) = Y) (hq : (P k).kd = q)
    (hA : cnsA (C.put Y (P k) (if C.many = 0 then (P k).sz else addW C.sum (P k).sz)) = A) (hT : talA (C.put Y (P k) (if C.many = 0 then (P k).sz else addW C.sum (P k).sz)) = T) : CntAt w wr n K P b1 b2 (k + 1) := by
  have ne : ∀ i, i ≠ q → cnsC (fun j => yngB K (P j)) P i (k + 1) = cnsC (fun j => yngB K (P j)) P i k := fun i hi => by
    rw [cnsC, if_neg (by rw [hq]; omega)]
  have eq : cnsC (fun j => yngB K (P j)) P q (k + 1) = C.put Y (P k) (if C.many = 0 then (P k).sz else addW C.sum (P k).sz) := by
    rw [cnsC, if_pos hq, hC, hY]
  unfold CntAt
  refine ⟨h.r1.as fun i _ => ?_, h.r2.as fun i _ => ?_, h.ne, h.g1, h.g2, h.below⟩
  · by_cases e : i = q
    · subst e; rw [updR_same, eq, hA]
    · rw [updR_other _ _ e, ne i e, ← h1]
  · by_cases e : i = q
    · subst e; rw [updR_same, eq, hT]
    · rw [updR_other _ _ e, ne i e, ← h2]

def CntPost (w : World) (n : Nat) (C : Nat → Cns) (e : Ending) (w' : World) : Prop :=
  ∃ b, e = .returned (.tuple #[.slice (some ⟨b, 0, none⟩) n n, .int .i64 0]) ∧ w.heap.size ≤ b ∧ RowsAt w' b n 5 (fun i => (C i).fin.cells) ∧ Below w.heap.size w w'

theorem rows_fst (w : World) (z : Array Value) (n k : Nat) (t : TypeId) (o : Obj) (hz : z.size = k) (hk : 0 < k) : RowsAt ((w.alloc (.cells (madeCells z (n * k)) t)).alloc o).drew w.heap.size n k (fun _ => z) :=
  ((rows_made w z n k t hz hk).stay ((Below.refl _ _).alloc (Nat.le_refl _) _)).congr rfl
theorem rows_snd (w : World) (z : Array Value) (n k : Nat) (t : TypeId) (o : Obj) (hz : z.size = k) (hk : 0 < k) : RowsAt ((w.alloc o).alloc (.cells (madeCells z (n * k)) t)).drew (w.heap.size + 1) n k (fun _ => z) := by
  have := rows_made (w.alloc o) z n k t hz hk
  rw [heap_size_alloc] at this
  exact this.congr rfl
theorem two_below {w w1 : World} (h : Below w.heap.size w w1) (o o' : Obj) : Below w.heap.size w ((w1.alloc o).alloc o').drew := ((h.alloc h.size o).alloc (by have := h.size; simp; omega) o').drew
/-- .. in the second loop. -/
def finA (K : Nat → Knd) (P : Nat → Plt) (m i j : Nat) : Array Value := if j < i then (cnsC (fun j => yngB K (P j)) P j m).fin.cells else cnsA (cnsC (fun j => yngB K (P j)) P j m)
def CntFin (w wr : World) (n : Nat) (K : Nat → Knd) (P : Nat → Plt) (b1 b2 m i : Nat) : Prop := CB w wr n b1 b2 (finA K P m i) (fun j => talA (cnsC (fun j => yngB K (P j)) P j m))
theorem CntFin.start {w wr : World} {n : Nat} {K : Nat → Knd} {P : Nat → Plt} {b1 b2 m : Nat} (h : CntAt w wr n K P b1 b2 m) : CntFin w wr n K P b1 b2 m 0 :=
  ⟨h.r1.as fun j _ => by unfold finA; rw [if_neg (by omega)], h.r2, h.ne, h.g1, h.g2, h.below⟩
theorem CntFin.at {w wr : World} {n : Nat} {K : Nat → Knd} {P : Nat → Plt} {b1 b2 m i : Nat} {C : Cns} (h : CntFin w wr n K P b1 b2 m i) (hi : i < n) (hC : cnsC (fun j => yngB K (P j)) P i m = C) :
    CB w wr n b1 b2 (updR (finA K P m i) i (cnsA C)) (updR (fun j => talA (cnsC (fun j => yngB K (P j)) P j m)) i (talA C)) := by
  have e1 : cnsA C = finA K P m i i := by unfold finA; rw [if_neg (by omega), hC]
  have e2 : talA C = (fun j => talA (cnsC (fun j => yngB K (P j)) P j m)) i := by rw [← hC]
  rw [e1, e2, updR_self, updR_self]
  exact h
theorem CntFin.skip {w wr : World} {n : Nat} {K : Nat → Knd} {P : Nat → Plt} {b1 b2 m i : Nat} {C : Cns} (h : CntFin w wr n K P b1 b2 m i) (hC : cnsC (fun j => yngB K (P j)) P i m = C) (hz : C.many = 0) : CntFin w wr n K P b1 b2 m (i + 1) :=
  ⟨h.r1.as fun j _ => by
    unfold finA
    by_cases c : j < i
    · rw [if_pos c, if_pos (by omega)]
    · by_cases e : j = i
      · subst e
        have s0 := cnsC_none (fun j => yngB K (P j)) P j m (by rw [hC]; exact hz)
        have m0 := cnsC_mean (fun j => yngB K (P j)) P j m
        rw [if_neg c, if_pos (by omega), hC] 
        rw [hC] at s0 m0
        unfold Cns.fin
        rw [if_pos hz]
        unfold cnsA Cns.cells
        rw [s0, m0]
      · rw [if_neg c, if_neg (by omega)], h.r2, h.ne, h.g1, h.g2, h.below⟩
theorem CntFin.put {w wr wr' : World} {n : Nat} {K : Nat → Knd} {P : Nat → Plt} {b1 b2 m i Q : Nat} {C : Cns} (h : CntFin w wr n K P b1 b2 m i) (hC : cnsC (fun j => yngB K (P j)) P i m = C) (hz : C.many ≠ 0) (hQ : floatBits .quo .f32 C.sum (floatOfInt .f32 (C.many : Int)) = some Q)
    (h' : CB w wr' n b1 b2 (updR (finA K P m i) i #[.int .i64 C.many, .int .i64 C.young, .int .i64 C.old, .float .f32 C.sum, .float .f32 Q]) (updR (fun j => talA (cnsC (fun j => yngB K (P j)) P j m)) i (talA C))) : CntFin w wr' n K P b1 b2 m (i + 1) :=
  ⟨h'.r1.as fun j _ => by
    by_cases e : j = i
    · subst e
      rw [updR_same]
      unfold finA
      rw [if_pos (by omega), hC]
      unfold Cns.fin
      rw [if_neg hz]
      unfold Cns.cells quoW
      rw [hQ]
      rfl
    · rw [updR_other _ _ e]
      unfold finA
      by_cases c : j < i
      · rw [if_pos c, if_pos (by omega)]
      · rw [if_neg c, if_neg (by omega)], h'.r2.as fun j _ => by
    by_cases e : j = i
    · subst e; rw [updR_same, hC]
    · rw [updR_other _ _ e], h'.ne, h'.g1, h'.g2, h'.below⟩
theorem CntFin.post {w wr : World} {n : Nat} {K : Nat → Knd} {P : Nat → Plt} {b1 b2 m : Nat} (h : CntFin w wr n K P b1 b2 m n) : CntPost w n (fun i => cnsC (fun j => yngB K (P j)) P i m) (.returned (.tuple #[.slice (some ⟨b1, 0, none⟩) n n, .int .i64 0])) wr :=
  ⟨b1, rfl, h.g1, h.r1.as fun j hj => by unfold finA; rw [if_pos hj], h.below⟩

set_option maxHeartbeats 8000000 in
set_option maxRecDepth 100000 in
theorem count_ok (a : Option Addr) (n cap : Nat) (K : Nat → Knd) (a2 : Option Addr) (m cap2 : Nat) (P : Nat → Plt) (w : World) (R : Right n K m P) (L : KndL w a n K) (L2 : PltL w a2 m P)
    (CK : ∀ w', Below w.heap.size w w' → Calls Try.prog 102 #[.slice a n cap, .slice a2 m cap2] w' fun e w2 => e = .returned (.int .i64 0) ∧ Below w'.heap.size w' w2) :
    Calls Try.prog 49 #[.slice a n cap, .slice a2 m cap2] w (CntPost w n (fun i => cnsC (fun j => yngB K (P j)) P i m)) := by
  have RR := Lib.hid R
  have LL := Lib.hid L
  have PP := Lib.hid L2
  have C0 := Lib.hid CK
  have mk1 := make_cns n (by have := R.n2; omega)
  have mk2 := make_tal n (by have := R.n2; omega)
  have hsf := fun (w : World) (a : Addr) (m : Mode) (k : FloatKind) (b : Nat) => run_store_float (P := Try.prog) (w := w) (a := a) (m := m) k b
  clear CK L L2 R
  go_enter Try.func49, Try.ntmps49
  go_wp2_with (go_at_call 102; refine (C0.out _ (Below.refl _ _)).mono ?_; rintro e w1 ⟨rfl, hb1⟩; have HB1 := Lib.hid hb1; clear hb1)
  go_region
  · have ST : CntAt w ((w1.alloc (.cells (madeCells #[.int .i64 0, .int .i64 0, .int .i64 0, .float .f32 0, .float .f32 0] (n * 5)) 83)).alloc (.cells (madeCells #[.float .f32 0, .bool false] (n * 2)) 131)).drew n K P w1.heap.size (w1.heap.size + 1) 0 := ⟨rows_fst w1 _ n 5 _ _ rfl (by omega), rows_snd w1 _ n 2 _ _ rfl (by omega), by omega, HB1.out.size, by have := HB1.out.size; omega, two_below HB1.out _ _⟩
    have S0 := Lib.hid ST
    clear ST mk1 mk2
    go_wp2
    go_loopw [28] (fun s28 wr => ∃ k : Nat, k ≤ m ∧ s28 = .int .i64 k ∧ CntAt w wr n K P w1.heap.size (w1.heap.size + 1) k) (fun s28 _ => m - (intOf s28).toNat)
    case atStart => exact ⟨0, Nat.zero_le _, rfl, S0.out⟩
    case round =>
      obtain ⟨k, hk, rfl, hst⟩ := hrel
      have ST := Lib.hid hst
      clear hst S0
      by_cases hlt : k < m
      · have R := RR.out
        have HK := Lib.hid hlt
        obtain ⟨q, hq⟩ : ∃ q : Nat, (P k).kd = q := ⟨(P k).kd.toNat, by have := R.kd k hlt; omega⟩
        have hqn : q < n := by have := R.kd k hlt; omega
        obtain ⟨Y, hY⟩ : ∃ Y, yngB K (P k) = Y := ⟨_, rfl⟩
        have GR : ∀ W' (hb : Below w.heap.size w W'), Calls Try.prog 103 #[.slice a n cap, .agg #[.int .i64 q, .int .i64 (P k).x, .int .i64 (P k).y, .float .f32 (P k).sz, .int .i64 (P k).ag]] W' fun e w' => e = .returned (.bool (!Y)) ∧ Below W'.heap.size W' w' := fun W' hb => by
          have := isGrown_any a n cap K (P k) W' (LL.out.stay hb) R.n2 (R.kd k hlt).1 (R.kd k hlt).2 (R.sz k hlt) (R.top _ (by rw [hq]; simpa using hqn))
          rw [hY] at this
          rw [← hq]
          exact this
        have GH := Lib.hid GR
        have HY := Lib.hid hY
        clear GR hY
        have VC := Lib.hid (cns_eq (yB := fun j => yngB K (P j)) (P := P) (i := q) R.m2 R.sz R.ag k hk)
        have HSZ := Lib.hid (R.sz k hlt)
        have q1 : (q : Int) < (n : Int) := by omega
        have q0 : (0 : Int) ≤ (q : Int) := by omega
        have k1 : (k : Int) < (m : Int) := by omega
        have m4 : (m : Int) ≤ 4000 := by have := R.m2; omega
        have HQ := Lib.hid hq
        rcases PP.out.stay ST.out.below with z | ⟨b', off, rfl, l⟩
        · omega
        obtain ⟨p0, p1, p2, p3, p4⟩ := pltAt_all l hlt
        have zb := World.block_lt_of_cell? wr _ p0
        rw [hq] at p0
        clear l R hq
        obtain ⟨C, hC⟩ : ∃ C, cnsC (fun j => yngB K (P j)) P q k = C := ⟨_, rfl⟩
        have hM : (C.many : Int) ≤ 4000 := by have h1 := VC.out.le; have := RR.out.m2; rw [hC] at h1; omega
        have hN : (C.young : Int) ≤ 4000 := by have h1 := VC.out.le2; have := RR.out.m2; rw [hC] at h1; omega
        obtain ⟨c1, hc1⟩ : ∃ c : Nat → Array Value, (fun i => cnsA (cnsC (fun j => yngB K (P j)) P i k)) = c := ⟨_, rfl⟩
        obtain ⟨c2, hc2⟩ : ∃ c : Nat → Array Value, (fun i => talA (cnsC (fun j => yngB K (P j)) P i k)) = c := ⟨_, rfl⟩
        have CBk : CB w wr n w1.heap.size (w1.heap.size + 1) (updR c1 q (cnsA C)) (updR c2 q (talA C)) := by
          have h := ST.out
          unfold CntAt at h
          rw [show cnsA C = c1 q by rw [← hc1, ← hC], show talA C = c2 q by rw [← hc2, ← hC], updR_self, updR_self, ← hc1, ← hc2]
          exact h
        have HC := Lib.hid hC
        have HC1 := Lib.hid hc1
        have HC2 := Lib.hid hc2
        have CC := Lib.hid CBk
        obtain ⟨e0, e1, e2, e3, e4, fz1, zb1⟩ := CBk.get1 hqn
        have AD := Lib.hid (show ∃ r, floatBits .add .f32 C.sum (P k).sz = some r by
          obtain ⟨a1, va, a0, a2⟩ := VC.out.val
          obtain ⟨_, b1, vb, b0, b2⟩ := HSZ.out
          rw [hC] at va a2
          obtain ⟨r, e, _⟩ := sum_more va vb a0 a2 b0 b2 (by omega)
          exact ⟨r, e⟩)
        have hbx1 : w1.heap.size ≠ wr.heap.size := Nat.ne_of_lt zb1
        have hbx2 : (w1.heap.size + 1) ≠ wr.heap.size := Nat.ne_of_lt CBk.r2.lt
        clear hC hc1 hc2 CBk
        go_upto_region 10 with (fail)
        have S3 := (CC.out.set1 hqn (j := 0) (by omega) (show q * 5 = q * 5 + 0 by omega) (.int .i64 ((C.many : Int) + 1)) rfl).alloc (.cells #[.int .i64 q, .int .i64 (P k).x, .int .i64 (P k).y, .float .f32 (P k).sz, .int .i64 (P k).ag] 85)
        have HX := heap_alloc_new (wr.setCell ⟨w1.heap.size, q * 5, none⟩ (.int .i64 ((C.many : Int) + 1))) (.cells #[.int .i64 q, .int .i64 (P k).x, .int .i64 (P k).y, .float .f32 (P k).sz, .int .i64 (P k).ag] 85)
        rw [World.size_setCell] at HX
        generalize ((wr.setCell ⟨w1.heap.size, q * 5, none⟩ (.int .i64 ((C.many : Int) + 1))).alloc (.cells #[.int .i64 q, .int .i64 (P k).x, .int .i64 (P k).y, .float .f32 (P k).sz, .int .i64 (P k).ag] 85)) = w2 at *
        clear e0 e1 e2 e3 e4 fz1 zb1 p0 p1 p2 p3 p4 zb
        obtain ⟨cX, fX, zX⟩ := blkC HX
        have SS := Lib.hid S3
        have XX := Lib.hid HX
        clear S3 HX
        cases Y with
        | false =>
          go_upto_region 12 with (first | (go_at_call 103; refine (GH.out _ SS.out.below).mono ?_; rintro e w3 ⟨rfl, hb3⟩; have S4 := Lib.hid (SS.out.stay hb3); have X4 := Lib.hid (blkStay XX.out hb3); clear hb3 cX fX zX; obtain ⟨cX, fX, zX⟩ := blkC X4.out; obtain ⟨e0, e1, e2, e3, e4, fz1, zb1⟩ := S4.out.get1 hqn))
          clear e0 e1 e3 e4
          have S5 := Lib.hid S4.out
          have X5 := Lib.hid X4.out
          clear S4 X4
          go_region
          generalize hO : (if C.old < (P k).ag then (P k).ag else C.old) = O at *
          have HO := Lib.hid hO
          clear hO
          have S6 := (S5.out.set1 hqn (j := 2) (by omega) rfl (.int .i64 O) rfl).drew
          have X6 := hDrew ((heap_setCell_other w3 ⟨w1.heap.size, q * 5 + 2, none⟩ wr.heap.size (.int .i64 O) hbx1.symm).trans X5.out)
          clear S5 X5 e2 fz1 zb1 cX fX zX
          generalize (w3.setCell ⟨w1.heap.size, q * 5 + 2, none⟩ (.int .i64 O)).drew = w6 at *
          obtain ⟨cX, fX, zX⟩ := blkC X6
          obtain ⟨t0, t1, fz2, zb2⟩ := S6.drew.get2 hqn
          have TK := Lib.hid (take_any (w1.heap.size + 1) (q * 2) (P k).sz C w6.drew t0 t1 fz2 AD.out)
          have S7 := Lib.hid ((S6.drew.set2 hqn (j := 0) (by omega) (show q * 2 = q * 2 + 0 by omega) (.float .f32 (if C.many = 0 then (P k).sz else addW C.sum (P k).sz)) rfl).set2 hqn (j := 1) (by omega) rfl (.bool true) rfl)
          clear S6 X6 t0 t1 fz2 zb2
          go_wp2
          go_still_tail 6, (by kernel_rfl)
          change wpList _ _ _ _ _ w6.drew
          go_wp2_with (go_at_call 104; refine TK.out.mono ?_; rintro e w8 ⟨rfl, rfl⟩)
          go_roundw
          case rel => exact ⟨k + 1, HK.out, by go_num, CntAt.step S7.out HC1.out HC2.out HC.out HY.out HQ.out (by rw [← HO.out]; simp [Cns.put]) (by simp [Cns.put])⟩
          case measure => have := HK.out; simp [intOf]; omega
        | true =>
          go_upto_region 12 with (first | (go_at_call 103; refine (GH.out _ SS.out.below).mono ?_; rintro e w3 ⟨rfl, hb3⟩; have S4 := Lib.hid (SS.out.stay hb3); have X4 := Lib.hid (blkStay XX.out hb3); clear hb3 cX fX zX; obtain ⟨cX, fX, zX⟩ := blkC X4.out; obtain ⟨e0, e1, e2, e3, e4, fz1, zb1⟩ := S4.out.get1 hqn))
          have S5 := S4.out.set1 hqn (j := 1) (by omega) rfl (.int .i64 ((C.young : Int) + 1)) rfl
          have X5 := (heap_setCell_other w3 ⟨w1.heap.size, q * 5 + 1, none⟩ wr.heap.size (.int .i64 ((C.young : Int) + 1)) hbx1.symm).trans X4.out
          clear S4 X4 e0 e1 e2 e3 e4 fz1 zb1 cX fX zX
          generalize w3.setCell ⟨w1.heap.size, q * 5 + 1, none⟩ (.int .i64 ((C.young : Int) + 1)) = w3 at *
          obtain ⟨cX, fX, zX⟩ := blkC X5
          obtain ⟨e0, e1, e2, e3, e4, fz1, zb1⟩ := S5.get1 hqn
          clear e0 e1 e3 e4
          have S5 := Lib.hid S5
          have X5 := Lib.hid X5
          go_region
          generalize hO : (if C.old < (P k).ag then (P k).ag else C.old) = O at *
          have HO := Lib.hid hO
          clear hO
          have S6 := (S5.out.set1 hqn (j := 2) (by omega) rfl (.int .i64 O) rfl).drew
          have X6 := hDrew ((heap_setCell_other w3 ⟨w1.heap.size, q * 5 + 2, none⟩ wr.heap.size (.int .i64 O) hbx1.symm).trans X5.out)
          clear S5 X5 e2 fz1 zb1 cX fX zX
          generalize (w3.setCell ⟨w1.heap.size, q * 5 + 2, none⟩ (.int .i64 O)).drew = w6 at *
          obtain ⟨cX, fX, zX⟩ := blkC X6
          obtain ⟨t0, t1, fz2, zb2⟩ := S6.drew.get2 hqn
          have TK := Lib.hid (take_any (w1.heap.size + 1) (q * 2) (P k).sz C w6.drew t0 t1 fz2 AD.out)
          have S7 := Lib.hid ((S6.drew.set2 hqn (j := 0) (by omega) (show q * 2 = q * 2 + 0 by omega) (.float .f32 (if C.many = 0 then (P k).sz else addW C.sum (P k).sz)) rfl).set2 hqn (j := 1) (by omega) rfl (.bool true) rfl)
          clear S6 X6 t0 t1 fz2 zb2
          go_wp2
          go_still_tail 6, (by kernel_rfl)
          change wpList _ _ _ _ _ w6.drew
          go_wp2_with (go_at_call 104; refine TK.out.mono ?_; rintro e w8 ⟨rfl, rfl⟩)
          go_roundw
          case rel => exact ⟨k + 1, HK.out, by go_num, CntAt.step S7.out HC1.out HC2.out HC.out HY.out HQ.out (by rw [← HO.out]; simp [Cns.put]) (by simp [Cns.put])⟩
          case measure => have := HK.out; simp [intOf]; omega
      · have hkm : k = m := by omega
        have ST2 := Lib.hid (show CntAt w wr n K P w1.heap.size (w1.heap.size + 1) m by have h := ST.out; rw [hkm] at h; exact h)
        clear hkm ST
        have n12 : (n : Int) ≤ 12 := by have := RR.out.n2; omega
        go_wp2
        go_loopw [74] (fun s74 wr2 => ∃ i : Nat, i ≤ n ∧ s74 = .int .i64 i ∧ CntFin w wr2 n K P w1.heap.size (w1.heap.size + 1) m i) (fun s74 _ => n - (intOf s74).toNat)
        case atStart => exact ⟨0, Nat.zero_le _, rfl, CntFin.start ST2.out⟩
        case round =>
          obtain ⟨i, hi, rfl, hst⟩ := hrel
          have SF := Lib.hid hst
          clear hst ST2
          by_cases hlt2 : i < n
          · have HI := Lib.hid hlt2
            have i1 : (i : Int) < (n : Int) := by omega
            obtain ⟨C, hC⟩ : ∃ C, cnsC (fun j => yngB K (P j)) P i m = C := ⟨_, rfl⟩
            have VC := Lib.hid (cns_eq (yB := fun j => yngB K (P j)) (P := P) (i := i) RR.out.m2 RR.out.sz RR.out.ag m (Nat.le_refl _))
            have CC := Lib.hid (SF.out.at hlt2 hC)
            obtain ⟨e0, e1, e2, e3, e4, fz1, zb1⟩ := CC.out.get1 hlt2
            obtain ⟨t0, t1, fz2, zb2⟩ := CC.out.get2 hlt2
            have HC := Lib.hid hC
            by_cases hz : C.many = 0
            · have hd : decide ((0 : Int) < (C.many : Int)) = false := by simp [hz]
              have hd2 : decide (0 < C.many) = false := by simp [hz]
              have HZ := Lib.hid hz
              clear hz hC
              go_wp2
              go_roundw
              case rel => exact ⟨i + 1, HI.out, by go_num, SF.out.skip HC.out HZ.out⟩
              case measure => have := HI.out; simp [intOf]; omega
            · have hd : decide ((0 : Int) < (C.many : Int)) = true := by simp; omega
              have hd2 : decide (0 < C.many) = true := by simp; omega
              obtain ⟨Q, hQ, _⟩ : ∃ r, floatBits .quo .f32 C.sum (floatOfInt .f32 (C.many : Int)) = some r ∧ Bd 20 r := by
                obtain ⟨a1, va, a0, a2⟩ := VC.out.val
                have hle := VC.out.le
                have := RR.out.m2
                rw [hC] at va a2 hle
                exact mean_parts va a0 a2 (by omega) (by omega)
              have ea := fun (W : World) => run_float_arith (P := Try.prog) W .quo 30 .f32 C.sum (floatOfInt .f32 (C.many : Int)) Q hQ
              have HZ := Lib.hid hz
              have HQ := Lib.hid hQ
              clear hz hC hQ
              go_upto_region 21 with (fail)
              have S5 := CC.out.set1 hlt2 (j := 3) (by omega) rfl (.float .f32 C.sum) rfl
              clear e0 e1 e2 e3 e4 fz1 zb1 t0 t1 fz2 zb2
              generalize wr.setCell ⟨w1.heap.size, i * 5 + 3, none⟩ (.float .f32 C.sum) = w5 at *
              obtain ⟨e0, e1, e2, e3, e4, fz1, zb1⟩ := S5.get1 hlt2
              have S6 := Lib.hid (S5.set1 hlt2 (j := 4) (by omega) rfl (.float .f32 Q) rfl).drew
              clear S5 e1 e2
              go_region
              go_wp2
              go_roundw
              case rel => exact ⟨i + 1, HI.out, by go_num, SF.out.put HC.out HZ.out HQ.out S6.out⟩
              case measure => have := HI.out; simp [intOf]; omega
          · have hin : i = n := by omega
            have SG := Lib.hid (show CntFin w wr n K P w1.heap.size (w1.heap.size + 1) m n by have h := SF.out; rw [hin] at h; exact h)
            clear hin SF
            go_wp2
            go_ret2
            exact SG.out.post
  · have ST : CntAt w ((w1.alloc (.cells (madeCells #[.float .f32 0, .bool false] (n * 2)) 131)).alloc (.cells (madeCells #[.int .i64 0, .int .i64 0, .int .i64 0, .float .f32 0, .float .f32 0] (n * 5)) 83)).drew n K P (w1.heap.size + 1) w1.heap.size 0 := ⟨rows_snd w1 _ n 5 _ _ rfl (by omega), rows_fst w1 _ n 2 _ _ rfl (by omega), by omega, by have := HB1.out.size; omega, HB1.out.size, two_below HB1.out _ _⟩
    have S0 := Lib.hid ST
    clear ST mk1 mk2
    go_wp2
    go_loopw [28] (fun s28 wr => ∃ k : Nat, k ≤ m ∧ s28 = .int .i64 k ∧ CntAt w wr n K P (w1.heap.size + 1) w1.heap.size k) (fun s28 _ => m - (intOf s28).toNat)
    case atStart => exact ⟨0, Nat.zero_le _, rfl, S0.out⟩
    case round =>
      obtain ⟨k, hk, rfl, hst⟩ := hrel
      have ST := Lib.hid hst
      clear hst S0
      by_cases hlt : k < m
      · have R := RR.out
        have HK := Lib.hid hlt
        obtain ⟨q, hq⟩ : ∃ q : Nat, (P k).kd = q := ⟨(P k).kd.toNat, by have := R.kd k hlt; omega⟩
        have hqn : q < n := by have := R.kd k hlt; omega
        obtain ⟨Y, hY⟩ : ∃ Y, yngB K (P k) = Y := ⟨_, rfl⟩
        have GR : ∀ W' (hb : Below w.heap.size w W'), Calls Try.prog 103 #[.slice a n cap, .agg #[.int .i64 q, .int .i64 (P k).x, .int .i64 (P k).y, .float .f32 (P k).sz, .int .i64 (P k).ag]] W' fun e w' => e = .returned (.bool (!Y)) ∧ Below W'.heap.size W' w' := fun W' hb => by
          have := isGrown_any a n cap K (P k) W' (LL.out.stay hb) R.n2 (R.kd k hlt).1 (R.kd k hlt).2 (R.sz k hlt) (R.top _ (by rw [hq]; simpa using hqn))
          rw [hY] at this
          rw [← hq]
          exact this
        have GH := Lib.hid GR
        have HY := Lib.hid hY
        clear GR hY
        have VC := Lib.hid (cns_eq (yB := fun j => yngB K (P j)) (P := P) (i := q) R.m2 R.sz R.ag k hk)
        have HSZ := Lib.hid (R.sz k hlt)
        have q1 : (q : Int) < (n : Int) := by omega
        have q0 : (0 : Int) ≤ (q : Int) := by omega
        have k1 : (k : Int) < (m : Int) := by omega
        have m4 : (m : Int) ≤ 4000 := by have := R.m2; omega
        have HQ := Lib.hid hq
        rcases PP.out.stay ST.out.below with z | ⟨b', off, rfl, l⟩
        · omega
        obtain ⟨p0, p1, p2, p3, p4⟩ := pltAt_all l hlt
        have zb := World.block_lt_of_cell? wr _ p0
        rw [hq] at p0
        clear l R hq
        obtain ⟨C, hC⟩ : ∃ C, cnsC (fun j => yngB K (P j)) P q k = C := ⟨_, rfl⟩
        have hM : (C.many : Int) ≤ 4000 := by have h1 := VC.out.le; have := RR.out.m2; rw [hC] at h1; omega
        have hN : (C.young : Int) ≤ 4000 := by have h1 := VC.out.le2; have := RR.out.m2; rw [hC] at h1; omega
        obtain ⟨c1, hc1⟩ : ∃ c : Nat → Array Value, (fun i => cnsA (cnsC (fun j => yngB K (P j)) P i k)) = c := ⟨_, rfl⟩
        obtain ⟨c2, hc2⟩ : ∃ c : Nat → Array Value, (fun i => talA (cnsC (fun j => yngB K (P j)) P i k)) = c := ⟨_, rfl⟩
        have CBk : CB w wr n (w1.heap.size + 1) w1.heap.size (updR c1 q (cnsA C)) (updR c2 q (talA C)) := by
          have h := ST.out
          unfold CntAt at h
          rw [show cnsA C = c1 q by rw [← hc1, ← hC], show talA C = c2 q by rw [← hc2, ← hC], updR_self, updR_self, ← hc1, ← hc2]
          exact h
        have HC := Lib.hid hC
        have HC1 := Lib.hid hc1
        have HC2 := Lib.hid hc2
        have CC := Lib.hid CBk
        obtain ⟨e0, e1, e2, e3, e4, fz1, zb1⟩ := CBk.get1 hqn
        have AD := Lib.hid (show ∃ r, floatBits .add .f32 C.sum (P k).sz = some r by
          obtain ⟨a1, va, a0, a2⟩ := VC.out.val
          obtain ⟨_, b1, vb, b0, b2⟩ := HSZ.out
          rw [hC] at va a2
          obtain ⟨r, e, _⟩ := sum_more va vb a0 a2 b0 b2 (by omega)
          exact ⟨r, e⟩)
        have hbx1 : (w1.heap.size + 1) ≠ wr.heap.size := Nat.ne_of_lt zb1
        have hbx2 : w1.heap.size ≠ wr.heap.size := Nat.ne_of_lt CBk.r2.lt
        clear hC hc1 hc2 CBk
        go_upto_region 10 with (fail)
        have S3 := (CC.out.set1 hqn (j := 0) (by omega) (show q * 5 = q * 5 + 0 by omega) (.int .i64 ((C.many : Int) + 1)) rfl).alloc (.cells #[.int .i64 q, .int .i64 (P k).x, .int .i64 (P k).y, .float .f32 (P k).sz, .int .i64 (P k).ag] 85)
        have HX := heap_alloc_new (wr.setCell ⟨(w1.heap.size + 1), q * 5, none⟩ (.int .i64 ((C.many : Int) + 1))) (.cells #[.int .i64 q, .int .i64 (P k).x, .int .i64 (P k).y, .float .f32 (P k).sz, .int .i64 (P k).ag] 85)
        rw [World.size_setCell] at HX
        generalize ((wr.setCell ⟨(w1.heap.size + 1), q * 5, none⟩ (.int .i64 ((C.many : Int) + 1))).alloc (.cells #[.int .i64 q, .int .i64 (P k).x, .int .i64 (P k).y, .float .f32 (P k).sz, .int .i64 (P k).ag] 85)) = w2 at *
        clear e0 e1 e2 e3 e4 fz1 zb1 p0 p1 p2 p3 p4 zb
        obtain ⟨cX, fX, zX⟩ := blkC HX
        have SS := Lib.hid S3
        have XX := Lib.hid HX
        clear S3 HX
        cases Y with
        | false =>
          go_upto_region 12 with (first | (go_at_call 103; refine (GH.out _ SS.out.below).mono ?_; rintro e w3 ⟨rfl, hb3⟩; have S4 := Lib.hid (SS.out.stay hb3); have X4 := Lib.hid (blkStay XX.out hb3); clear hb3 cX fX zX; obtain ⟨cX, fX, zX⟩ := blkC X4.out; obtain ⟨e0, e1, e2, e3, e4, fz1, zb1⟩ := S4.out.get1 hqn))
          clear e0 e1 e3 e4
          have S5 := Lib.hid S4.out
          have X5 := Lib.hid X4.out
          clear S4 X4
          go_region
          generalize hO : (if C.old < (P k).ag then (P k).ag else C.old) = O at *
          have HO := Lib.hid hO
          clear hO
          have S6 := (S5.out.set1 hqn (j := 2) (by omega) rfl (.int .i64 O) rfl).drew
          have X6 := hDrew ((heap_setCell_other w3 ⟨(w1.heap.size + 1), q * 5 + 2, none⟩ wr.heap.size (.int .i64 O) hbx1.symm).trans X5.out)
          clear S5 X5 e2 fz1 zb1 cX fX zX
          generalize (w3.setCell ⟨(w1.heap.size + 1), q * 5 + 2, none⟩ (.int .i64 O)).drew = w6 at *
          obtain ⟨cX, fX, zX⟩ := blkC X6
          obtain ⟨t0, t1, fz2, zb2⟩ := S6.drew.get2 hqn
          have TK := Lib.hid (take_any w1.heap.size (q * 2) (P k).sz C w6.drew t0 t1 fz2 AD.out)
          have S7 := Lib.hid ((S6.drew.set2 hqn (j := 0) (by omega) (show q * 2 = q * 2 + 0 by omega) (.float .f32 (if C.many = 0 then (P k).sz else addW C.sum (P k).sz)) rfl).set2 hqn (j := 1) (by omega) rfl (.bool true) rfl)
          clear S6 X6 t0 t1 fz2 zb2
          go_wp2
          go_still_tail 6, (by kernel_rfl)
          change wpList _ _ _ _ _ w6.drew
          go_wp2_with (go_at_call 104; refine TK.out.mono ?_; rintro e w8 ⟨rfl, rfl⟩)
          go_roundw
          case rel => exact ⟨k + 1, HK.out, by go_num, CntAt.step S7.out HC1.out HC2.out HC.out HY.out HQ.out (by rw [← HO.out]; simp [Cns.put]) (by simp [Cns.put])⟩
          case measure => have := HK.out; simp [intOf]; omega
        | true =>
          go_upto_region 12 with (first | (go_at_call 103; refine (GH.out _ SS.out.below).mono ?_; rintro e w3 ⟨rfl, hb3⟩; have S4 := Lib.hid (SS.out.stay hb3); have X4 := Lib.hid (blkStay XX.out hb3); clear hb3 cX fX zX; obtain ⟨cX, fX, zX⟩ := blkC X4.out; obtain ⟨e0, e1, e2, e3, e4, fz1, zb1⟩ := S4.out.get1 hqn))
          have S5 := S4.out.set1 hqn (j := 1) (by omega) rfl (.int .i64 ((C.young : Int) + 1)) rfl
          have X5 := (heap_setCell_other w3 ⟨(w1.heap.size + 1), q * 5 + 1, none⟩ wr.heap.size (.int .i64 ((C.young : Int) + 1)) hbx1.symm).trans X4.out
          clear S4 X4 e0 e1 e2 e3 e4 fz1 zb1 cX fX zX
          generalize w3.setCell ⟨(w1.heap.size + 1), q * 5 + 1, none⟩ (.int .i64 ((C.young : Int) + 1)) = w3 at *
          obtain ⟨cX, fX, zX⟩ := blkC X5
          obtain ⟨e0, e1, e2, e3, e4, fz1, zb1⟩ := S5.get1 hqn
          clear e0 e1 e3 e4
          have S5 := Lib.hid S5
          have X5 := Lib.hid X5
          go_region
          generalize hO : (if C.old < (P k).ag then (P k).ag else C.old) = O at *
          have HO := Lib.hid hO
          clear hO
          have S6 := (S5.out.set1 hqn (j := 2) (by omega) rfl (.int .i64 O) rfl).drew
          have X6 := hDrew ((heap_setCell_other w3 ⟨(w1.heap.size + 1), q * 5 + 2, none⟩ wr.heap.size (.int .i64 O) hbx1.symm).trans X5.out)
          clear S5 X5 e2 fz1 zb1 cX fX zX
          generalize (w3.setCell ⟨(w1.heap.size + 1), q * 5 + 2, none⟩ (.int .i64 O)).drew = w6 at *
          obtain ⟨cX, fX, zX⟩ := blkC X6
          obtain ⟨t0, t1, fz2, zb2⟩ := S6.drew.get2 hqn
          have TK := Lib.hid (take_any w1.heap.size (q * 2) (P k).sz C w6.drew t0 t1 fz2 AD.out)
          have S7 := Lib.hid ((S6.drew.set2 hqn (j := 0) (by omega) (show q * 2 = q * 2 + 0 by omega) (.float .f32 (if C.many = 0 then (P k).sz else addW C.sum (P k).sz)) rfl).set2 hqn (j := 1) (by omega) rfl (.bool true) rfl)
          clear S6 X6 t0 t1 fz2 zb2
          go_wp2
          go_still_tail 6, (by kernel_rfl)
          change wpList _ _ _ _ _ w6.drew
          go_wp2_with (go_at_call 104; refine TK.out.mono ?_; rintro e w8 ⟨rfl, rfl⟩)
          go_roundw
          case rel => exact ⟨k + 1, HK.out, by go_num, CntAt.step S7.out HC1.out HC2.out HC.out HY.out HQ.out (by rw [← HO.out]; simp [Cns.put]) (by simp [Cns.put])⟩
          case measure => have := HK.out; simp [intOf]; omega
      · have hkm : k = m := by omega
        have ST2 := Lib.hid (show CntAt w wr n K P (w1.heap.size + 1) w1.heap.size m by have h := ST.out; rw [hkm] at h; exact h)
        clear hkm ST
        have n12 : (n : Int) ≤ 12 := by have := RR.out.n2; omega
        go_wp2
        go_loopw [74] (fun s74 wr2 => ∃ i : Nat, i ≤ n ∧ s74 = .int .i64 i ∧ CntFin w wr2 n K P (w1.heap.size + 1) w1.heap.size m i) (fun s74 _ => n - (intOf s74).toNat)
        case atStart => exact ⟨0, Nat.zero_le _, rfl, CntFin.start ST2.out⟩
        case round =>
          obtain ⟨i, hi, rfl, hst⟩ := hrel
          have SF := Lib.hid hst
          clear hst ST2
          by_cases hlt2 : i < n
          · have HI := Lib.hid hlt2
            have i1 : (i : Int) < (n : Int) := by omega
            obtain ⟨C, hC⟩ : ∃ C, cnsC (fun j => yngB K (P j)) P i m = C := ⟨_, rfl⟩
            have VC := Lib.hid (cns_eq (yB := fun j => yngB K (P j)) (P := P) (i := i) RR.out.m2 RR.out.sz RR.out.ag m (Nat.le_refl _))
            have CC := Lib.hid (SF.out.at hlt2 hC)
            obtain ⟨e0, e1, e2, e3, e4, fz1, zb1⟩ := CC.out.get1 hlt2
            obtain ⟨t0, t1, fz2, zb2⟩ := CC.out.get2 hlt2
            have HC := Lib.hid hC
            by_cases hz : C.many = 0
            · have hd : decide ((0 : Int) < (C.many : Int)) = false := by simp [hz]
              have hd2 : decide (0 < C.many) = false := by simp [hz]
              have HZ := Lib.hid hz
              clear hz hC
              go_wp2
              go_roundw
              case rel => exact ⟨i + 1, HI.out, by go_num, SF.out.skip HC.out HZ.out⟩
              case measure => have := HI.out; simp [intOf]; omega
            · have hd : decide ((0 : Int) < (C.many : Int)) = true := by simp; omega
              have hd2 : decide (0 < C.many) = true := by simp; omega
              obtain ⟨Q, hQ, _⟩ : ∃ r, floatBits .quo .f32 C.sum (floatOfInt .f32 (C.many : Int)) = some r ∧ Bd 20 r := by
                obtain ⟨a1, va, a0, a2⟩ := VC.out.val
                have hle := VC.out.le
                have := RR.out.m2
                rw [hC] at va a2 hle
                exact mean_parts va a0 a2 (by omega) (by omega)
              have ea := fun (W : World) => run_float_arith (P := Try.prog) W .quo 30 .f32 C.sum (floatOfInt .f32 (C.many : Int)) Q hQ
              have HZ := Lib.hid hz
              have HQ := Lib.hid hQ
              clear hz hC hQ
              go_upto_region 21 with (fail)
              have S5 := CC.out.set1 hlt2 (j := 3) (by omega) rfl (.float .f32 C.sum) rfl
              clear e0 e1 e2 e3 e4 fz1 zb1 t0 t1 fz2 zb2
              generalize wr.setCell ⟨(w1.heap.size + 1), i * 5 + 3, none⟩ (.float .f32 C.sum) = w5 at *
              obtain ⟨e0, e1, e2, e3, e4, fz1, zb1⟩ := S5.get1 hlt2
              have S6 := Lib.hid (S5.set1 hlt2 (j := 4) (by omega) rfl (.float .f32 Q) rfl).drew
              clear S5 e1 e2
              go_region
              go_wp2
              go_roundw
              case rel => exact ⟨i + 1, HI.out, by go_num, SF.out.put HC.out HZ.out HQ.out S6.out⟩
              case measure => have := HI.out; simp [intOf]; omega
          · have hin : i = n := by omega
            have SG := Lib.hid (show CntFin w wr n K P (w1.heap.size + 1) w1.heap.size m n by have h := SF.out; rw [hin] at h; exact h)
            clear hin SF
            go_wp2
            go_ret2
            exact SG.out.post
end Go.Proofs.Ytkjpjppfmfifeaa

/- slices.Equal of two censuses that are the same by value. -/
namespace Go.Proofs.Ytkjpjppfmfifeaa
open Go.RowKit Fl
set_option linter.unusedVariables false

/-- The same by value. -/
structure CnsSame (c d : Cns) : Prop where
  many : d.many = c.many
  young : d.young = c.young
  old : d.old = c.old
  sum : (FloatKind.f32.format.order c.sum d.sum == some .eq) = true
  mean : (FloatKind.f32.format.order c.mean d.mean == some .eq) = true

theorem cns_at {w : World} {b n : Nat} {C : Nat → Cns} (h : RowsAt w b n 5 (fun i => (C i).cells)) {i : Nat} (hi : i < n) :
    w.cell? ⟨b, i * 5, none⟩ = some (.int .i64 (C i).many) ∧ w.cell? ⟨b, i * 5 + 1, none⟩ = some (.int .i64 (C i).young) ∧ w.cell? ⟨b, i * 5 + 2, none⟩ = some (.int .i64 (C i).old) ∧ w.cell? ⟨b, i * 5 + 3, none⟩ = some (.float .f32 (C i).sum) ∧ w.cell? ⟨b, i * 5 + 4, none⟩ = some (.float .f32 (C i).mean) ∧ b < w.heap.size :=
  ⟨h.cell hi (by omega : 0 < 5), h.cell hi (by omega : 1 < 5), h.cell hi (by omega : 2 < 5), h.cell hi (by omega : 3 < 5), h.cell hi (by omega : 4 < 5), h.lt⟩

set_option maxHeartbeats 1000000 in
theorem neq_cns (a b : Nat) (o : Int) (s t x y : Nat) (h1 : (FloatKind.f32.format.order s t == some .eq) = true) (h2 : (FloatKind.f32.format.order x y == some .eq) = true) (w : World) :
    (binOp .neq 83 (.agg #[.int .i64 a, .int .i64 b, .int .i64 o, .float .f32 s, .float .f32 x]) (.agg #[.int .i64 a, .int .i64 b, .int .i64 o, .float .f32 t, .float .f32 y])).run Try.prog w = .ok (.bool false) w := by
  have hS : Try.prog.underlying 83 = some (.struct (Try.prog.fieldsOf 83)) := by kernel_rfl
  have hp : Try.prog.stoodInHeld 83 = false := by kernel_rfl
  rw [run_neq_struct, show (10000 : Nat) = 9999 + 1 from rfl, run_equalIn_agg w 9999 83 _ _ hS hp]
  simp only [Program.fieldsOf, Try.underlying83]
  go_simp
  have f : ∀ (d u v : Nat) (W : World), (Op.equalIn (d + 1) 30 (.float .f32 u) (.float .f32 v)).run Try.prog W = .ok (FloatKind.f32.format.order u v == some .eq) W := fun d u v W => by
    simp [Op.equalIn, run_underlying Try.underlying30, Op.floatEq]
  have g : ∀ (u v : Nat) (W : World), (Op.equalIn 9999 30 (.float .f32 u) (.float .f32 v)).run Try.prog W = .ok (FloatKind.f32.format.order u v == some .eq) W := fun u v W => f 9998 u v W
  rw [g]
  simp only [Result.andThen_ok]
  rw [h1, if_neg (by simp), g]
  simp only [Result.andThen_ok]
  rw [h2]
  rfl

set_option maxHeartbeats 4000000 in
theorem equalCns_any (b1 b2 n : Nat) (C D : Nat → Cns) (w : World) (hn : n ≤ 12) (h1 : RowsAt w b1 n 5 (fun i => (C i).cells)) (h2 : RowsAt w b2 n 5 (fun i => (D i).cells)) (hs : ∀ i, i < n → CnsSame (C i) (D i)) :
    Calls Try.prog 51 #[.slice (some ⟨b1, 0, none⟩) n n, .slice (some ⟨b2, 0, none⟩) n n] w fun e w' => e = .returned (.bool true) ∧ Below w.heap.size w w' := by
  have R1 := Lib.hid h1
  have R2 := Lib.hid h2
  have SS := Lib.hid hs
  have ni : (n : Int) ≤ 12 := by omega
  clear h1 h2 hs
  go_enter Try.func51, Try.ntmps51
  go_wp2
  go_loopw [13] (fun s13 wr => ∃ k : Nat, k ≤ n ∧ s13 = .int .i64 k ∧ Below w.heap.size w wr) (fun s13 _ => n - (intOf s13).toNat)
  case atStart => exact ⟨0, Nat.zero_le _, rfl, Below.refl _ _⟩
  case round =>
    obtain ⟨k, hk, rfl, hb⟩ := hrel
    have HB := Lib.hid hb
    clear hb
    by_cases hlt : k < n
    · have HK := Lib.hid hlt
      obtain ⟨c0, c1, c2, c3, c4, z1⟩ := cns_at (R1.out.stay HB.out) hlt
      obtain ⟨d0, d1, d2, d3, d4, z2⟩ := cns_at (R2.out.stay HB.out) hlt
      obtain ⟨g0, g1, g2, g3, g4⟩ := SS.out k hlt
      rw [g0] at d0
      rw [g1] at d1
      rw [g2] at d2
      have n3 : (FloatKind.f32.format.order (C k).sum (D k).sum != some .eq) = false := by rw [bne, g3]; rfl
      have n4 : (FloatKind.f32.format.order (C k).mean (D k).mean != some .eq) = false := by rw [bne, g4]; rfl
      have k1 : (k : Int) < (n : Int) := by omega
      have hE := fun W => neq_cns (C k).many (C k).young (C k).old (C k).sum (D k).sum (C k).mean (D k).mean g3 g4 W
      clear g0 g1 g2 g3 g4 n3 n4
      generalize C k = c at *
      generalize D k = d at *
      go_wp2
      go_quiet (fail)
      go_wp2
      go_roundw
      case rel => exact ⟨k + 1, HK.out, by go_num, HB.out.trans ((below_drewN _ _).mono HB.out.size)⟩
      case measure => have := HK.out; simp [intOf]; omega
    · go_wp2
      go_ret
      exact ⟨rfl, HB.out⟩
end Go.Proofs.Ytkjpjppfmfifeaa

/- The law's census against the program's, by value; a block of structs of the law's own; what right kinds and plants are. -/
namespace Go.Proofs.Ytkjpjppfmfifeaa
open Go.RowKit Fl Ieee
set_option linter.unusedVariables false

theorem quo_zero {x y q : Nat} {b : Int} (h : Go.floatBits .quo .f32 x y = some q) (hx : vS x = some 0) (hy : vS y = some b) (b0 : 0 < b) : vS q = some 0 := by
  obtain ⟨s, m, i, e1, ea⟩ := vS_some hx
  obtain ⟨t, n, j, e2, rfl⟩ := vS_some hy
  rw [vOf_mag] at ea b0
  have hm : m = 0 := by
    have p := Nat.two_pow_pos (i + 1074).toNat
    have e : ((m * 2 ^ (i + 1074).toNat : Nat) : Int) = 0 := by cases s <;> simp only [Bool.false_eq_true, if_false, if_true] at ea <;> omega
    have e' : m * 2 ^ (i + 1074).toNat = 0 := by omega
    rcases Nat.eq_zero_or_pos m with z | z
    · exact z
    · have := Nat.mul_pos z p; omega
  subst hm
  have hn : 0 < n := by
    rcases Nat.eq_zero_or_pos n with z | z
    · subst z; simp at b0
    · exact z
  have h' : ((single.read x).quotient (single.fractionBits + 2) (single.read y)).map single.write = some q := h
  rw [e1, e2] at h'
  unfold Datum.quotient at h'
  simp only at h'
  rw [if_neg (by omega)] at h'
  simp only [Nat.zero_shiftLeft, Nat.zero_div, Nat.zero_mod, bne_self_eq_false, Bool.toNat_false, Nat.mul_zero, Nat.add_zero, Option.map_some] at h'
  have h2 : single.nearest (s ^^ t) 0 _ = q := Option.some.inj h'
  rw [nearest_zero, ← wordAt_zero single 925] at h2
  rw [← h2]
  have := vS_word (sg := s ^^ t) (V := 0) (B := 1) (by omega) (by omega)
  rw [this, rd_zero]
  cases s ^^ t <;> rfl

theorem eq_self_val {x : Nat} {a : Int} (h : vS x = some a) : (FloatKind.f32.format.order x x == some .eq) = true := by rw [f32f, eql_val h h]; simp
theorem eq_two_val {x y : Nat} {a : Int} (h : vS x = some a) (h' : vS y = some a) : (FloatKind.f32.format.order x y == some .eq) = true := by rw [f32f, eql_val h h']; simp

theorem CnsEq.valL {c d : Cns} {m : Nat} (h : CnsEq c d m) : ∃ a, vS c.sum = some a ∧ vS d.sum = some a ∧ 0 ≤ a ∧ a ≤ (c.many * 1048576 : Nat) * (one : Int) := by
  obtain ⟨a, va, a0, a1⟩ := h.val
  rcases h.sum with e | ⟨e, e'⟩
  · exact ⟨a, va, by rw [← e]; exact va, a0, a1⟩
  · have : a = 0 := by rw [e, vS_nz] at va; exact (Option.some.inj va).symm
    subst this
    exact ⟨0, va, by rw [e']; exact vS_zero, a0, a1⟩

theorem cns_same {c d : Cns} {m : Nat} (h : CnsEq c d m) (hm : m ≤ 4000) (hc : c.mean = 0) : CnsSame c.fin d.fin := by
  obtain ⟨a, va, vb, a0, a1⟩ := h.valL
  by_cases z : c.many = 0
  · have e1 : c.fin = c := by unfold Cns.fin; rw [if_pos z]
    have e2 : d.fin = d := by unfold Cns.fin; rw [if_pos (by rw [← h.many]; exact z)]
    rw [e1, e2]
    exact ⟨h.many.symm, h.young.symm, h.old.symm, eq_two_val va vb, by rw [← h.mean, hc]; exact eq_self_val vS_zero⟩
  · have e1 : c.fin = ⟨c.many, c.young, c.old, c.sum, quoW c.sum (floatOfInt .f32 (c.many : Int))⟩ := by unfold Cns.fin; rw [if_neg z]
    have e2 : d.fin = ⟨c.many, c.young, c.old, d.sum, quoW d.sum (floatOfInt .f32 (c.many : Int))⟩ := by unfold Cns.fin; rw [← h.many, if_neg z, ← h.young, ← h.old]
    rw [e1, e2]
    have hle := h.le
    obtain ⟨r, er, br⟩ := mean_parts va a0 a1 (by omega) (by omega)
    obtain ⟨q, eq, bq⟩ := mean_parts vb a0 a1 (by omega) (by omega)
    refine ⟨rfl, rfl, rfl, eq_two_val va vb, ?_⟩
    show (FloatKind.f32.format.order (quoW c.sum _) (quoW d.sum _) == some .eq) = true
    unfold quoW
    rw [er, eq]
    show (FloatKind.f32.format.order r q == some .eq) = true
    rcases h.sum with e | ⟨e, e'⟩
    · rw [e, eq] at er
      obtain rfl := Option.some.inj er
      obtain ⟨v, hv, _⟩ := val_bd bq
      exact eq_self_val hv
    · have z0 : a = 0 := by rw [e, vS_nz] at va; exact (Option.some.inj va).symm
      subst z0
      obtain ⟨hv, _⟩ := int_val (n := (c.many : Int)) (by omega)
      have hp : (0 : Int) < (c.many : Int) * (one : Int) := Int.mul_pos (by omega) (by have := one_pos; omega)
      exact eq_two_val (quo_zero er va hv hp) (quo_zero eq vb hv hp)

/-- A block of structs of the call's own. -/
structure OB (w wr : World) (n b : Nat) (c : Nat → Array Value) : Prop where
  r : RowsAt wr b n 5 c
  g : w.heap.size ≤ b
  below : Below w.heap.size w wr
theorem OB.stay {w wr w' : World} {n b : Nat} {c : Nat → Array Value} (h : OB w wr n b c) (hb : Below wr.heap.size wr w') : OB w w' n b c :=
  ⟨h.r.stay hb, h.g, h.below.trans (hb.mono h.below.size)⟩
theorem OB.alloc {w wr : World} {n b : Nat} {c : Nat → Array Value} (h : OB w wr n b c) (o : Obj) : OB w (wr.alloc o) n b c := h.stay ((Below.refl _ _).alloc (Nat.le_refl _) o)
theorem OB.drew {w wr : World} {n b : Nat} {c : Nat → Array Value} (h : OB w wr n b c) : OB w wr.drew n b c := ⟨h.r.congr rfl, h.g, h.below.drew⟩
theorem OB.set {w wr : World} {n b q : Nat} {c : Nat → Array Value} {A A' : Array Value} (h : OB w wr n b (updR c q A)) (hq : q < n) {j o : Nat} (hj : j < 5) (ho : o = q * 5 + j) (v : Value) (hA : A.setIfInBounds j v = A') :
    OB w (wr.setCell ⟨b, o, none⟩ v) n b (updR c q A') := by
  have := h.r.put hq hj ho v
  rw [updR_same, hA, updR_twice] at this
  exact ⟨this, h.g, h.below.setCell (p := ⟨b, o, none⟩) h.g v⟩
theorem OB.get {w wr : World} {n b q : Nat} {c : Nat → Array Value} {a0 a1 a2 a3 a4 : Value} (h : OB w wr n b (updR c q #[a0, a1, a2, a3, a4])) (hq : q < n) :
    wr.cell? ⟨b, q * 5, none⟩ = some a0 ∧ wr.cell? ⟨b, q * 5 + 1, none⟩ = some a1 ∧ wr.cell? ⟨b, q * 5 + 2, none⟩ = some a2 ∧ wr.cell? ⟨b, q * 5 + 3, none⟩ = some a3 ∧ wr.cell? ⟨b, q * 5 + 4, none⟩ = some a4 ∧ (∀ j, wr.frozen? ⟨b, j, none⟩ = false) ∧ b < wr.heap.size := by
  have g := fun j (hj : j < 5) => h.r.cell hq hj
  simp only [updR_same] at g
  exact ⟨g 0 (by omega), g 1 (by omega), g 2 (by omega), g 3 (by omega), g 4 (by omega), h.r.free, h.r.lt⟩

theorem right_of {n : Nat} {K : Nat → Knd} {ek : Int} {m : Nat} {P : Nat → Plt} {er : Int} (E : LstE n (kndS K) ek) (E2 : LstE m (pltS n K P) er) (hz : pltsE (kndsE n ek) m er = 0) (wf : ∀ i, i < m → (P i).sz < 4294967296) : Right n K m P := by
  unfold pltsE at hz
  by_cases k0 : kndsE n ek = 0
  · rw [if_neg (by simp [k0])] at hz
    by_cases m4 : 4000 < m
    · rw [if_pos m4] at hz; cases hz
    · rw [if_neg m4] at hz
      subst hz
      obtain ⟨n12, n0⟩ := kndsE_few k0
      have hK := knds_ok E k0
      have hall := fun i hi => E2.all i hi
      have each : ∀ i, i < m → 0 ≤ (P i).kd ∧ (P i).kd < n ∧ -4194304 ≤ (P i).x ∧ (P i).x ≤ 4194304 ∧ -4194304 ≤ (P i).y ∧ (P i).y ≤ 4194304 ∧ fldE 1 (fun _ => (P i).sz) = 0 ∧ (FloatKind.f32.format.order (P i).sz 0 == some .lt) = false ∧ 0 ≤ (P i).ag ∧ (P i).ag ≤ 1000 := by
        intro i hi
        have h := hall i hi
        unfold pltS at h
        have h0 : pltE n K (P i).kd (P i).x (P i).y (P i).sz (P i).ag = 0 := by
          by_cases q : pltE n K (P i).kd (P i).x (P i).y (P i).sz (P i).ag = 0
          · exact q
          · rw [if_pos q] at h; exact absurd h q
        rcases pltE_ways (kd := (P i).kd) (x := (P i).x) (y := (P i).y) (sz := (P i).sz) (ag := (P i).ag) hK (by omega) with ⟨e, _⟩ | ⟨e, _⟩ | ⟨a, b, c, d, e, f, g⟩
        · rw [e] at h0; cases h0
        · rw [e] at h0; cases h0
        · refine ⟨a, b, c, d, e, f, ?_⟩
          rcases g with ⟨q, e'⟩ | ⟨q, ⟨e', _⟩ | ⟨e', _⟩ | ⟨e', _⟩ | ⟨_, e2, _, e4, e5⟩⟩
          · rw [e'] at h0; exact absurd h0 q
          · rw [e'] at h0; cases h0
          · rw [e'] at h0; cases h0
          · rw [e'] at h0; cases h0
          · exact ⟨q, e2, e4, e5⟩
      refine ⟨by omega, n12, by omega, fun i hi => ⟨(each i hi).1, (each i hi).2.1⟩, fun i hi => ⟨(each i hi).2.2.1, (each i hi).2.2.2.1, (each i hi).2.2.2.2.1, (each i hi).2.2.2.2.2.1⟩, fun i hi => ?_, fun i hi => (each i hi).2.2.2.2.2.2.2.2, fun i hi => ?_⟩
      · obtain ⟨_, _, _, _, _, _, q, e2, _⟩ := each i hi
        have hh := allB_iff.1 (fldE_zero.1 q) 0 (by omega)
        obtain ⟨a, va, ha⟩ := hgt_val hh
        refine ⟨wf i hi, a, va, ?_, ?_⟩
        · rw [f32f, lss_val va vS_zero] at e2
          simpa using e2
        · omega
      · exact allB_iff.1 (fldE_zero.1 (knd_ok (hK i hi)).f) 6 (by omega)
  · rw [if_pos k0] at hz; exact absurd hz k0
end Go.Proofs.Ytkjpjppfmfifeaa

/- Nearest: the number of the plant that is nearest to a place, of the program and of the law. -/
namespace Go.Proofs.Ytkjpjppfmfifeaa
open Go.RowKit Fl
set_option linter.unusedVariables false

abbrev potV (x y : Int) : Value := .agg #[.int .i64 x, .int .i64 y]
abbrev potO (x y : Int) : Obj := .cells #[.int .i64 x, .int .i64 y] 76

theorem sqr_bd {d : Int} (h1 : -8388608 ≤ d) (h2 : d ≤ 8388608) : 0 ≤ d * d ∧ d * d ≤ 70368744177664 := by
  have e : d * d = ((d.natAbs * d.natAbs : Nat) : Int) := by rw [Int.natCast_mul]; exact (Int.natAbs_mul_self' d).symm
  have h : d.natAbs ≤ 8388608 := by omega
  have := Nat.mul_le_mul h h
  rw [e]
  omega
/-- The square of the distance of two places. -/
def sqP (ax ay x y : Int) : Int := (ax - x) * (ax - x) + (ay - y) * (ay - y)
theorem sqP_swap (ax ay x y : Int) : sqP ax ay x y = (x - ax) * (x - ax) + (y - ay) * (y - ay) := by
  unfold sqP
  rw [show ax - x = -(x - ax) by omega, show ay - y = -(y - ay) by omega, Int.neg_mul_neg, Int.neg_mul_neg]
theorem sqP_bd {ax ay x y : Int} (a1 : -4194304 ≤ ax) (a2 : ax ≤ 4194304) (b1 : -4194304 ≤ ay) (b2 : ay ≤ 4194304) (x1 : -4194304 ≤ x) (x2 : x ≤ 4194304) (y1 : -4194304 ≤ y) (y2 : y ≤ 4194304) : 0 ≤ sqP ax ay x y ∧ sqP ax ay x y ≤ 140737488355328 := by
  unfold sqP
  have := sqr_bd (d := ax - x) (by omega) (by omega)
  have := sqr_bd (d := ay - y) (by omega) (by omega)
  omega

set_option maxHeartbeats 1000000 in
theorem nSquare_any (ax ay x y : Int) (w : World) (a1 : -4194304 ≤ ax) (a2 : ax ≤ 4194304) (b1 : -4194304 ≤ ay) (b2 : ay ≤ 4194304) (x1 : -4194304 ≤ x) (x2 : x ≤ 4194304) (y1 : -4194304 ≤ y) (y2 : y ≤ 4194304) :
    Calls Try.prog 108 #[potV ax ay, potV x y] w fun e w' => e = .returned (.int .i64 (sqP ax ay x y)) ∧ Below w.heap.size w w' := by
  obtain ⟨q0, q1⟩ := sqr_bd (d := ax - x) (by omega) (by omega)
  obtain ⟨r0, r1⟩ := sqr_bd (d := ay - y) (by omega) (by omega)
  unfold sqP
  obtain ⟨A, hA⟩ : ∃ A, (ax - x) * (ax - x) = A := ⟨_, rfl⟩
  obtain ⟨B, hB⟩ : ∃ B, (ay - y) * (ay - y) = B := ⟨_, rfl⟩
  rw [hA] at q0 q1 ⊢
  rw [hB] at r0 r1 ⊢
  have u1 : wrap64 ((ax - x) * (ax - x)) = A := by rw [hA]; exact IntWalk.wrap64_in _ ⟨by omega, by omega⟩
  have u2 : wrap64 ((ay - y) * (ay - y)) = B := by rw [hB]; exact IntWalk.wrap64_in _ ⟨by omega, by omega⟩
  have v1 : IntKind.i64.wrap (ax - x) = ax - x := by rw [IntKind.wrap_i64]; omega
  have v2 : IntKind.i64.wrap (ay - y) = ay - y := by rw [IntKind.wrap_i64]; omega
  clear hA hB
  go_enter Try.func108, Try.ntmps108
  go_wp2
  go_quiet (fail)
  clear v1 v2
  go_wp2
  go_ret
  exact ⟨rfl, ((((Below.refl _ _).alloc (Nat.le_refl _) _).alloc (by simp) _).trans ((below_drewN _ _).mono (by simp; omega)))⟩

set_option maxHeartbeats 1000000 in
theorem placeOf_any (p : Plt) (w : World) :
    Calls Try.prog 109 #[pltV p] w fun e w' => e = .returned (potV p.x p.y) ∧ Below w.heap.size w w' := by
  go_enter Try.func109, Try.ntmps109
  go_wp2
  refine bodyPost_ret (v := potV p.x p.y) (by simp [results, Try.results109, go_sem]) rfl ?_
  exact ⟨rfl, (by repeat (first | exact Below.refl _ _ | refine Below.alloc ?_ (by first | omega | (simp; done) | (simp; omega)) _ | refine Below.setCell ?_ (by first | omega | (simp; done) | (simp; omega)) _ | refine Below.drew ?_))⟩

/-- The nearest of the first k plants, and the square of its distance. -/
def nrP (ax ay : Int) (P : Nat → Plt) : Nat → Nat × Int
  | 0 => (0, sqP ax ay (P 0).x (P 0).y)
  | k + 1 => if sqP ax ay (P k).x (P k).y < (nrP ax ay P k).2 then (k, sqP ax ay (P k).x (P k).y) else nrP ax ay P k
theorem nrP_one (ax ay : Int) (P : Nat → Plt) : nrP ax ay P 1 = (0, sqP ax ay (P 0).x (P 0).y) := by
  unfold nrP
  rw [if_neg (by unfold nrP; omega)]
  rfl
/-- A place that is one. -/
def PlaOk (x y : Int) : Prop := -4194304 ≤ x ∧ x ≤ 4194304 ∧ -4194304 ≤ y ∧ y ≤ 4194304
theorem plaE_ok {x y : Int} : plaE x y = 0 ↔ PlaOk x y := by
  unfold plaE PlaOk
  constructor
  · intro h
    by_cases q : withinB x (-4194304) 4194304 = true ∧ withinB y (-4194304) 4194304 = true
    · have a := withinB_iff.1 q.1
      have b := withinB_iff.1 q.2
      exact ⟨a.1, a.2, b.1, b.2⟩
    · rw [if_neg q] at h; cases h
  · rintro ⟨a, b, c, d⟩
    rw [if_pos ⟨withinB_iff.2 ⟨a, b⟩, withinB_iff.2 ⟨c, d⟩⟩]
theorem nrP_ok {ax ay : Int} {P : Nat → Plt} {m : Nat} (ha : PlaOk ax ay) (hp : ∀ i, i < m → PlaOk (P i).x (P i).y) (hm : 0 < m) : ∀ k, k ≤ m → (nrP ax ay P k).1 < m ∧ 0 ≤ (nrP ax ay P k).2 ∧ (nrP ax ay P k).2 ≤ 140737488355328
  | 0, _ => by
    obtain ⟨a, b, c, d⟩ := hp 0 hm
    exact ⟨hm, sqP_bd ha.1 ha.2.1 ha.2.2.1 ha.2.2.2 a b c d⟩
  | k + 1, h => by
    have I := nrP_ok ha hp hm k (by omega)
    obtain ⟨a, b, c, d⟩ := hp k (by omega)
    have s := sqP_bd ha.1 ha.2.1 ha.2.2.1 ha.2.2.2 a b c d
    unfold nrP
    split
    · exact ⟨by simp only; omega, s⟩
    · exact I
def nrE (m : Nat) (ax ay : Int) : Int := if m = 0 then 11 else plaE ax ay
def nrV (m : Nat) (ax ay : Int) (P : Nat → Plt) : Int := if nrE m ax ay = 0 then ((nrP ax ay P m).1 : Int) else 0

set_option maxHeartbeats 8000000 in
set_option maxRecDepth 100000 in
theorem nearest_any (a2 : Option Addr) (m cap2 : Nat) (P : Nat → Plt) (ax ay : Int) (w : World) (L : PltL w a2 m P) (m4 : m ≤ 4000) (hp : ∀ i, i < m → PlaOk (P i).x (P i).y) :
    Calls Try.prog 52 #[.slice a2 m cap2, potV ax ay] w fun e w' => e = .returned (.tuple #[.int .i64 (nrV m ax ay P), .int .i64 (nrE m ax ay)]) ∧ Below w.heap.size w w' := by
  by_cases m0 : m = 0
  · subst m0
    have ee : nrE 0 ax ay = 11 := rfl
    have ev : nrV 0 ax ay P = 0 := by unfold nrV; rw [ee]; rfl
    rw [ee, ev]
    clear ee ev L hp
    go_enter Try.func52, Try.ntmps52
    go_wp2
    go_ret2
    exact ⟨rfl, (by repeat (first | exact Below.refl _ _ | refine Below.alloc ?_ (by first | omega | (simp; done) | (simp; omega)) _ | refine Below.setCell ?_ (by first | omega | (simp; done) | (simp; omega)) _ | refine Below.drew ?_))⟩
  have ee : nrE m ax ay = plaE ax ay := by unfold nrE; rw [if_neg m0]
  obtain ⟨V, hV⟩ : ∃ V, nrV m ax ay P = V := ⟨_, rfl⟩
  obtain ⟨E, hE⟩ : ∃ E, nrE m ax ay = E := ⟨_, rfl⟩
  rw [hV, hE]
  have VV := Lib.hid hV
  have EV := Lib.hid hE
  clear hV hE
  have LL := Lib.hid L
  have HP := Lib.hid hp
  have EE := Lib.hid ee
  have e0 : ((m : Int) == 0) = false := by rw [beq_eq_false_iff_ne]; omega
  have e4 : decide ((4000 : Int) < (m : Int)) = false := decide_eq_false (by omega)
  have M0 := Lib.hid m0
  have mi : (m : Int) ≤ 4000 := by omega
  have hsf := fun (w : World) (a : Addr) (m : Mode) (k : FloatKind) (b : Nat) => run_store_float (P := Try.prog) (w := w) (a := a) (m := m) k b
  have CA := Lib.hid (fun w => checkPla_any ax ay w)
  have HA := Lib.hid (heap_alloc_new w (potO ax ay))
  clear ee L hp m0
  go_enter Try.func52, Try.ntmps52
  go_wp2
  go_loopw [25] (fun s25 wr => ∃ k : Nat, k ≤ m ∧ s25 = .int .i64 k ∧ Below (w.alloc (potO ax ay)).heap.size (w.alloc (potO ax ay)) wr) (fun s25 _ => m - (intOf s25).toNat)
  case atStart => exact ⟨0, Nat.zero_le _, rfl, Below.refl _ _⟩
  case round =>
    obtain ⟨k, hk, rfl, hb⟩ := hrel
    have HB := Lib.hid hb
    have hbw : Below w.heap.size w wr := Below.trans ((Below.refl _ _).alloc (Nat.le_refl _) _) (hb.mono (by simp))
    have HW := Lib.hid hbw
    clear hb hbw
    by_cases hlt : k < m
    · rcases LL.out.stay HW.out with z | ⟨b', off, rfl, l⟩
      · omega
      have HK := Lib.hid hlt
      obtain ⟨p0, p1, p2, p3, p4⟩ := pltAt_all l hlt
      have zb := World.block_lt_of_cell? wr _ p0
      have CP := Lib.hid (fun w => by have := checkPla_any (P k).x (P k).y w; rw [plaE_ok.2 (HP.out k hlt)] at this; exact this)
      have k1 : (k : Int) < (m : Int) := by omega
      have HB2 := Lib.hid (HB.out.alloc HB.out.size (.cells #[.int .i64 (P k).kd, .int .i64 (P k).x, .int .i64 (P k).y, .float .f32 (P k).sz, .int .i64 (P k).ag] 85))
      clear l
      go_wp2_with (go_at_call 107; (with_reducible refine Calls.mono (CP.out _) ?_); rintro e w' ⟨rfl, rfl⟩)
      go_roundw
      case rel => exact ⟨k + 1, HK.out, by go_num, HB2.out⟩
      case measure => have := HK.out; simp [intOf]; omega
    · have HX := Lib.hid (blkStay HA.out HB.out)
      obtain ⟨cA, fA, zA⟩ := blkC HX.out
      by_cases he : plaE ax ay = 0
      · have hae := plaE_ok.1 he
        have ev : nrV m ax ay P = ((nrP ax ay P m).1 : Int) := by unfold nrV; rw [EE.out, if_pos he]
        have e9 : nrE m ax ay = 0 := by rw [EE.out, he]
        have V1 := Lib.hid (ev.symm.trans VV.out)
        have E1 := Lib.hid (e9.symm.trans EV.out)
        have CA2 := Lib.hid (fun w => by have := CA.out w; rw [he] at this; exact this)
        have PA := Lib.hid hae
        clear he ev e9 hae
        have hm0 : 0 < m := by have := M0.out; omega
        rcases LL.out.stay HW.out with z | ⟨b', off, rfl, l⟩
        · have := M0.out; omega
        obtain ⟨p0, p1, p2, p3, p4⟩ := pltAt_all l hm0
        rw [show off + 0 * 5 = off by omega] at p0 p1 p2 p3 p4
        have zb := World.block_lt_of_cell? wr _ p0
        have QL := Lib.hid l
        have HM0 := Lib.hid hm0
        have m1 : (0 : Int) < (m : Int) := by omega
        have m1n : 0 < m := hm0
        have PO := Lib.hid (fun w => placeOf_any (P 0) w)
        have SQ := Lib.hid (fun w => nSquare_any ax ay (P 0).x (P 0).y w PA.out.1 PA.out.2.1 PA.out.2.2.1 PA.out.2.2.2 (HP.out 0 hm0).1 (HP.out 0 hm0).2.1 (HP.out 0 hm0).2.2.1 (HP.out 0 hm0).2.2.2)
        clear l hm0
        go_wp2_with (go_at_call 107; (with_reducible refine Calls.mono (CA2.out _) ?_); rintro e w' ⟨rfl, rfl⟩)
        go_region_held3 (fun w' => ((∀ o, w'.cell? ⟨w.heap.size, o, none⟩ = #[.int .i64 ax, .int .i64 ay][o]?) ∧ w'.cell? ⟨b', off, none⟩ = some (.int .i64 (P 0).kd) ∧ w'.cell? ⟨b', off + 1, none⟩ = some (.int .i64 (P 0).x) ∧ w'.cell? ⟨b', off + 2, none⟩ = some (.int .i64 (P 0).y) ∧ w'.cell? ⟨b', off + 3, none⟩ = some (.float .f32 (P 0).sz) ∧ w'.cell? ⟨b', off + 4, none⟩ = some (.int .i64 (P 0).ag)) ∧ Below wr.heap.size wr w') (first | exact (fun K => ⟨⟨(blkC (blkStay HX.out K)).1, by have := pltAt_all (QL.out.stay K) HM0.out; rwa [show off + 0 * 5 = off by omega] at this⟩, K⟩) hb9 | exact (fun K => ⟨⟨(blkC (blkStay HX.out K)).1, by have := pltAt_all (QL.out.stay K) HM0.out; rwa [show off + 0 * 5 = off by omega] at this⟩, K⟩) (by repeat (first | exact Below.refl _ _ | refine Below.alloc ?_ (by first | omega | (simp; done) | (simp; omega)) _ | refine Below.setCell ?_ (by first | omega | (simp; done) | (simp; omega)) _ | refine Below.drew ?_))) (first | (go_at_call 109; (with_reducible refine Calls.mono (PO.out _) ?_); rintro e w' ⟨rfl, hb8⟩; have hb9 : Below wr.heap.size wr w' := Below.trans (by first | exact hb9 | exact hb9.drew | exact (by repeat (first | exact Below.refl _ _ | refine Below.alloc ?_ (by first | omega | (simp; done) | (simp; omega)) _ | refine Below.setCell ?_ (by first | omega | (simp; done) | (simp; omega)) _ | refine Below.drew ?_))) (Below.mono hb8 (by first | exact hb9.size | exact Nat.le_refl _ | (simp; done) | (simp; omega))); clear hb8) | (go_at_call 108; (with_reducible refine Calls.mono (SQ.out _) ?_); rintro e w' ⟨rfl, hb8⟩; have hb9 : Below wr.heap.size wr w' := Below.trans (by first | exact hb9 | exact hb9.drew | exact (by repeat (first | exact Below.refl _ _ | refine Below.alloc ?_ (by first | omega | (simp; done) | (simp; omega)) _ | refine Below.setCell ?_ (by first | omega | (simp; done) | (simp; omega)) _ | refine Below.drew ?_))) (Below.mono hb8 (by first | exact hb9.size | exact Nat.le_refl _ | (simp; done) | (simp; omega))); clear hb8))
        have HB2 := Lib.hid (HB.out.trans ((‹_ ∧ Below wr.heap.size wr _›).2.mono HB.out.size))
        clear PO SQ QL p0 p1 p2 p3 p4 zb cA fA zA HX hlt
        repeat (clear hb9)
        have N0 := Lib.hid (show (.int .i64 0 : Value) = .int .i64 (((nrP ax ay P 0).1 : Nat) : Int) ∧ (.int .i64 (sqP ax ay (P 0).x (P 0).y) : Value) = .int .i64 (nrP ax ay P 0).2 from ⟨rfl, rfl⟩)
        clear HB HW
        go_wp2
        go_loopw [10, 11, 54] (fun s10 s11 s54 wr => ∃ i : Nat, i ≤ m ∧ s10 = .int .i64 (((nrP ax ay P i).1 : Nat) : Int) ∧ s11 = .int .i64 (nrP ax ay P i).2 ∧ s54 = .int .i64 i ∧ Below (w.alloc (potO ax ay)).heap.size (w.alloc (potO ax ay)) wr) (fun _ _ s54 _ => m - (intOf s54).toNat)
        case atStart => exact ⟨0, Nat.zero_le _, N0.out.1, N0.out.2, rfl, HB2.out⟩
        case round =>
          obtain ⟨i, hi, rfl, rfl, rfl, hb⟩ := hrel
          have HB := Lib.hid hb
          have HW := Lib.hid (show Below w.heap.size w wr from Below.trans ((Below.refl _ _).alloc (Nat.le_refl _) _) (hb.mono (by simp)))
          have NK := Lib.hid (nrP_ok PA.out HP.out HM0.out i hi)
          clear hb
          by_cases hlt : i < m
          · have HI := Lib.hid hlt
            obtain ⟨p0, p1, p2, p3, p4⟩ := pltAt_all (show PltsAt wr b' off m P by
              rcases LL.out.stay HW.out with z | ⟨b2, o2, h2, l⟩
              · omega
              · cases h2; exact l) hlt
            have zb := World.block_lt_of_cell? wr _ p0
            have i1 : (i : Int) < (m : Int) := by omega
            have HA4 := Lib.hid (blkStay (blkStay HA.out HB.out) ((Below.refl _ _).alloc (Nat.le_refl _) (.cells #[.int .i64 (P i).kd, .int .i64 (P i).x, .int .i64 (P i).y, .float .f32 (P i).sz, .int .i64 (P i).ag] 85)))
            have HV4 := Lib.hid (heap_alloc_new wr (.cells #[.int .i64 (P i).kd, .int .i64 (P i).x, .int .i64 (P i).y, .float .f32 (P i).sz, .int .i64 (P i).ag] 85))
            have HB4 := Lib.hid (HB.out.alloc HB.out.size (.cells #[.int .i64 (P i).kd, .int .i64 (P i).x, .int .i64 (P i).y, .float .f32 (P i).sz, .int .i64 (P i).ag] 85))
            have PO := Lib.hid (fun w => placeOf_any (P i) w)
            have SQ := Lib.hid (fun w => nSquare_any ax ay (P i).x (P i).y w PA.out.1 PA.out.2.1 PA.out.2.2.1 PA.out.2.2.2 (HP.out i hlt).1 (HP.out i hlt).2.1 (HP.out i hlt).2.2.1 (HP.out i hlt).2.2.2)
            go_wp2
            generalize wr.alloc (.cells #[.int .i64 (P i).kd, .int .i64 (P i).x, .int .i64 (P i).y, .float .f32 (P i).sz, .int .i64 (P i).ag] 85) = w4 at *
            obtain ⟨cA, fA, zA⟩ := blkC HA4.out
            obtain ⟨cV, fV, zV⟩ := blkC HV4.out
            go_region_held3 (fun w' => ((∀ o, w'.cell? ⟨w.heap.size, o, none⟩ = #[.int .i64 ax, .int .i64 ay][o]?) ∧ (∀ o, w'.cell? ⟨wr.heap.size, o, none⟩ = #[.int .i64 (P i).kd, .int .i64 (P i).x, .int .i64 (P i).y, .float .f32 (P i).sz, .int .i64 (P i).ag][o]?)) ∧ Below w4.heap.size w4 w') (first | exact (fun K => ⟨⟨(blkC (blkStay HA4.out K)).1, (blkC (blkStay HV4.out K)).1⟩, K⟩) hb9 | exact (fun K => ⟨⟨(blkC (blkStay HA4.out K)).1, (blkC (blkStay HV4.out K)).1⟩, K⟩) (by repeat (first | exact Below.refl _ _ | refine Below.alloc ?_ (by first | omega | (simp; done) | (simp; omega)) _ | refine Below.setCell ?_ (by first | omega | (simp; done) | (simp; omega)) _ | refine Below.drew ?_))) (first | (go_at_call 109; (with_reducible refine Calls.mono (PO.out _) ?_); rintro e w' ⟨rfl, hb8⟩; have hb9 : Below w4.heap.size w4 w' := Below.trans (by first | exact hb9 | exact hb9.drew | exact (by repeat (first | exact Below.refl _ _ | refine Below.alloc ?_ (by first | omega | (simp; done) | (simp; omega)) _ | refine Below.setCell ?_ (by first | omega | (simp; done) | (simp; omega)) _ | refine Below.drew ?_))) (Below.mono hb8 (by first | exact hb9.size | exact Nat.le_refl _ | (simp; done) | (simp; omega))); clear hb8) | (go_at_call 108; (with_reducible refine Calls.mono (SQ.out _) ?_); rintro e w' ⟨rfl, hb8⟩; have hb9 : Below w4.heap.size w4 w' := Below.trans (by first | exact hb9 | exact hb9.drew | exact (by repeat (first | exact Below.refl _ _ | refine Below.alloc ?_ (by first | omega | (simp; done) | (simp; omega)) _ | refine Below.setCell ?_ (by first | omega | (simp; done) | (simp; omega)) _ | refine Below.drew ?_))) (Below.mono hb8 (by first | exact hb9.size | exact Nat.le_refl _ | (simp; done) | (simp; omega))); clear hb8))
            have HB5 := Lib.hid (HB4.out.trans ((‹_ ∧ Below w4.heap.size w4 _›).2.mono HB4.out.size))
            have NS := Lib.hid (show nrP ax ay P (i + 1) = if sqP ax ay (P i).x (P i).y < (nrP ax ay P i).2 then (i, sqP ax ay (P i).x (P i).y) else nrP ax ay P i from rfl)
            obtain ⟨d0, d1⟩ := (show 0 ≤ sqP ax ay (P i).x (P i).y ∧ sqP ax ay (P i).x (P i).y ≤ 140737488355328 from sqP_bd PA.out.1 PA.out.2.1 PA.out.2.2.1 PA.out.2.2.2 (HP.out i hlt).1 (HP.out i hlt).2.1 (HP.out i hlt).2.2.1 (HP.out i hlt).2.2.2)
            clear PO SQ
            generalize sqP ax ay (P i).x (P i).y = D at *
            by_cases hc : D < (nrP ax ay P i).2
            · have NT := Lib.hid (show nrP ax ay P (i + 1) = (i, D) by rw [NS.out, if_pos hc])
              go_wp2
              go_roundw
              case rel => exact ⟨i + 1, HI.out, by rw [NT.out], by rw [NT.out], by go_num, HB5.out⟩
              case measure => have := HI.out; simp [intOf]; omega
            · have NT := Lib.hid (show nrP ax ay P (i + 1) = nrP ax ay P i by rw [NS.out, if_neg hc])
              go_wp2
              go_roundw
              case rel => exact ⟨i + 1, HI.out, by rw [NT.out], by rw [NT.out], by go_num, HB5.out⟩
              case measure => have := HI.out; simp [intOf]; omega
          · have hin : i = m := by omega
            go_wp2
            go_ret2
            exact ⟨by rw [← V1.out, ← E1.out, ← hin]; rfl, HW.out⟩
      · have ev : nrV m ax ay P = 0 := by unfold nrV; rw [EE.out, if_neg he]
        have V1 := Lib.hid (ev.symm.trans VV.out)
        have E1 := Lib.hid (EE.out.symm.trans EV.out)
        have cz : (plaE ax ay != 0) = true := by simp [he]
        clear he ev EE
        generalize plaE ax ay = er at *
        go_wp2_with (go_at_call 107; (with_reducible refine Calls.mono (CA.out _) ?_); rintro e w' ⟨rfl, rfl⟩)
        go_ret2
        exact ⟨by rw [← V1.out, ← E1.out]; rfl, HW.out⟩
end Go.Proofs.Ytkjpjppfmfifeaa

/- CountsMatch: Count and Nearest answer as the law reckons. -/
namespace Go.Proofs.Ytkjpjppfmfifeaa
open Go.RowKit Fl
set_option linter.unusedVariables false

/-- The law's block behind i kinds. -/
def lawA (K : Nat → Knd) (P : Nat → Plt) (m i j : Nat) : Array Value := if j < i then (cnsL (fun j => yngB K (P j)) P j m).fin.cells else cnsZ.cells
theorem lawA_at {K : Nat → Knd} {P : Nat → Plt} {m i : Nat} : lawA K P m i = updR (lawA K P m i) i (cnsL (fun j => yngB K (P j)) P i 0).cells := by
  have e : (cnsL (fun j => yngB K (P j)) P i 0).cells = lawA K P m i i := by unfold lawA; rw [if_neg (by omega)]; rfl
  rw [e, updR_self]
theorem lawA_next {w wr : World} {n b : Nat} {K : Nat → Knd} {P : Nat → Plt} {m i : Nat} {A : Array Value} (h : OB w wr n b (updR (lawA K P m i) i A)) (hA : (cnsL (fun j => yngB K (P j)) P i m).fin.cells = A) : OB w wr n b (lawA K P m (i + 1)) :=
  ⟨h.r.as fun j _ => by
    by_cases e : j = i
    · subst e; rw [updR_same]; unfold lawA; rw [if_pos (by omega), hA]
    · rw [updR_other _ _ e]
      unfold lawA
      by_cases c : j < i
      · rw [if_pos c, if_pos (by omega)]
      · rw [if_neg c, if_neg (by omega)], h.g, h.below⟩
theorem cnsL_next {yB : Nat → Bool} {P : Nat → Plt} {i k : Nat} {C : Cns} {Y : Bool} (hC : cnsL yB P i k = C) (hY : yB k = Y) (c : (P k).kd = i) : cnsL yB P i (k + 1) = C.put Y (P k) (addW C.sum (P k).sz) := by rw [cnsL, if_pos c, hC, hY]
theorem cnsL_skip {yB : Nat → Bool} {P : Nat → Plt} {i k : Nat} (c : (P k).kd ≠ i) : cnsL yB P i (k + 1) = cnsL yB P i k := by rw [cnsL, if_neg c]

/-- The law's best and least behind k plants. -/
def bst (ax ay : Int) (P : Nat → Plt) (k : Nat) : Int × Int := if k = 0 then (0, -1) else (((nrP ax ay P k).1 : Nat), (nrP ax ay P k).2)
theorem bst_bd {ax ay : Int} {P : Nat → Plt} {m : Nat} (ha : PlaOk ax ay) (hp : ∀ i, i < m → PlaOk (P i).x (P i).y) (k : Nat) (hk : k ≤ m) : -1 ≤ (bst ax ay P k).2 ∧ (bst ax ay P k).2 ≤ 140737488355328 := by
  unfold bst
  by_cases k0 : k = 0
  · rw [if_pos k0]; exact ⟨Int.le_refl _, by decide⟩
  · rw [if_neg k0]
    have := nrP_ok ha hp (by omega) k hk
    exact ⟨by simp only; omega, by simp only; omega⟩
theorem bst_next {ax ay : Int} {P : Nat → Plt} {m k : Nat} (ha : PlaOk ax ay) (hp : ∀ i, i < m → PlaOk (P i).x (P i).y) (hk : k < m) :
    bst ax ay P (k + 1) = if (bst ax ay P k).2 < 0 ∨ sqP ax ay (P k).x (P k).y < (bst ax ay P k).2 then ((k : Int), sqP ax ay (P k).x (P k).y) else bst ax ay P k := by
  by_cases k0 : k = 0
  · subst k0
    have e : bst ax ay P 0 = (0, -1) := rfl
    rw [e, if_pos (.inl (by decide))]
    unfold bst
    rw [if_neg (by omega), nrP_one]
  · have I := nrP_ok ha hp (by omega) k (by omega)
    have e : bst ax ay P k = ((((nrP ax ay P k).1 : Nat) : Int), (nrP ax ay P k).2) := by unfold bst; rw [if_neg k0]
    rw [e]
    unfold bst
    rw [if_neg (by omega)]
    simp only
    rw [nrP]
    by_cases c : sqP ax ay (P k).x (P k).y < (nrP ax ay P k).2
    · rw [if_pos c, if_pos (.inr c)]
    · rw [if_neg c, if_neg (by omega)]

set_option maxHeartbeats 16000000 in
set_option maxRecDepth 100000 in
theorem countsOk (a : Option Addr) (n cap : Nat) (K : Nat → Knd) (a2 : Option Addr) (m cap2 : Nat) (P : Nat → Plt) (ax ay : Int) (w : World) (R : Right n K m P) (L : KndL w a n K) (L2 : PltL w a2 m P)
    (CT : ∀ w', Below w.heap.size w w' → Calls Try.prog 49 #[.slice a n cap, .slice a2 m cap2] w' (CntPost w' n (fun i => cnsC (fun j => yngB K (P j)) P i m)))
    (QE : ∀ w', Below w.heap.size w w' → Calls Try.prog 50 #[.slice a n cap, .slice a2 m cap2] w' fun e w2 => e = .returned (.int .i64 0) ∧ Below w'.heap.size w' w2) :
    Calls Try.prog 8 #[.slice a n cap, .slice a2 m cap2, potV ax ay] w fun e w' => e = .returned (.bool true) ∧ Below w.heap.size w w' := by
  have RR := Lib.hid R
  have LL := Lib.hid L
  have PP := Lib.hid L2
  have C0 := Lib.hid CT
  have Q0 := Lib.hid QE
  have mk1 := make_cns n (by have := R.n2; omega)
  have hsf := fun (w : World) (a : Addr) (m : Mode) (k : FloatKind) (b : Nat) => run_store_float (P := Try.prog) (w := w) (a := a) (m := m) k b
  have HA := Lib.hid (heap_alloc_new w (potO ax ay))
  have hbA := (show Below w.heap.size w (w.alloc (potO ax ay)) from (by repeat (first | exact Below.refl _ _ | refine Below.alloc ?_ (by first | omega | (simp; done) | (simp; omega)) _ | refine Below.setCell ?_ (by first | omega | (simp; done) | (simp; omega)) _ | refine Below.drew ?_)))
  have HBA := Lib.hid hbA
  clear CT QE L L2 R hbA
  go_enter Try.func8, Try.ntmps8
  go_wp2_with (first
    | (go_at_call 49; refine (C0.out _ HBA.out).mono ?_; rintro e w1 ⟨b1, rfl, hg1, hr1, hb1⟩; have RW1 := Lib.hid hr1; have HG1 := Lib.hid hg1; have HB1 := Lib.hid hb1; clear hg1 hr1 hb1)
    | (go_at_call 50; refine (Q0.out _ (HBA.out.trans (HB1.out.mono HBA.out.size))).mono ?_; rintro e w2 ⟨rfl, hb2⟩; have HB2 := Lib.hid hb2; clear hb2)
    | (go_at_call 36; refine (grows_any _).mono ?_; rintro e w3 ⟨rfl, hb3⟩; have HB3 := Lib.hid hb3; clear hb3))
  have H13 := Lib.hid (HB2.out.trans (HB3.out.mono HB2.out.size))
  have HA3 := Lib.hid (HB1.out.trans (H13.out.mono HB1.out.size))
  have HW3 := Lib.hid (HBA.out.trans (HA3.out.mono HBA.out.size))
  have AT3 := Lib.hid (blkStay HA.out HA3.out)
  have RB3 := Lib.hid (RW1.out.stay H13.out)
  have S0 := Lib.hid (show OB w3 (w3.alloc (.cells (madeCells #[.int .i64 0, .int .i64 0, .int .i64 0, .float .f32 0, .float .f32 0] (n * 5)) 83)) n w3.heap.size (lawA K P m 0) from
    ⟨(rows_made w3 _ n 5 _ rfl (by omega)).as fun j _ => by unfold lawA; rw [if_neg (by omega)]; rfl, Nat.le_refl _, (Below.refl _ _).alloc (Nat.le_refl _) _⟩)
  have n12 : (n : Int) ≤ 12 := by have := RR.out.n2; omega
  have m4 : (m : Int) ≤ 4000 := by have := RR.out.m2; omega
  clear mk1 HA HB1 HB2 HB3 RW1 HBA H13 C0 Q0
  obtain ⟨B, hB⟩ : ∃ B, w3.heap.size = B := ⟨_, rfl⟩
  rw [hB] at S0
  simp only [hB]
  have BE := Lib.hid hB
  clear hB
  go_wp2
  go_loopw [55] (fun s55 wr => ∃ i : Nat, i ≤ n ∧ s55 = .int .i64 i ∧ OB w3 wr n B (lawA K P m i)) (fun s55 _ => n - (intOf s55).toNat)
  case atStart => exact ⟨0, Nat.zero_le _, rfl, S0.out⟩
  case round =>
    obtain ⟨i, hi, rfl, hst⟩ := hrel
    have ST := Lib.hid hst
    clear hst S0
    by_cases hlt : i < n
    · have HI := Lib.hid hlt
      have HBr := Lib.hid (HW3.out.trans (show Below w.heap.size w3 wr from by have h := ST.out.below; exact h.mono HW3.out.size))
      rcases LL.out.stay HBr.out with z | ⟨bk, off, rfl, l⟩
      · omega
      obtain ⟨l0, l1, l2, l3, l4, l5, l6, l7, l8, l9, l10, l11, l12⟩ := l.at hlt
      have i1 : (i : Int) < (n : Int) := by omega
      have HK := Lib.hid (heap_alloc_new wr (kndO (K i)))
      have S1 := Lib.hid (show OB w3 (wr.alloc (kndO (K i))) n B (updR (lawA K P m i) i (cnsL (fun j => yngB K (P j)) P i 0).cells) by rw [← lawA_at]; exact ST.out.alloc _)
      have zbB := ST.out.r.lt
      clear l
      go_wp2
      obtain ⟨X, hX⟩ : ∃ X, wr.heap.size = X := ⟨_, rfl⟩
      simp only [hX] at HK ⊢
      have HXB := Lib.hid (show B ≠ X by omega)
      clear hX l0 l1 l2 l3 l4 l5 l6 l7 l8 l9 l10 l11 l12 zbB
      go_loopw [65] (fun s65 wr => ∃ k : Nat, k ≤ m ∧ s65 = .int .i64 k ∧ OB w3 wr n B (updR (lawA K P m i) i (cnsL (fun j => yngB K (P j)) P i k).cells) ∧ wr.heap[X]? = some (kndO (K i))) (fun s65 _ => m - (intOf s65).toNat)
      case atStart => exact ⟨0, Nat.zero_le _, rfl, S1.out, HK.out⟩
      case round =>
        obtain ⟨k, hk, rfl, hst2, hkx⟩ := hrel
        have SI := Lib.hid hst2
        have KX := Lib.hid hkx
        clear hst2 hkx S1 HK
        obtain ⟨cK, fK, zK⟩ := blkC KX.out
        by_cases hlt2 : k < m
        · have HK2 := Lib.hid hlt2
          have HB5 := Lib.hid (HW3.out.trans (show Below w.heap.size w3 wr from SI.out.below.mono HW3.out.size))
          rcases PP.out.stay HB5.out with z | ⟨b', off', rfl, l⟩
          · omega
          obtain ⟨p0, p1, p2, p3, p4⟩ := pltAt_all l hlt2
          have zb := World.block_lt_of_cell? wr _ p0
          have k1 : (k : Int) < (m : Int) := by omega
          clear l
          by_cases c : (P k).kd = i
          · rw [c] at p0
            have CD := Lib.hid c
            obtain ⟨C, hC⟩ : ∃ C, cnsL (fun j => yngB K (P j)) P i k = C := ⟨_, rfl⟩
            have VC := Lib.hid (cns_eq (yB := fun j => yngB K (P j)) (P := P) (i := i) RR.out.m2 RR.out.sz RR.out.ag k hk)
            have hM : (C.many : Int) ≤ 4000 := by have h1 := VC.out.le; have h2 := VC.out.many; have := RR.out.m2; rw [hC] at h2; omega
            have hN : (C.young : Int) ≤ 4000 := by have h1 := VC.out.le2; have h2 := VC.out.young; have := RR.out.m2; rw [hC] at h2; omega
            have SC := Lib.hid (show OB w3 wr n B (updR (lawA K P m i) i #[.int .i64 C.many, .int .i64 C.young, .int .i64 C.old, .float .f32 C.sum, .float .f32 C.mean]) by have h := SI.out; rw [hC] at h; exact h)
            obtain ⟨r2, hr2⟩ : ∃ r, floatBits .add .f32 C.sum (P k).sz = some r := by
              obtain ⟨a1, _, va, a0, a3⟩ := VC.out.valL
              obtain ⟨_, b1, vb, b0, b2⟩ := RR.out.sz k hlt2
              rw [hC] at va
              have hle := VC.out.le
              have := RR.out.m2
              obtain ⟨r, e, _⟩ := sum_more va vb a0 a3 b0 b2 (by omega)
              exact ⟨r, e⟩
            obtain ⟨r1, v1, er1, vr1⟩ := hlf_parts (RR.out.top i hlt)
            obtain ⟨Y, hY⟩ : ∃ Y, yngB K (P k) = Y := ⟨_, rfl⟩
            have hY2 : (FloatKind.f32.format.order (P k).sz r1 == some .lt) = Y := by
              rw [← hY]; unfold yngB ltB mulW
              rw [c, show ((i : Int)).toNat = i by omega, er1]; rfl
            have ea1 := fun (W : World) => run_float_arith (P := Try.prog) W .mul 30 .f32 (K i).tp 1056964608 r1 er1
            have ea2 := fun (W : World) => run_float_arith (P := Try.prog) W .add 30 .f32 C.sum (P k).sz r2 hr2
            have hw2 : addW C.sum (P k).sz = r2 := by unfold addW; rw [hr2]; rfl
            have NX := Lib.hid (cnsL_next hC (show (fun j => yngB K (P j)) k = Y from hY) c)
            rw [hw2] at NX
            obtain ⟨e0, e1, e2, e3, e4, fz1, zb1⟩ := SC.out.get hlt
            clear hC hY c er1 vr1 hr2 hw2
            go_upto_region 15 with (fail)
            have S3 := (SC.out.set hlt (j := 0) (by omega) (show i * 5 = i * 5 + 0 by omega) (.int .i64 ((C.many : Int) + 1)) rfl).alloc (.cells #[.int .i64 i, .int .i64 (P k).x, .int .i64 (P k).y, .float .f32 (P k).sz, .int .i64 (P k).ag] 85)
            have HX := heap_alloc_new (wr.setCell ⟨B, i * 5, none⟩ (.int .i64 ((C.many : Int) + 1))) (.cells #[.int .i64 i, .int .i64 (P k).x, .int .i64 (P k).y, .float .f32 (P k).sz, .int .i64 (P k).ag] 85)
            rw [World.size_setCell] at HX
            have KX3 := (heap_alloc_old (wr.setCell ⟨B, i * 5, none⟩ (.int .i64 ((C.many : Int) + 1))) (.cells #[.int .i64 i, .int .i64 (P k).x, .int .i64 (P k).y, .float .f32 (P k).sz, .int .i64 (P k).ag] 85) (r := X) (by rw [World.size_setCell]; exact zK)).trans ((heap_setCell_other wr ⟨B, i * 5, none⟩ X (.int .i64 ((C.many : Int) + 1)) HXB.out.symm).trans KX.out)
            have hbz : B ≠ wr.heap.size := Nat.ne_of_lt zb1
            generalize ((wr.setCell ⟨B, i * 5, none⟩ (.int .i64 ((C.many : Int) + 1))).alloc (.cells #[.int .i64 i, .int .i64 (P k).x, .int .i64 (P k).y, .float .f32 (P k).sz, .int .i64 (P k).ag] 85)) = w5 at *
            clear e0 e1 e2 e3 e4 fz1 zb1 p0 p1 p2 p3 p4 zb cK fK zK
            obtain ⟨Z, hZ⟩ : ∃ Z, wr.heap.size = Z := ⟨_, rfl⟩
            simp only [hZ] at HX hbz ⊢
            clear hZ
            obtain ⟨cX, fX, zX⟩ := blkC HX
            obtain ⟨cK, fK, zK⟩ := blkC KX3
            obtain ⟨e0, e1, e2, e3, e4, fz1, zb1⟩ := S3.get hlt
            cases Y with
            | false =>
              go_upto_region 17 with (fail)
              clear e0 e1 e3 e4
              have X5 := Lib.hid HX
              have K5 := Lib.hid KX3
              go_region
              generalize hO : (if C.old < (P k).ag then (P k).ag else C.old) = O at *
              have HO := Lib.hid hO
              clear hO
              have S6 := (S3.set hlt (j := 2) (by omega) rfl (.int .i64 O) rfl).drew
              have X6 := hDrew ((heap_setCell_other w5 ⟨B, i * 5 + 2, none⟩ Z (.int .i64 O) hbz.symm).trans X5.out)
              have K6 := hDrew ((heap_setCell_other w5 ⟨B, i * 5 + 2, none⟩ X (.int .i64 O) HXB.out.symm).trans K5.out)
              clear X5 K5 S3 e2 fz1 zb1 cX fX zX cK fK zK HX KX3
              generalize (w5.setCell ⟨B, i * 5 + 2, none⟩ (.int .i64 O)).drew = w6 at *
              obtain ⟨cX, fX, zX⟩ := blkC X6
              obtain ⟨e0, e1, e2, e3, e4, fz1, zb1⟩ := S6.get hlt
              have S7 := Lib.hid (S6.set hlt (j := 3) (by omega) rfl (.float .f32 r2) rfl).drew
              have K7 := Lib.hid (hDrew ((heap_setCell_other w6 ⟨B, i * 5 + 3, none⟩ X (.float .f32 r2) HXB.out.symm).trans K6))
              clear S6 e0 e1 e2 e4
              go_wp2
              go_region
              go_wp2
              go_roundw
              case rel => exact ⟨k + 1, HK2.out, by go_num, by rw [NX.out]; unfold Cns.put; rw [HO.out]; exact S7.out, K7.out⟩
              case measure => have := HK2.out; simp [intOf]; omega
            | true =>
              go_upto_region 17 with (fail)
              have S4 := S3.set hlt (j := 1) (by omega) rfl (.int .i64 ((C.young : Int) + 1)) rfl
              have HX4 := (heap_setCell_other w5 ⟨B, i * 5 + 1, none⟩ Z (.int .i64 ((C.young : Int) + 1)) hbz.symm).trans HX
              have KX4 := (heap_setCell_other w5 ⟨B, i * 5 + 1, none⟩ X (.int .i64 ((C.young : Int) + 1)) HXB.out.symm).trans KX3
              clear e0 e1 e2 e3 e4 fz1 zb1 cX fX zX cK fK zK HX KX3 S3
              generalize (w5.setCell ⟨B, i * 5 + 1, none⟩ (.int .i64 ((C.young : Int) + 1))) = w5 at *
              have HX := HX4
              have KX3 := KX4
              have S3 := S4
              clear HX4 KX4 S4
              obtain ⟨cX, fX, zX⟩ := blkC HX
              obtain ⟨cK, fK, zK⟩ := blkC KX3
              obtain ⟨e0, e1, e2, e3, e4, fz1, zb1⟩ := S3.get hlt
              clear e0 e1 e3 e4
              have X5 := Lib.hid HX
              have K5 := Lib.hid KX3
              go_region
              generalize hO : (if C.old < (P k).ag then (P k).ag else C.old) = O at *
              have HO := Lib.hid hO
              clear hO
              have S6 := (S3.set hlt (j := 2) (by omega) rfl (.int .i64 O) rfl).drew
              have X6 := hDrew ((heap_setCell_other w5 ⟨B, i * 5 + 2, none⟩ Z (.int .i64 O) hbz.symm).trans X5.out)
              have K6 := hDrew ((heap_setCell_other w5 ⟨B, i * 5 + 2, none⟩ X (.int .i64 O) HXB.out.symm).trans K5.out)
              clear X5 K5 S3 e2 fz1 zb1 cX fX zX cK fK zK HX KX3
              generalize (w5.setCell ⟨B, i * 5 + 2, none⟩ (.int .i64 O)).drew = w6 at *
              obtain ⟨cX, fX, zX⟩ := blkC X6
              obtain ⟨e0, e1, e2, e3, e4, fz1, zb1⟩ := S6.get hlt
              have S7 := Lib.hid (S6.set hlt (j := 3) (by omega) rfl (.float .f32 r2) rfl).drew
              have K7 := Lib.hid (hDrew ((heap_setCell_other w6 ⟨B, i * 5 + 3, none⟩ X (.float .f32 r2) HXB.out.symm).trans K6))
              clear S6 e0 e1 e2 e4
              go_wp2
              go_region
              go_wp2
              go_roundw
              case rel => exact ⟨k + 1, HK2.out, by go_num, by rw [NX.out]; unfold Cns.put; rw [HO.out]; exact S7.out, K7.out⟩
              case measure => have := HK2.out; simp [intOf]; omega
          · have cn : ((P k).kd == (i : Int)) = false := by rw [beq_eq_false_iff_ne]; exact c
            have cb : ((P k).kd != (i : Int)) = true := by simp [c]
            have NX := Lib.hid (cnsL_skip (yB := fun j => yngB K (P j)) c)
            have S9 := Lib.hid (SI.out.alloc (.cells #[.int .i64 (P k).kd, .int .i64 (P k).x, .int .i64 (P k).y, .float .f32 (P k).sz, .int .i64 (P k).ag] 85))
            have K9 := Lib.hid ((heap_alloc_old wr (.cells #[.int .i64 (P k).kd, .int .i64 (P k).x, .int .i64 (P k).y, .float .f32 (P k).sz, .int .i64 (P k).ag] 85) (r := X) zK).trans KX.out)
            clear c
            go_wp2
            go_roundw
            case rel => exact ⟨k + 1, HK2.out, by go_num, by rw [NX.out]; exact S9.out, K9.out⟩
            case measure => have := HK2.out; simp [intOf]; omega
        · have hkm : k = m := by omega
          have SM := Lib.hid (show OB w3 wr n B (updR (lawA K P m i) i (cnsL (fun j => yngB K (P j)) P i m).cells) by have h := SI.out; rw [hkm] at h; exact h)
          obtain ⟨C, hC⟩ : ∃ C, cnsL (fun j => yngB K (P j)) P i m = C := ⟨_, rfl⟩
          have VC := Lib.hid (cns_eq (yB := fun j => yngB K (P j)) (P := P) (i := i) RR.out.m2 RR.out.sz RR.out.ag m (Nat.le_refl _))
          have SC := Lib.hid (show OB w3 wr n B (updR (lawA K P m i) i #[.int .i64 C.many, .int .i64 C.young, .int .i64 C.old, .float .f32 C.sum, .float .f32 C.mean]) by have h := SM.out; rw [hC] at h; exact h)
          obtain ⟨e0, e1, e2, e3, e4, fz1, zb1⟩ := SC.out.get hlt
          have HC := Lib.hid hC
          clear hkm SM SI cK fK zK
          by_cases hz : C.many = 0
          · have hd : decide ((0 : Int) < (C.many : Int)) = false := by simp [hz]
            have hd2 : decide (0 < C.many) = false := by simp [hz]
            have HZ := Lib.hid hz
            clear hz hC
            go_wp2
            go_roundw
            case rel => exact ⟨i + 1, HI.out, by go_num, lawA_next SC.out (by rw [HC.out]; unfold Cns.fin; rw [if_pos HZ.out])⟩
            case measure => have := HI.out; simp [intOf]; omega
          · have hd : decide ((0 : Int) < (C.many : Int)) = true := by simp; omega
            have hd2 : decide (0 < C.many) = true := by simp; omega
            obtain ⟨Q, hQ, _⟩ : ∃ r, floatBits .quo .f32 C.sum (floatOfInt .f32 (C.many : Int)) = some r ∧ Bd 20 r := by
              obtain ⟨a1, _, va, a0, a3⟩ := VC.out.valL
              have hle := VC.out.le
              have hme := VC.out.many
              have := RR.out.m2
              rw [hC] at va hme
              rw [hme] at a3 hle
              exact mean_parts va a0 a3 (by omega) (by omega)
            have ea := fun (W : World) => run_float_arith (P := Try.prog) W .quo 30 .f32 C.sum (floatOfInt .f32 (C.many : Int)) Q hQ
            have HZ := Lib.hid hz
            have HQ := Lib.hid hQ
            have S9 := Lib.hid (SC.out.set hlt (j := 4) (by omega) rfl (.float .f32 Q) rfl).drew
            clear hz hC hQ e1 e2
            go_wp2
            go_region
            go_wp2
            go_roundw
            case rel => exact ⟨i + 1, HI.out, by go_num, lawA_next S9.out (by rw [HC.out]; unfold Cns.fin; rw [if_neg HZ.out]; unfold quoW; rw [HQ.out]; rfl)⟩
            case measure => have := HI.out; simp [intOf]; omega
    · have hin : i = n := by omega
      have SG := Lib.hid (show OB w3 wr n B (fun j => (cnsL (fun j => yngB K (P j)) P j m).fin.cells) by
        have h := ST.out
        rw [hin] at h
        exact ⟨h.r.as fun j hj => by unfold lawA; rw [if_pos hj], h.g, h.below⟩)
      have HBz := Lib.hid (HW3.out.trans (show Below w.heap.size w3 wr from SG.out.below.mono HW3.out.size))
      have ATz := Lib.hid (blkStay AT3.out SG.out.below)
      have EQ := Lib.hid (equalCns_any b1 B n (fun i => (cnsC (fun j => yngB K (P j)) P i m).fin) (fun i => (cnsL (fun j => yngB K (P j)) P i m).fin) wr RR.out.n2 (RB3.out.stay SG.out.below) SG.out.r (fun i _ => cns_same (cns_eq RR.out.m2 RR.out.sz RR.out.ag m (Nat.le_refl _)) RR.out.m2 (cnsC_mean _ _ _ _)))
      have WI := Lib.hid (fun n a b w => mWithin_any n a b w)
      have WH := Lib.hid (fun c k w => when_any c k w)
      have FI := Lib.hid (fun a b p w h => first2_any a b p w h)
      have NR0 := Lib.hid (fun W' (hb : Below w.heap.size w W') => nearest_any a2 m cap2 P ax ay W' (PP.out.stay hb) RR.out.m2 RR.out.pla)
      have hf1 : ∀ x, firstE (whenE true 11) x = 11 := fun _ => rfl
      have hf3 : firstE (whenE false 11) (whenE true 5) = 5 := rfl
      have hf4 : firstE (whenE false 11) (whenE false 5) = 0 := rfl
      clear hin ST
      obtain ⟨bx, hbx⟩ : ∃ b, withinB ax (-4194304) 4194304 = b := ⟨_, rfl⟩
      obtain ⟨by', hby⟩ : ∃ b, withinB ay (-4194304) 4194304 = b := ⟨_, rfl⟩
      by_cases hm : m = 0
      · have NR := Lib.hid (fun W' hb => show Calls Try.prog 52 #[.slice a2 m cap2, potV ax ay] W' fun e w' => e = .returned (.tuple #[.int .i64 0, .int .i64 11]) ∧ Below W'.heap.size W' w' by
          have h := NR0.out W' hb
          have he : nrE m ax ay = 11 := by unfold nrE; rw [if_pos hm]
          unfold nrV at h
          rw [he, if_neg (by decide)] at h
          exact h)
        have e0 : ((m : Int) == 0) = true := by rw [hm]; rfl
        clear NR0 hm
        cases bx with
        | false =>
          go_wp2_with (first
            | (go_at_call 51; refine EQ.out.mono ?_; rintro e w6 ⟨rfl, hb6⟩; have HB6 := Lib.hid (HBz.out.trans (hb6.mono HBz.out.size)); have AT6 := Lib.hid (blkStay ATz.out hb6); clear hb6; obtain ⟨cA, fA, zA⟩ := blkC AT6.out)
            | (go_at_call 52; refine (NR.out _ HB6.out).mono ?_; rintro e w7 ⟨rfl, hb7⟩; have HB7 := Lib.hid (HB6.out.trans (hb7.mono HB6.out.size)); have AT7 := Lib.hid (blkStay AT6.out hb7); clear hb7 cA fA zA; obtain ⟨cA, fA, zA⟩ := blkC AT7.out))
          go_still_tail 15, (by kernel_rfl)
          still_call ((WH.out _ _ _).mono fun _ _ h => ⟨h.1, h.2.symm⟩)
          repeat still_step
          still_call ((WI.out _ _ _ _).mono fun _ _ h => ⟨h.1, h.2.symm⟩)
          repeat still_step
          still_call ((WH.out _ _ _).mono fun _ _ h => ⟨h.1, h.2.symm⟩)
          repeat still_step
          refine wpStill_nil ?_
          change wpList _ _ _ _ _ w7.drew
          go_wp2_with (first
            | (go_at_call 53; (with_reducible refine Calls.mono (WI.out _ _ _ _) ?_); rintro e w' ⟨rfl, rfl⟩)
            | (go_at_call 44; (with_reducible refine Calls.mono (WH.out _ _ _) ?_); rintro e w' ⟨rfl, rfl⟩)
            | (go_at_call 42; (with_reducible refine Calls.mono (FI.out _ _ _ _ (hDrew (heap_alloc_new w7 _))) ?_); rintro e w' ⟨rfl, rfl⟩))
          go_ret
          exact ⟨rfl, HB7.out.trans (Below.mono (by repeat (first | exact Below.refl _ _ | refine Below.alloc ?_ (by first | omega | (simp; done) | (simp; omega)) _ | refine Below.setCell ?_ (by first | omega | (simp; done) | (simp; omega)) _ | refine Below.drew ?_)) HB7.out.size)⟩
        | true =>
          go_wp2_with (first
            | (go_at_call 51; refine EQ.out.mono ?_; rintro e w6 ⟨rfl, hb6⟩; have HB6 := Lib.hid (HBz.out.trans (hb6.mono HBz.out.size)); have AT6 := Lib.hid (blkStay ATz.out hb6); clear hb6; obtain ⟨cA, fA, zA⟩ := blkC AT6.out)
            | (go_at_call 52; refine (NR.out _ HB6.out).mono ?_; rintro e w7 ⟨rfl, hb7⟩; have HB7 := Lib.hid (HB6.out.trans (hb7.mono HB6.out.size)); have AT7 := Lib.hid (blkStay AT6.out hb7); clear hb7 cA fA zA; obtain ⟨cA, fA, zA⟩ := blkC AT7.out))
          go_still_tail 15, (by kernel_rfl)
          still_call ((WH.out _ _ _).mono fun _ _ h => ⟨h.1, h.2.symm⟩)
          repeat still_step
          still_call ((WI.out _ _ _ _).mono fun _ _ h => ⟨h.1, h.2.symm⟩)
          repeat still_step
          still_call ((WI.out _ _ _ _).mono fun _ _ h => ⟨h.1, h.2.symm⟩)
          repeat still_step
          still_call ((WH.out _ _ _).mono fun _ _ h => ⟨h.1, h.2.symm⟩)
          repeat still_step
          refine wpStill_nil ?_
          change wpList _ _ _ _ _ w7.drew
          go_wp2_with (first
            | (go_at_call 53; (with_reducible refine Calls.mono (WI.out _ _ _ _) ?_); rintro e w' ⟨rfl, rfl⟩)
            | (go_at_call 44; (with_reducible refine Calls.mono (WH.out _ _ _) ?_); rintro e w' ⟨rfl, rfl⟩)
            | (go_at_call 42; (with_reducible refine Calls.mono (FI.out _ _ _ _ (hDrew (heap_alloc_new w7 _))) ?_); rintro e w' ⟨rfl, rfl⟩))
          go_ret
          exact ⟨rfl, HB7.out.trans (Below.mono (by repeat (first | exact Below.refl _ _ | refine Below.alloc ?_ (by first | omega | (simp; done) | (simp; omega)) _ | refine Below.setCell ?_ (by first | omega | (simp; done) | (simp; omega)) _ | refine Below.drew ?_)) HB7.out.size)⟩
      · have e0 : ((m : Int) == 0) = false := by rw [beq_eq_false_iff_ne]; omega
        by_cases hok : bx = true ∧ by' = true
        · obtain ⟨rfl, rfl⟩ := hok
          have PA : PlaOk ax ay := ⟨(withinB_iff.1 hbx).1, (withinB_iff.1 hbx).2, (withinB_iff.1 hby).1, (withinB_iff.1 hby).2⟩
          have hp0 : plaE ax ay = 0 := plaE_ok.2 PA
          have NR := Lib.hid (fun W' hb => show Calls Try.prog 52 #[.slice a2 m cap2, potV ax ay] W' fun e w' => e = .returned (.tuple #[.int .i64 (((nrP ax ay P m).1 : Nat) : Int), .int .i64 0]) ∧ Below W'.heap.size W' w' by
            have h := NR0.out W' hb
            have he : nrE m ax ay = 0 := by unfold nrE; rw [if_neg hm, hp0]
            unfold nrV at h
            rw [he, if_pos rfl] at h
            exact h)
          have HPA := Lib.hid PA
          have HM := Lib.hid hm
          clear NR0 hm hp0 PA
          go_wp2_with (first
            | (go_at_call 51; refine EQ.out.mono ?_; rintro e w6 ⟨rfl, hb6⟩; have HB6 := Lib.hid (HBz.out.trans (hb6.mono HBz.out.size)); have AT6 := Lib.hid (blkStay ATz.out hb6); clear hb6; obtain ⟨cA, fA, zA⟩ := blkC AT6.out)
            | (go_at_call 52; refine (NR.out _ HB6.out).mono ?_; rintro e w7 ⟨rfl, hb7⟩; have HB7 := Lib.hid (HB6.out.trans (hb7.mono HB6.out.size)); have AT7 := Lib.hid (blkStay AT6.out hb7); clear hb7 cA fA zA; obtain ⟨cA, fA, zA⟩ := blkC AT7.out))
          go_still_tail 15, (by kernel_rfl)
          still_call ((WH.out _ _ _).mono fun _ _ h => ⟨h.1, h.2.symm⟩)
          repeat still_step
          still_call ((WI.out _ _ _ _).mono fun _ _ h => ⟨h.1, h.2.symm⟩)
          repeat still_step
          still_call ((WI.out _ _ _ _).mono fun _ _ h => ⟨h.1, h.2.symm⟩)
          repeat still_step
          still_call ((WH.out _ _ _).mono fun _ _ h => ⟨h.1, h.2.symm⟩)
          repeat still_step
          refine wpStill_nil ?_
          change wpList _ _ _ _ _ w7.drew
          go_wp2_with (first
            | (go_at_call 53; (with_reducible refine Calls.mono (WI.out _ _ _ _) ?_); rintro e w' ⟨rfl, rfl⟩)
            | (go_at_call 44; (with_reducible refine Calls.mono (WH.out _ _ _) ?_); rintro e w' ⟨rfl, rfl⟩)
            | (go_at_call 42; (with_reducible refine Calls.mono (FI.out _ _ _ _ (hDrew (heap_alloc_new w7 _))) ?_); rintro e w' ⟨rfl, rfl⟩))
          have HB8 := Lib.hid (HB7.out.trans (Below.mono (show Below w7.heap.size w7 (w7.alloc (.cells #[.int .i64 (whenE false 11), .int .i64 (whenE false 5)] 31)).drew from ((Below.refl _ _).alloc (Nat.le_refl _) _).drew) HB7.out.size))
          have AT8 := Lib.hid (hDrew (blkStay AT7.out ((Below.refl _ _).alloc (Nat.le_refl _) (.cells #[.int .i64 (whenE false 11), .int .i64 (whenE false 5)] 31))))
          clear cA fA zA
          go_loopw [19, 20, 174] (fun s19 s20 s174 wr => ∃ k : Nat, k ≤ m ∧ s19 = .int .i64 (bst ax ay P k).1 ∧ s20 = .int .i64 (bst ax ay P k).2 ∧ s174 = .int .i64 k ∧ Below w.heap.size w wr ∧ wr.heap[w.heap.size]? = some (potO ax ay)) (fun _ _ s174 _ => m - (intOf s174).toNat)
          case atStart => exact ⟨0, Nat.zero_le _, rfl, rfl, rfl, HB8.out, AT8.out⟩
          case round =>
            obtain ⟨k, hk, rfl, rfl, rfl, hb, hat⟩ := hrel
            have HB := Lib.hid hb
            have AT := Lib.hid hat
            clear hb hat AT8 HB8 AT7 AT6 HB6 HB7
            obtain ⟨cA, fA, zA⟩ := blkC AT.out
            by_cases hlt : k < m
            · have HK := Lib.hid hlt
              rcases PP.out.stay HB.out with z | ⟨b', off', rfl, l⟩
              · omega
              obtain ⟨p0, p1, p2, p3, p4⟩ := pltAt_all l hlt
              have zb := World.block_lt_of_cell? wr _ p0
              have k1 : (k : Int) < (m : Int) := by omega
              have NX := Lib.hid (bst_next (P := P) HPA.out RR.out.pla hlt)
              obtain ⟨x1, x2, y1, y2⟩ := RR.out.pla k hlt
              obtain ⟨a1, a2', b1', b2'⟩ := HPA.out
              have HB9 := Lib.hid (HB.out.alloc HB.out.size (.cells #[.int .i64 (P k).kd, .int .i64 (P k).x, .int .i64 (P k).y, .float .f32 (P k).sz, .int .i64 (P k).ag] 85))
              have AT9 := Lib.hid (blkStay AT.out ((Below.refl _ _).alloc (Nat.le_refl _) (.cells #[.int .i64 (P k).kd, .int .i64 (P k).x, .int .i64 (P k).y, .float .f32 (P k).sz, .int .i64 (P k).ag] 85)))
              clear l
              generalize (P k).kd = kd' at *
              obtain ⟨D, hD⟩ : ∃ D, sqP ax ay (P k).x (P k).y = D := ⟨_, rfl⟩
              have hD2 := sqP_swap ax ay (P k).x (P k).y
              rw [hD] at hD2
              have NX2 := Lib.hid (show bst ax ay P (k + 1) = if (bst ax ay P k).2 < 0 ∨ D < (bst ax ay P k).2 then ((k : Int), D) else bst ax ay P k by rw [← hD]; exact NX.out)
              clear hD NX
              generalize (P k).x = x at *
              generalize (P k).y = y at *
              obtain ⟨q0, q1⟩ := sqr_bd (d := x - ax) (by omega) (by omega)
              obtain ⟨s0, s1⟩ := sqr_bd (d := y - ay) (by omega) (by omega)
              obtain ⟨A, hA⟩ : ∃ A, (x - ax) * (x - ax) = A := ⟨_, rfl⟩
              obtain ⟨B2, hB2⟩ : ∃ A, (y - ay) * (y - ay) = A := ⟨_, rfl⟩
              rw [hA] at q0 q1 hD2
              rw [hB2] at s0 s1 hD2
              have u1 : wrap64 ((x - ax) * (x - ax)) = A := by rw [hA]; exact IntWalk.wrap64_in _ ⟨by omega, by omega⟩
              have u2 : wrap64 ((y - ay) * (y - ay)) = B2 := by rw [hB2]; exact IntWalk.wrap64_in _ ⟨by omega, by omega⟩
              have N0 := bst_bd (P := P) HPA.out RR.out.pla k hk
              obtain ⟨n0, n1⟩ := N0
              rw [hD2] at NX2
              clear hA hB2 hD2
              obtain ⟨N, hN⟩ : ∃ N, (bst ax ay P k).2 = N := ⟨_, rfl⟩
              rw [hN] at NX2 n0 n1
              have HN := Lib.hid hN
              simp only [hN]
              clear hN
              by_cases c1 : N < 0
              · have NT := Lib.hid (show bst ax ay P (k + 1) = ((k : Int), A + B2) by rw [NX2.out, if_pos (.inl c1)])
                go_wp2
                go_roundw
                case rel => exact ⟨k + 1, HK.out, by rw [NT.out], by rw [NT.out], by go_num, HB9.out, AT9.out⟩
                case measure => have := HK.out; simp [intOf]; omega
              · by_cases c2 : A + B2 < N
                · have NT := Lib.hid (show bst ax ay P (k + 1) = ((k : Int), A + B2) by rw [NX2.out, if_pos (.inr c2)])
                  go_wp2
                  go_roundw
                  case rel => exact ⟨k + 1, HK.out, by rw [NT.out], by rw [NT.out], by go_num, HB9.out, AT9.out⟩
                  case measure => have := HK.out; simp [intOf]; omega
                · have NT := Lib.hid (show bst ax ay P (k + 1) = bst ax ay P k by rw [NX2.out, if_neg (by omega)])
                  go_wp2
                  go_roundw
                  case rel => exact ⟨k + 1, HK.out, by rw [NT.out], by rw [NT.out]; rw [HN.out], by go_num, HB9.out, AT9.out⟩
                  case measure => have := HK.out; simp [intOf]; omega
            · have hin : k = m := by omega
              have hbst : (bst ax ay P k).1 = (((nrP ax ay P m).1 : Nat) : Int) := by unfold bst; rw [if_neg (by have := HM.out; omega), hin]
              simp only [hbst]
              clear hbst
              go_wp2
              go_ret
              exact ⟨rfl, HB.out⟩
        · have NR := Lib.hid (fun W' hb => show Calls Try.prog 52 #[.slice a2 m cap2, potV ax ay] W' fun e w' => e = .returned (.tuple #[.int .i64 0, .int .i64 5]) ∧ Below W'.heap.size W' w' by
            have h := NR0.out W' hb
            have he : nrE m ax ay = 5 := by
              unfold nrE plaE
              rw [if_neg hm, hbx, hby, if_neg hok]
            unfold nrV at h
            rw [he, if_neg (by decide)] at h
            exact h)
          clear NR0 hm
          cases bx with
          | false =>
            go_wp2_with (first
              | (go_at_call 51; refine EQ.out.mono ?_; rintro e w6 ⟨rfl, hb6⟩; have HB6 := Lib.hid (HBz.out.trans (hb6.mono HBz.out.size)); have AT6 := Lib.hid (blkStay ATz.out hb6); clear hb6; obtain ⟨cA, fA, zA⟩ := blkC AT6.out)
              | (go_at_call 52; refine (NR.out _ HB6.out).mono ?_; rintro e w7 ⟨rfl, hb7⟩; have HB7 := Lib.hid (HB6.out.trans (hb7.mono HB6.out.size)); have AT7 := Lib.hid (blkStay AT6.out hb7); clear hb7 cA fA zA; obtain ⟨cA, fA, zA⟩ := blkC AT7.out))
            go_still_tail 15, (by kernel_rfl)
            still_call ((WH.out _ _ _).mono fun _ _ h => ⟨h.1, h.2.symm⟩)
            repeat still_step
            still_call ((WI.out _ _ _ _).mono fun _ _ h => ⟨h.1, h.2.symm⟩)
            repeat still_step
            still_call ((WH.out _ _ _).mono fun _ _ h => ⟨h.1, h.2.symm⟩)
            repeat still_step
            refine wpStill_nil ?_
            change wpList _ _ _ _ _ w7.drew
            go_wp2_with (first
            | (go_at_call 53; (with_reducible refine Calls.mono (WI.out _ _ _ _) ?_); rintro e w' ⟨rfl, rfl⟩)
            | (go_at_call 44; (with_reducible refine Calls.mono (WH.out _ _ _) ?_); rintro e w' ⟨rfl, rfl⟩)
            | (go_at_call 42; (with_reducible refine Calls.mono (FI.out _ _ _ _ (hDrew (heap_alloc_new w7 _))) ?_); rintro e w' ⟨rfl, rfl⟩))
            go_ret
            exact ⟨rfl, HB7.out.trans (Below.mono (by repeat (first | exact Below.refl _ _ | refine Below.alloc ?_ (by first | omega | (simp; done) | (simp; omega)) _ | refine Below.setCell ?_ (by first | omega | (simp; done) | (simp; omega)) _ | refine Below.drew ?_)) HB7.out.size)⟩
          | true =>
            cases by' with
            | true => exact absurd ⟨rfl, rfl⟩ hok
            | false =>
            clear hok
            go_wp2_with (first
              | (go_at_call 51; refine EQ.out.mono ?_; rintro e w6 ⟨rfl, hb6⟩; have HB6 := Lib.hid (HBz.out.trans (hb6.mono HBz.out.size)); have AT6 := Lib.hid (blkStay ATz.out hb6); clear hb6; obtain ⟨cA, fA, zA⟩ := blkC AT6.out)
              | (go_at_call 52; refine (NR.out _ HB6.out).mono ?_; rintro e w7 ⟨rfl, hb7⟩; have HB7 := Lib.hid (HB6.out.trans (hb7.mono HB6.out.size)); have AT7 := Lib.hid (blkStay AT6.out hb7); clear hb7 cA fA zA; obtain ⟨cA, fA, zA⟩ := blkC AT7.out))
            go_still_tail 15, (by kernel_rfl)
            still_call ((WH.out _ _ _).mono fun _ _ h => ⟨h.1, h.2.symm⟩)
            repeat still_step
            still_call ((WI.out _ _ _ _).mono fun _ _ h => ⟨h.1, h.2.symm⟩)
            repeat still_step
            still_call ((WI.out _ _ _ _).mono fun _ _ h => ⟨h.1, h.2.symm⟩)
            repeat still_step
            still_call ((WH.out _ _ _).mono fun _ _ h => ⟨h.1, h.2.symm⟩)
            repeat still_step
            refine wpStill_nil ?_
            change wpList _ _ _ _ _ w7.drew
            go_wp2_with (first
            | (go_at_call 53; (with_reducible refine Calls.mono (WI.out _ _ _ _) ?_); rintro e w' ⟨rfl, rfl⟩)
            | (go_at_call 44; (with_reducible refine Calls.mono (WH.out _ _ _) ?_); rintro e w' ⟨rfl, rfl⟩)
            | (go_at_call 42; (with_reducible refine Calls.mono (FI.out _ _ _ _ (hDrew (heap_alloc_new w7 _))) ?_); rintro e w' ⟨rfl, rfl⟩))
            go_ret
            exact ⟨rfl, HB7.out.trans (Below.mono (by repeat (first | exact Below.refl _ _ | refine Below.alloc ?_ (by first | omega | (simp; done) | (simp; omega)) _ | refine Below.setCell ?_ (by first | omega | (simp; done) | (simp; omega)) _ | refine Below.drew ?_)) HB7.out.size)⟩
end Go.Proofs.Ytkjpjppfmfifeaa

/- CountsMatch's law: where kinds or plants are wrong, and all together. -/
namespace Go.Proofs.Ytkjpjppfmfifeaa
open Go.RowKit Fl
set_option linter.unusedVariables false

set_option maxHeartbeats 2000000 in
theorem count_err (a : Option Addr) (n cap : Nat) (a2 : Option Addr) (m cap2 : Nat) (er : Int) (w : World) (he : er ≠ 0)
    (CK : ∀ w', Below w.heap.size w w' → Calls Try.prog 102 #[.slice a n cap, .slice a2 m cap2] w' fun e w2 => e = .returned (.int .i64 er) ∧ Below w'.heap.size w' w2) :
    Calls Try.prog 49 #[.slice a n cap, .slice a2 m cap2] w fun e w' => e = .returned (.tuple #[.slice none 0 0, .int .i64 er]) ∧ Below w.heap.size w w' := by
  have C0 := Lib.hid CK
  have cz : (er != 0) = true := by simp [he]
  clear CK he
  go_enter Try.func49, Try.ntmps49
  go_wp2_with (go_at_call 102; refine (C0.out _ (Below.refl _ _)).mono ?_; rintro e w1 ⟨rfl, hb1⟩)
  go_ret2
  exact ⟨rfl, hb1⟩

set_option maxHeartbeats 4000000 in
set_option maxRecDepth 100000 in
theorem countsErr (a : Option Addr) (n cap : Nat) (a2 : Option Addr) (m cap2 : Nat) (er : Int) (ax ay : Int) (w : World) (he : er ≠ 0)
    (CT : ∀ w', Below w.heap.size w w' → Calls Try.prog 49 #[.slice a n cap, .slice a2 m cap2] w' fun e w2 => e = .returned (.tuple #[.slice none 0 0, .int .i64 er]) ∧ Below w'.heap.size w' w2)
    (QE : ∀ w', Below w.heap.size w w' → Calls Try.prog 50 #[.slice a n cap, .slice a2 m cap2] w' fun e w2 => e = .returned (.int .i64 er) ∧ Below w'.heap.size w' w2) :
    Calls Try.prog 8 #[.slice a n cap, .slice a2 m cap2, potV ax ay] w fun e w' => e = .returned (.bool true) ∧ Below w.heap.size w w' := by
  have C0 := Lib.hid CT
  have Q0 := Lib.hid QE
  have cz : (er != 0) = true := by simp [he]
  have hbA := (show Below w.heap.size w (w.alloc (potO ax ay)) from (by repeat (first | exact Below.refl _ _ | refine Below.alloc ?_ (by first | omega | (simp; done) | (simp; omega)) _ | refine Below.setCell ?_ (by first | omega | (simp; done) | (simp; omega)) _ | refine Below.drew ?_)))
  have HBA := Lib.hid hbA
  clear CT QE hbA he
  go_enter Try.func8, Try.ntmps8
  go_wp2_with (first
    | (go_at_call 49; refine (C0.out _ HBA.out).mono ?_; rintro e w1 ⟨rfl, hb1⟩; have HB1 := Lib.hid (HBA.out.trans (hb1.mono HBA.out.size)); clear hb1)
    | (go_at_call 50; refine (Q0.out _ HB1.out).mono ?_; rintro e w2 ⟨rfl, hb2⟩; have HB2 := Lib.hid (HB1.out.trans (hb2.mono HB1.out.size)); clear hb2)
    | (go_at_call 36; refine (grows_any w2).mono ?_; rintro e w3 ⟨rfl, hb3⟩; have HB3 := Lib.hid (HB2.out.trans (hb3.mono HB2.out.size)); clear hb3)
    | (go_at_call 36; refine (grows_any w3).mono ?_; rintro e w4 ⟨rfl, hb4⟩; have HB4 := Lib.hid (HB3.out.trans (hb4.mono HB3.out.size)); clear hb4))
  go_ret
  exact ⟨rfl, HB4.out⟩

theorem countsMatch_any (a : Option Addr) (n cap : Nat) (K : Nat → Knd) (a2 : Option Addr) (m cap2 : Nat) (P : Nat → Plt) (ax ay : Int) (w : World) (L : KndL w a n K) (hn : n ≤ cap) (hcap : cap ≤ 9223372036854775807) (hs : ∀ i, i < n → (K i).name.size ≤ 9223372036854775807)
    (L2 : PltL w a2 m P) (hm : m ≤ cap2) (hcap2 : cap2 ≤ 9223372036854775807) (wf : ∀ i, i < m → (P i).sz < 4294967296) :
    Calls Try.prog 8 #[.slice a n cap, .slice a2 m cap2, potV ax ay] w fun e w' => e = .returned (.bool true) ∧ Below w.heap.size w w' := by
  obtain ⟨ek, E⟩ := lstE_ex (kndS K) n
  obtain ⟨er, E2⟩ := lstE_ex (pltS n K P) m
  have CK := fun W' (hb : Below w.heap.size w W') => checkPlants_any a n cap K ek a2 m cap2 P er W' (L.stay hb) hn hcap hs E (L2.stay hb) (by omega) E2
  have QE := fun W' (hb : Below w.heap.size w W') => qPlantsError_any a n cap K ek a2 m cap2 P er W' (L.stay hb) hn hcap hs E (L2.stay hb) (by omega) E2
  by_cases hz : pltsE (kndsE n ek) m er = 0
  · have R := right_of E E2 hz wf
    rw [hz] at CK QE
    exact countsOk a n cap K a2 m cap2 P ax ay w R L L2 (fun W' hb => count_ok a n cap K a2 m cap2 P W' R (L.stay hb) (L2.stay hb) (fun W2 hb2 => CK W2 (hb.trans (hb2.mono hb.size)))) QE
  · exact countsErr a n cap a2 m cap2 _ ax ay w hz (fun W' hb => count_err a n cap a2 m cap2 _ W' hz (fun W2 hb2 => CK W2 (hb.trans (hb2.mono hb.size)))) QE
end Go.Proofs.Ytkjpjppfmfifeaa

/- A field that came in, opened: four integers, and a slice of singles that is empty or known cell by cell. -/
namespace Go.Proofs.Ytkjpjppfmfifeaa
open Go.ChangeShapes Go.WideShapes Go.ChangeAt Go.RowKit Go.Joins Fl

section
variable {H : Type} {enc : TypeId × Value → H} {w : World} {base : Nat} {spare : Nat → Bool} {held : Bool}

theorem trod_f32 {P : Program} {t : TypeId} {fuel : Nat} {v : Value} {y : DataW H × List MemPlace} (ht : P.underlying t = some (.float .f32)) (h : DataW.trod enc P w base spare held fuel t [v] = some y) : ∃ b, v = .float .f32 b ∧ b < 4294967296 := by
  cases fuel with
  | zero => simp [DataW.trod] at h
  | succ n =>
    unfold DataW.trod at h
    rw [ht] at h
    cases v <;> simp at h
    rename_i k b
    obtain ⟨⟨rfl, hw⟩, _⟩ := h
    exact ⟨b, rfl, by simpa [Lit.wf] using hw⟩

theorem array5 {α : Type} {cs : Array α} (h : cs.size = 5) : ∃ c0 c1 c2 c3 c4, cs = #[c0, c1, c2, c3, c4] := by
  obtain ⟨l⟩ := cs
  match l, h with
  | [c0, c1, c2, c3, c4], _ => exact ⟨c0, c1, c2, c3, c4, rfl⟩

theorem flAt_congr' {w w' : World} {b off n : Nat} {f : Nat → Nat} (h : FlAt w b off n f) (e : w'.heap[b]? = w.heap[b]?) : FlAt w' b off n f := fun i hi => by
  rw [← h i hi]; exact World.cell?_of_block (w := w) (a := ⟨b, off + i, none⟩) e

/-- What a slice of singles is: empty, or known cell by cell. -/
def SlF (w : World) (s : Value) : Prop :=
  (∃ a cap, s = .slice a 0 cap) ∨ ∃ b off len cap x, s = .slice (some ⟨b, off, none⟩) len cap ∧ 0 < len ∧ len ≤ 9223372036854775807 ∧ FlAt w b off len x ∧ wf32 len x

theorem open_singles {t e : TypeId} {fuel : Nat} {cs : List Value} {y : DataW H × List MemPlace} (ht : Try.prog.underlying t = some (.slice e)) (he : Try.prog.underlying e = some (.float .f32)) (hc : Try.prog.cellsOf e = 1)
    (h : DataW.trod enc Try.prog w base spare held fuel t cs = some y) : ∃ s, cs = [s] ∧ SlF w s := by
  rcases Go.Deep.open_slice1 ht hc h with ⟨rfl, _⟩ | ⟨a, len, cap, m, n, V, D, Pl, rfl, hb, hl, hm, hmm, _, hx⟩
  · exact ⟨_, rfl, .inl ⟨none, 0, rfl⟩⟩
  · refine ⟨_, rfl, ?_⟩
    rcases Nat.eq_zero_or_pos len with z | z
    · subst z; exact .inl ⟨_, _, rfl⟩
    · have hlm : len ≤ m := by rw [hmm]; split <;> omega
      have h0 := (hx 0 (by omega)).1
      obtain ⟨b, off, spot⟩ := a
      have hspot : spot = none := by simpa [Addr.add] using World.cell?_spot h0
      subst hspot
      have hv : ∀ i, i < len → ∃ x, V i = .float .f32 x ∧ x < 4294967296 := fun i hi => trod_f32 he (hx i (by omega)).2
      refine .inr ⟨b, off, len, cap, fun i => match V i with | .float _ x => x | _ => 0, rfl, z, ?_, fun i hi => ?_, fun i hi => ?_⟩
      · exact Nat.le_trans hl (Nat.le_trans hm (by decide))
      · have h1 := (hx i (by omega)).1
        obtain ⟨x, e1, _⟩ := hv i hi
        rw [← Go.WideShapes.add_plain, h1]
        simp only [e1]
      · obtain ⟨x, e1, e2⟩ := hv i hi
        simp only [e1]; exact e2

theorem cellsF : Try.prog.cellsOf 26 = 5 := by kernel_rfl
theorem cellsR : Try.prog.cellsOf 23 = 4 := by kernel_rfl
theorem cellsS : Try.prog.cellsOf 24 = 1 := by kernel_rfl
theorem cells1 : Try.prog.cellsOf 30 = 1 := by kernel_rfl
theorem cellsI : Try.prog.cellsOf 3 = 1 := by kernel_rfl

set_option maxRecDepth 100000 in
theorem open_field {r : Reach} {b0 : Nat} {v : Value} {d : DataW H} {p : List MemPlace} (hv : Value.okWide Try.prog w r b0 26 v) (h : DataW.Trod enc Try.prog w base spare held 26 v d p) :
    ∃ X Y W' H' : Int, ∃ s, v = fldV X Y W' H' s ∧ SlF w s := by
  obtain ⟨cs, rfl, hsz⟩ := okWide_struct Try.underlying26 hv
  obtain ⟨c0, c1, c2, c3, c4, rfl⟩ := array5 (hsz.trans cellsF)
  obtain ⟨fuel, hf⟩ := h
  obtain ⟨y0, y1, n, _, _, h0, h1⟩ := trod_struct2 Try.underlying26 hf
  rw [cellsR] at h0
  rw [cellsS] at h1
  obtain ⟨s, e4, hs⟩ := open_singles Try.underlying24 Try.underlying30 cells1 h1
  obtain ⟨z0, z1, z2, z3, n2, _, _, g0, g1, g2, g3⟩ := trod_struct4 Try.underlying23 h0
  rw [cellsI] at g0 g1 g2 g3
  obtain ⟨x0, e0, _, _⟩ := DataW.trod_int Try.underlying3 g0
  obtain ⟨x1, e1, _, _⟩ := DataW.trod_int Try.underlying3 g1
  obtain ⟨x2, e2, _, _⟩ := DataW.trod_int Try.underlying3 g2
  obtain ⟨x3, e3, _, _⟩ := DataW.trod_int Try.underlying3 g3
  simp [Value.cells] at e0 e1 e2 e3 e4
  subst e0 e1 e2 e3 e4
  exact ⟨x0, x1, x2, x3, _, rfl, hs⟩
end

theorem SlF.stay {w w' : World} {s : Value} (h : SlF w s) (hb : Below w.heap.size w w') : SlF w' s := by
  rcases h with h | ⟨b, off, len, cap, x, rfl, h1, h2, h3, h4⟩
  · exact .inl h
  · exact .inr ⟨b, off, len, cap, x, rfl, h1, h2, flAt_congr' h3 (hb.block _ (World.block_lt_of_cell? w _ (h3 0 h1))), h4⟩

/-- fit, of whatever slice. -/
theorem fit_any {X Y W H : Int} {s : Value} {w : World} (h : SlF w s) : Calls Try.prog 10 #[fldV X Y W H s] w (FitPost w) := by
  rcases h with ⟨a, cap, rfl⟩ | ⟨b, off, len, cap, x, rfl, h1, h2, h3, h4⟩
  · exact fit_none X Y W H a cap w
  · exact fit_some X Y W H b off len cap x w h1 h2 h3 h4

theorem laidOut : laidOutB Try.prog = true := by kernel_rfl
end Go.Proofs.Ytkjpjppfmfifeaa

/- Kinds that came in, opened: one, and a list. -/
namespace Go.Proofs.Ytkjpjppfmfifeaa
open Go.ChangeShapes Go.WideShapes Go.ChangeAt Go.RowKit Go.Joins Go.Deep Fl

section
variable {H : Type} {enc : TypeId × Value → H} {w : World} {base : Nat} {spare : Nat → Bool} {held : Bool}

theorem cellsK : Try.prog.cellsOf 62 = 13 := by kernel_rfl
theorem cellsStr : Try.prog.cellsOf 9 = 1 := by kernel_rfl
theorem trod_fieldAt {P : Program} {t : TypeId} {fs : Array Go.Field} {fuel : Nat} {cs : List Value} {x : DataW H × List MemPlace} (ht : P.underlying t = some (.struct fs)) (h : DataW.trod enc P w base spare held fuel t cs = some x) :
    ∃ n, ∀ (i : Nat) (ty : TypeId) (off : Nat), (fs[i]?).map (fun (f : Go.Field) => (f.type, f.offset)) = some (ty, off) → ∃ y, DataW.trod enc P w base spare held n ty ((cs.drop off).take (P.cellsOf ty)) = some y := by
  obtain ⟨xs, n, _, rfl, _, hlen, hf⟩ := DataW.trod_struct ht h
  refine ⟨n, fun i ty off e => ?_⟩
  cases hfi : fs[i]? with
  | none => rw [hfi] at e; cases e
  | some f =>
    rw [hfi] at e
    simp only [Option.map_some, Option.some.injEq, Prod.mk.injEq] at e
    obtain ⟨rfl, rfl⟩ := e
    have hi : i < fs.size := by rw [Array.getElem?_eq_some_iff] at hfi; exact hfi.1
    have hx : i < xs.length := by omega
    exact ⟨xs[i], by rw [hf i f hfi, List.getElem?_eq_getElem hx]⟩
theorem trod_f32at {fuel i : Nat} {cs : List Value} {v : Value} {y : DataW H × List MemPlace} (h : DataW.trod enc Try.prog w base spare held fuel 30 ((cs.drop i).take 1) = some y) (hv : cs[i]? = some v) : ∃ s, v = .float .f32 s ∧ s < 4294967296 := by
  have e : (cs.drop i).take 1 = [v] := by
    have hi : i < cs.length := by rw [List.getElem?_eq_some_iff] at hv; exact hv.1
    rw [List.drop_eq_getElem_cons hi]
    rw [List.getElem?_eq_getElem hi] at hv
    simp only [List.take_succ_cons, List.take_zero, Option.some.inj hv]
  rw [e] at h
  exact trod_f32 Try.underlying30 h
theorem take_at {α : Type} {cs : List α} {i : Nat} {v : α} (hv : cs[i]? = some v) : (cs.drop i).take 1 = [v] := by
  have hi : i < cs.length := by rw [List.getElem?_eq_some_iff] at hv; exact hv.1
  rw [List.drop_eq_getElem_cons hi]
  rw [List.getElem?_eq_getElem hi] at hv
  simp only [List.take_succ_cons, List.take_zero, Option.some.inj hv]

/-- A right kind: its name is a text of the machine, its singles are words. -/
structure KndWf (k : Knd) : Prop where
  name : k.name.size ≤ 9223372036854775807
  f : wf32 10 k.f

set_option maxRecDepth 100000 in
theorem open_kcells {n : Nat} {cs : List Value} {y : DataW H × List MemPlace} (hl : cs.length = 13) (h : DataW.trod enc Try.prog w base spare held n 62 cs = some y) :
    ∃ k : Knd, cs = k.cells.toList ∧ KndWf k := by
  obtain ⟨m, G⟩ := trod_fieldAt Try.underlying62 h
  match cs, hl with
  | [c0, c1, c2, c3, c4, c5, c6, c7, c8, c9, c10, c11, c12], _ =>
      obtain ⟨y0, g0⟩ := G 0 9 0 rfl
      obtain ⟨y1, g1⟩ := G 1 30 1 rfl
      obtain ⟨y2, g2⟩ := G 2 30 2 rfl
      obtain ⟨y3, g3⟩ := G 3 30 3 rfl
      obtain ⟨y4, g4⟩ := G 4 30 4 rfl
      obtain ⟨y5, g5⟩ := G 5 30 5 rfl
      obtain ⟨y6, g6⟩ := G 6 30 6 rfl
      obtain ⟨y7, g7⟩ := G 7 30 7 rfl
      obtain ⟨y8, g8⟩ := G 8 30 8 rfl
      obtain ⟨y9, g9⟩ := G 9 30 9 rfl
      obtain ⟨y10, g10⟩ := G 10 30 10 rfl
      obtain ⟨y11, g11⟩ := G 11 3 11 rfl
      obtain ⟨y12, g12⟩ := G 12 3 12 rfl
      rw [cellsStr] at g0
      rw [cells1] at g1 g2 g3 g4 g5 g6 g7 g8 g9 g10
      rw [cellsI] at g11 g12
      obtain ⟨s, e0, _, hs⟩ := DataW.trod_string Try.underlying9 g0
      obtain ⟨f1, rfl, b1⟩ := trod_f32at (i := 1) g1 rfl
      obtain ⟨f2, rfl, b2⟩ := trod_f32at (i := 2) g2 rfl
      obtain ⟨f3, rfl, b3⟩ := trod_f32at (i := 3) g3 rfl
      obtain ⟨f4, rfl, b4⟩ := trod_f32at (i := 4) g4 rfl
      obtain ⟨f5, rfl, b5⟩ := trod_f32at (i := 5) g5 rfl
      obtain ⟨f6, rfl, b6⟩ := trod_f32at (i := 6) g6 rfl
      obtain ⟨f7, rfl, b7⟩ := trod_f32at (i := 7) g7 rfl
      obtain ⟨f8, rfl, b8⟩ := trod_f32at (i := 8) g8 rfl
      obtain ⟨f9, rfl, b9⟩ := trod_f32at (i := 9) g9 rfl
      obtain ⟨f10, rfl, b10⟩ := trod_f32at (i := 10) g10 rfl
      obtain ⟨x11, e11, _, _⟩ := DataW.trod_int Try.underlying3 g11
      obtain ⟨x12, e12, _, _⟩ := DataW.trod_int Try.underlying3 g12
      simp at e0 e11 e12
      subst e0 e11 e12
      refine ⟨⟨s, f1, f2, f3, f4, f5, f6, f7, f8, f9, f10, x11, x12⟩, rfl, Nat.le_trans hs (by decide), fun i hi => ?_⟩
      have : i = 0 ∨ i = 1 ∨ i = 2 ∨ i = 3 ∨ i = 4 ∨ i = 5 ∨ i = 6 ∨ i = 7 ∨ i = 8 ∨ i = 9 := by omega
      rcases this with rfl | rfl | rfl | rfl | rfl | rfl | rfl | rfl | rfl | rfl <;> assumption

theorem open_kinds {fuel : Nat} {cs : List Value} {y : DataW H × List MemPlace} (h : DataW.trod enc Try.prog w base spare held fuel 59 cs = some y) :
    ∃ a len cap K, cs = [.slice a len cap] ∧ len ≤ cap ∧ cap ≤ 9223372036854775807 ∧ KndL w a len K ∧ ∀ i, i < len → KndWf (K i) := by
  rcases open_slice Try.underlying59 h with ⟨rfl, _⟩ | ⟨a, len, cap, m, n, D, Pl, rfl, hb, hl, hm, hmm, _, hx⟩
  · exact ⟨none, 0, 0, fun _ => kndZ, rfl, by omega, by omega, .inl rfl, fun i hi => by omega⟩
  · have hlm : len ≤ m := by rw [hmm]; split <;> omega
    have hcap : cap ≤ 9223372036854775807 := Nat.le_trans hm (by decide)
    rcases Nat.eq_zero_or_pos len with z | z
    · subst z; exact ⟨some a, 0, cap, fun _ => kndZ, rfl, by omega, hcap, .inl rfl, fun i hi => by omega⟩
    · have each : ∀ i, i < len → ∃ k : Knd, (∀ j, j < 13 → w.cell? (a.add (i * 13 + j)) = k.cells[j]?) ∧ KndWf k := by
        intro i hi
        obtain ⟨cs', h1, h2⟩ := hx i (by omega)
        rw [cellsK] at h1
        obtain ⟨_, hlen, hcell⟩ := World.cells?_some h1
        obtain ⟨k, rfl, hk⟩ := open_kcells hlen h2
        refine ⟨k, fun j hj => ?_, hk⟩
        have e := hcell j (by omega)
        rw [add_add] at e
        rw [e, Array.getElem?_toList]
      haveI : Inhabited Knd := ⟨kndZ⟩
      obtain ⟨q, hq⟩ := choose_lt each
      obtain ⟨b, off, spot⟩ := a
      have h0 := (hq 0 z).1 0 (by omega)
      have hspot : spot = none := by simpa [Addr.add] using World.cell?_spot h0
      subst hspot
      refine ⟨some ⟨b, off, none⟩, len, cap, q, rfl, hl, hcap, .inr ⟨b, off, rfl, fun i hi j hj => ?_⟩, fun i hi => (hq i hi).2⟩
      have q0 := (hq i hi).1 j hj
      rw [add_plain] at q0
      rw [← q0, Nat.add_assoc]
end
end Go.Proofs.Ytkjpjppfmfifeaa

/- Plants that came in, opened: one, and a list; a place. -/
namespace Go.Proofs.Ytkjpjppfmfifeaa
open Go.ChangeShapes Go.WideShapes Go.ChangeAt Go.RowKit Go.Joins Go.Deep Fl

section
variable {H : Type} {enc : TypeId × Value → H} {w : World} {base : Nat} {spare : Nat → Bool} {held : Bool}

theorem cellsPl : Try.prog.cellsOf 85 = 5 := by kernel_rfl
/-- A right plant: its size is a word. -/
def PltWf (k : Plt) : Prop := k.sz < 4294967296

set_option maxRecDepth 100000 in
theorem open_pcells {n : Nat} {cs : List Value} {y : DataW H × List MemPlace} (hl : cs.length = 5) (h : DataW.trod enc Try.prog w base spare held n 85 cs = some y) :
    ∃ k : Plt, cs = k.cells.toList ∧ PltWf k := by
  obtain ⟨m, G⟩ := trod_fieldAt Try.underlying85 h
  match cs, hl with
  | [c0, c1, c2, c3, c4], _ =>
      obtain ⟨y0, g0⟩ := G 0 3 0 rfl
      obtain ⟨y1, g1⟩ := G 1 3 1 rfl
      obtain ⟨y2, g2⟩ := G 2 3 2 rfl
      obtain ⟨y3, g3⟩ := G 3 30 3 rfl
      obtain ⟨y4, g4⟩ := G 4 3 4 rfl
      rw [cellsI] at g0 g1 g2 g4
      rw [cells1] at g3
      obtain ⟨x0, e0, _, _⟩ := DataW.trod_int Try.underlying3 g0
      obtain ⟨x1, e1, _, _⟩ := DataW.trod_int Try.underlying3 g1
      obtain ⟨x2, e2, _, _⟩ := DataW.trod_int Try.underlying3 g2
      obtain ⟨f3, rfl, b3⟩ := trod_f32at (i := 3) g3 rfl
      obtain ⟨x4, e4, _, _⟩ := DataW.trod_int Try.underlying3 g4
      simp at e0 e1 e2 e4
      subst e0 e1 e2 e4
      exact ⟨⟨x0, x1, x2, f3, x4⟩, rfl, b3⟩

theorem open_plants {fuel : Nat} {cs : List Value} {y : DataW H × List MemPlace} (h : DataW.trod enc Try.prog w base spare held fuel 74 cs = some y) :
    ∃ a len cap K, cs = [.slice a len cap] ∧ len ≤ cap ∧ cap ≤ 9223372036854775807 ∧ PltL w a len K ∧ ∀ i, i < len → PltWf (K i) := by
  rcases open_slice Try.underlying74 h with ⟨rfl, _⟩ | ⟨a, len, cap, m, n, D, Pl, rfl, hb, hl, hm, hmm, _, hx⟩
  · exact ⟨none, 0, 0, fun _ => pltZ, rfl, by omega, by omega, .inl rfl, fun i hi => by omega⟩
  · have hlm : len ≤ m := by rw [hmm]; split <;> omega
    have hcap : cap ≤ 9223372036854775807 := Nat.le_trans hm (by decide)
    rcases Nat.eq_zero_or_pos len with z | z
    · subst z; exact ⟨some a, 0, cap, fun _ => pltZ, rfl, by omega, hcap, .inl rfl, fun i hi => by omega⟩
    · have each : ∀ i, i < len → ∃ k : Plt, (∀ j, j < 5 → w.cell? (a.add (i * 5 + j)) = k.cells[j]?) ∧ PltWf k := by
        intro i hi
        obtain ⟨cs', h1, h2⟩ := hx i (by omega)
        rw [cellsPl] at h1
        obtain ⟨_, hlen, hcell⟩ := World.cells?_some h1
        obtain ⟨k, rfl, hk⟩ := open_pcells hlen h2
        refine ⟨k, fun j hj => ?_, hk⟩
        have e := hcell j (by omega)
        rw [add_add] at e
        rw [e, Array.getElem?_toList]
      haveI : Inhabited Plt := ⟨pltZ⟩
      obtain ⟨q, hq⟩ := choose_lt each
      obtain ⟨b, off, spot⟩ := a
      have h0 := (hq 0 z).1 0 (by omega)
      have hspot : spot = none := by simpa [Addr.add] using World.cell?_spot h0
      subst hspot
      refine ⟨some ⟨b, off, none⟩, len, cap, q, rfl, hl, hcap, .inr ⟨b, off, rfl, fun i hi j hj => ?_⟩, fun i hi => (hq i hi).2⟩
      have q0 := (hq i hi).1 j hj
      rw [add_plain] at q0
      rw [← q0, Nat.add_assoc]

theorem cellsPt : Try.prog.cellsOf 76 = 2 := by kernel_rfl
set_option maxRecDepth 100000 in
theorem open_point {r : Reach} {b0 : Nat} {v : Value} {d : DataW H} {p : List MemPlace} (hv : Value.okWide Try.prog w r b0 76 v) (h : DataW.Trod enc Try.prog w base spare held 76 v d p) :
    ∃ x y : Int, v = potV x y := by
  obtain ⟨cs, rfl, hsz⟩ := okWide_struct Try.underlying76 hv
  have h3 : cs.size = 2 := hsz.trans cellsPt
  obtain ⟨c0, c1, rfl⟩ : ∃ c0 c1, cs = #[c0, c1] := by
    obtain ⟨l⟩ := cs
    match l, h3 with
    | [c0, c1], _ => exact ⟨c0, c1, rfl⟩
  obtain ⟨fuel, hf⟩ := h
  obtain ⟨n, G⟩ := trod_fieldAt Try.underlying76 hf
  obtain ⟨y0, g0⟩ := G 0 3 0 rfl
  obtain ⟨y1, g1⟩ := G 1 3 1 rfl
  rw [cellsI] at g0 g1
  obtain ⟨x0, e0, _, _⟩ := DataW.trod_int Try.underlying3 g0
  obtain ⟨x1, e1, _, _⟩ := DataW.trod_int Try.underlying3 g1
  simp [Value.cells] at e0 e1
  subst e0 e1
  exact ⟨x0, x1, rfl⟩
end
end Go.Proofs.Ytkjpjppfmfifeaa

/- CountsMatch, for every list of kinds, every list of plants and every place: Count and Nearest answer as the law reckons. No condition. -/
namespace Go.Proofs.Ytkjpjppfmfifeaa.countsMatch
open Go.ChangeShapes Go.WideShapes Go.ChangeAt Go.RowKit Go.Joins
set_option linter.unusedVariables false

theorem own : ownKnob Try.prog.godebug = none := by kernel_rfl

set_option maxRecDepth 100000 in
theorem lifted (os : Os) (started : os.Started) (H : Type) (enc : TypeId × Value → H) :
    ReturnsInHanded {} Try.checked os 8 .any (Rows.countsMatchSpec.pre6 enc Try.prog Try.f8 Rows.countsMatchRow.domain false) (Rows.countsMatchSpec.post enc Try.prog Try.f8 false true false false) := by
  refine returnsInHanded_of_change (C := Try.checked) own started (by kernel_rfl) Try.func8
    (ChangeSpec.witness6 (enc := enc) (C := Try.checked) false ⟨#[], #[.slice none 0 0, .slice none 0 0, potV 0 0], []⟩ 8 (by kernel_rfl) (by kernel_rfl) (by kernel_rfl) (by kernel_rfl)) ?_
  intro W base args ds gs before hval0 hW hcnd _
  have hval : ∀ (j : Nat) t v, Try.f8.params[j]? = some t → args[j]? = some v → Value.okWide Try.prog W .any base t v := hval0
  have hW' := hW
  have hplt : ∀ x ∈ before, x.block < W.heap.size := fun x hx => by simpa using hW'.lt x hx
  obtain ⟨p, q, hA0, hV, rfl, hfz, hnd⟩ := hW
  have hA : DataW.TrodAll enc Try.prog W 0 (fun _ => true) true Try.f8.params.toList args.toList ds p := hA0
  rw [Try.params8] at hA hval
  obtain ⟨v0, vs0, d0, ds0, p0, q0, hargs, rfl, rfl, h0, r0⟩ := trodAll_cons hA
  obtain ⟨v1, vs1, d1, ds1, p1, q1, rfl, rfl, rfl, h1, r1⟩ := trodAll_cons r0
  obtain ⟨v2, vs2, d2, ds2, p2, q2, rfl, rfl, rfl, h2, r2⟩ := trodAll_cons r1
  obtain ⟨rfl, rfl, rfl⟩ := trodAll_nil r2
  obtain rfl : args = #[v0, v1, v2] := by cases args; simp_all
  obtain ⟨rfl, rfl⟩ := trodVars_none hV
  obtain ⟨a0, len0, cap0, rfl⟩ := okWide_slice Try.underlying59 (hval 0 59 v0 rfl rfl)
  have h0' := h0
  obtain ⟨fuel, hf⟩ := h0'
  obtain ⟨a, len, cap, K, hcs, hlen, hcap, L, wk⟩ := open_kinds hf
  have hcs' : a0 = a ∧ len0 = len ∧ cap0 = cap := by simpa [Value.cells] using hcs
  obtain ⟨rfl, rfl, rfl⟩ := hcs'
  obtain ⟨a1, len1, cap1, rfl⟩ := okWide_slice Try.underlying74 (hval 1 74 v1 rfl rfl)
  have h1' := h1
  obtain ⟨fuel1, hf1⟩ := h1'
  obtain ⟨b, lenb, capb, P, hcs1, hlen1, hcap1, L1, wp⟩ := open_plants hf1
  have hcs1' : a1 = b ∧ len1 = lenb ∧ cap1 = capb := by simpa [Value.cells] using hcs1
  obtain ⟨rfl, rfl, rfl⟩ := hcs1'
  obtain ⟨ax, ay, rfl⟩ := open_point (hval 2 76 v2 rfl rfl) h2
  have hlt : ∀ x ∈ p0, x.block < W.heap.size := fun x hx => hplt x (by simp [hx])
  have hlt1 : ∀ x ∈ p1, x.block < W.heap.size := fun x hx => hplt x (by simp [hx])
  have hlt2 : ∀ x ∈ p2, x.block < W.heap.size := fun x hx => hplt x (by simp [hx])
  clear hA0 hval0 hplt
  simp only [List.append_nil] at hW'
  refine (countsMatch_any a0 len0 cap0 K a1 len1 cap1 P ax ay W L hlen hcap (fun i hi => (wk i hi).name) L1 hlen1 hcap1 wp).mono fun e W' ⟨he, hb⟩ => ?_
  subst he
  exact ⟨_, rfl, _, _, _, [], _, [], hW', trodAll_cons_mk (shut_bool Try.underlying4 _) trodAll_mk0, trodAll_cons_mk (Below.trod laidOut (by kernel_rfl) (of_decide_eq_true (by kernel_rfl)) h0 hb hlt) (trodAll_cons_mk (Below.trod laidOut (by kernel_rfl) (of_decide_eq_true (by kernel_rfl)) h1 hb hlt1) (trodAll_cons_mk (Below.trod laidOut (by kernel_rfl) (of_decide_eq_true (by kernel_rfl)) h2 hb hlt2) trodAll_mk0)), rfl, hb.frame _, fun h => by cases h⟩

theorem over : Rows.countsMatchRow.holds Try.pinned (OpenSpec.ofChange Rows.countsMatchSpec) :=
  OpenClaim.holds_of_wide 8 Try.f8 rfl rfl rfl rfl rfl rfl rfl ⟨rfl, rfl, rfl, rfl, rfl⟩ rfl rfl rfl rfl rfl (by kernel_rfl) Try.func8 (by kernel_rfl)
    (of_decide_eq_true (by kernel_rfl)) (by unfold Func.isWrapper; rw [if_neg (of_decide_eq_false (by kernel_rfl))]; exact ⟨rfl, rfl⟩)
    (fun os started H enc _ => lifted os started H enc)

theorem proved : Rows.CountsMatchSaid :=
  over
#print axioms proved
end Go.Proofs.Ytkjpjppfmfifeaa.countsMatch
