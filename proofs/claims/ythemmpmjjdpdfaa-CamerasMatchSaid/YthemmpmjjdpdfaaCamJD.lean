/- CamerasMatch, for every camera and every three singles: Project answers as the reference does. No condition. -/
import Derived.Test.YthemmpmjjdpdfaaCamJC
import Derived.ProofKit
import Derived.OpenShut
import Derived.Lib.SmallJoins
import Derived.Laws.Cover2
import Derived.Deep.Slices
import Derived.WalkLawsBesides

/- CamerasMatch, walked. -/
namespace Go.Proofs.Ythemmpmjjdpdfaa
open Go.RowKit Fl
set_option linter.unusedVariables false

set_option maxHeartbeats 1000000 in
theorem eql_spot (s t x y : Nat) (h1 : (FloatKind.f32.format.order s t == some .eq) = true) (h2 : (FloatKind.f32.format.order x y == some .eq) = true) (w : World) :
    (binOp .eql 126 (.agg #[.float .f32 s, .float .f32 x]) (.agg #[.float .f32 t, .float .f32 y])).run Try.prog w = .ok (.bool true) w := by
  have hS : Try.prog.underlying 126 = some (.struct (Try.prog.fieldsOf 126)) := by kernel_rfl
  have hp : Try.prog.stoodInHeld 126 = false := by kernel_rfl
  rw [run_eql_struct, show (10000 : Nat) = 9999 + 1 from rfl, run_equalIn_agg w 9999 126 _ _ hS hp]
  simp only [Program.fieldsOf, Try.underlying126]
  go_simp
  have f : ∀ (d u v : Nat) (W : World), (Op.equalIn (d + 1) 27 (.float .f32 u) (.float .f32 v)).run Try.prog W = .ok (FloatKind.f32.format.order u v == some .eq) W := fun d u v W => by
    simp [Op.equalIn, run_underlying Try.underlying27, Op.floatEq]
  have g : ∀ (u v : Nat) (W : World), (Op.equalIn 9999 27 (.float .f32 u) (.float .f32 v)).run Try.prog W = .ok (FloatKind.f32.format.order u v == some .eq) W := fun u v W => f 9998 u v W
  rw [g]
  simp only [Result.andThen_ok]
  rw [h1, if_neg (by simp), g]
  simp only [Result.andThen_ok]
  rw [h2]
  rfl
theorem zero_self : (FloatKind.f32.format.order 0 0 == some .eq) = true := by decide

def PjOk (c : Cam) (x y hz sx sy a : Nat) (is : Bool) (er : Int) : Prop := ∀ w, Calls Try.prog 76 #[.agg c.vs, .float .f32 x, .float .f32 y, .float .f32 hz] w (PjPost w sx sy a is er)
def PoOk (c : Cam) (x y hz sx sy a : Nat) (is : Bool) : Prop := ∀ w, Calls Try.prog 78 #[.agg c.vs, .float .f32 x, .float .f32 y, .float .f32 hz] w (PoPost w sx sy a is)
def CeOk (c : Cam) (er : Int) : Prop := ∀ w, Calls Try.prog 77 #[.agg c.vs] w fun e w' => e = .returned (.int .i64 er) ∧ Below w.heap.size w w'

set_option maxHeartbeats 2000000 in
set_option maxRecDepth 100000 in
theorem camLaw_bad (c : Cam) (x y hz : Nat) (r1 r2 er : Int) (hC : CeOk c r1) (hN : fldE 3 (three x y hz) = r2) (hE : firstE r1 r2 = er) (h1 : er ≠ 0) (hP : PjOk c x y hz 0 0 0 false er) (w : World) :
    Calls Try.prog 12 #[.agg c.vs, .float .f32 x, .float .f32 y, .float .f32 hz] w fun e w' => e = .returned (.bool true) ∧ Below w.heap.size w w' := by
  have PJ := Lib.hid (fun w => hP w)
  have CE := Lib.hid (fun w => hC w)
  have FI := Lib.hid (fun a b p w h => first2_any a b p w h)
  have WR := Lib.hid writes_any
  have NE := Lib.hid (fun p w (h : w.heap[p]? = some (.cells #[.float .f32 x, .float .f32 y, .float .f32 hz] 27)) => qNumberError_row p 0 3 3 (three x y hz) (by omega) w (flAt_three h))
  unfold PjOk at hP
  unfold CeOk at hC
  have ZE := zero_self
  have RS := fun (w : World) (a : Addr) (m : Mode) k b => run_store_float (P := Try.prog) (w := w) (a := a) (m := m) k b
  have h2 : (er != 0) = true := by simpa using h1
  have EQ := fun w => eql_spot 0 0 0 0 ZE ZE w
  rw [hN] at NE
  have HE := Lib.hid hE
  clear hP hC hN hE h1
  go_enter Try.func12, Try.ntmps12
  go_wp2_with (first
    | (go_at_call 76; go_loud ((with_reducible refine (PJ.out _).mono ?_); rintro en w2 ⟨rfl, hb2⟩; have HC2 := Lib.hid (blkStay (b := w.heap.size) (o := .cells c.vs 124) (by (first | (rw [heap_alloc_get, if_pos rfl]; done) | ((simp only [heap_alloc_get, heap_size_alloc, if_true]) <;> ((repeat' split) <;> first | rfl | omega)))) hb2); have HB2 := Lib.hid (show Below w.heap.size w w2 from Below.trans (by repeat (first | exact Below.refl _ _ | refine Below.alloc ?_ (by first | omega | (simp; done) | (simp; omega)) _ | refine Below.setCell ?_ (by first | omega | (simp; done) | (simp; omega)) _ | refine Below.drew ?_)) (Below.mono hb2 (by first | omega | (simp; done) | (simp; omega)))); have HC3 := Lib.hid (show (w2.alloc (.cells #[.float .f32 0, .float .f32 0] 126)).heap[w.heap.size]? = some (.cells c.vs 124) from (heap_alloc_old _ _ (blkC HC2.out).2.2).trans HC2.out); have HP3 := Lib.hid (heap_alloc_new w2 (.cells #[.float .f32 0, .float .f32 0] 126)); have HB3 := Lib.hid (HB2.out.alloc HB2.out.size (.cells #[.float .f32 0, .float .f32 0] 126)); clear hb2; obtain ⟨cC, fC, zC⟩ := blkC HC2.out))
    | (go_at_call 77; (with_reducible refine (CE.out _).mono ?_); rintro en w4 ⟨rfl, hb4⟩; have HC4 := Lib.hid (blkStay HC3.out hb4); have HP4 := Lib.hid (blkStay HP3.out hb4); have HB4 := Lib.hid (HB3.out.trans (hb4.mono HB3.out.size)); clear hb4 cC fC zC)
    | (go_at_call 33; (with_reducible refine (NE.out _ _ (by (first | (rw [heap_alloc_get, if_pos rfl]; done) | ((simp only [heap_alloc_get, heap_size_alloc, if_true]) <;> ((repeat' split) <;> first | rfl | omega))))).mono ?_); rintro en w' ⟨rfl, rfl⟩)
    | (go_at_call 27; (with_reducible refine (FI.out _ _ _ _ (by (first | (rw [heap_alloc_get, if_pos rfl]; done) | ((simp only [heap_alloc_get, heap_size_alloc, if_true]) <;> ((repeat' split) <;> first | rfl | omega))))).mono ?_); rintro en w' ⟨rfl, rfl⟩; rw [HE.out])
    | (go_at_call 54; (with_reducible refine (WR.out _).mono ?_); rintro en w5 ⟨rfl, hb5⟩; have HB5 := Lib.hid (show Below w.heap.size w w5 from (((HB4.out.alloc HB4.out.size _).alloc (by have := HB4.out.size; rw [heap_size_alloc]; omega) _).trans (hb5.mono (by have := HB4.out.size; rw [heap_size_alloc, heap_size_alloc]; omega)))); have HC5 := Lib.hid (blkStay ((heap_alloc_old _ _ (by have := (blkC HC4.out).2.2; rw [heap_size_alloc]; omega)).trans ((heap_alloc_old _ _ (blkC HC4.out).2.2).trans HC4.out)) hb5); have HP5 := Lib.hid (blkStay ((heap_alloc_old _ _ (by have := (blkC HP4.out).2.2; rw [heap_size_alloc]; omega)).trans ((heap_alloc_old _ _ (blkC HP4.out).2.2).trans HP4.out)) hb5); clear hb5; obtain ⟨cC, fC, zC⟩ := blkC HC5.out; obtain ⟨cP, fP, zP⟩ := blkC HP5.out)
    | (go_at_call 54; (with_reducible refine (WR.out _).mono ?_); rintro en w6 ⟨rfl, hb6⟩; have HB6 := Lib.hid (HB5.out.trans (hb6.mono HB5.out.size)); have HP6 := Lib.hid (blkStay HP5.out hb6); clear hb6 cC fC zC cP fP zP; obtain ⟨cP, fP, zP⟩ := blkC HP6.out))
  go_ret
  exact ⟨rfl, HB6.out⟩
set_option maxHeartbeats 2000000 in
set_option maxRecDepth 100000 in
theorem camLaw_far (c : Cam) (x y hz : Nat) (hC : CeOk c 0) (hN : fldE 3 (three x y hz) = 0) (hP : PjOk c x y hz 0 0 0 false 0) (hO : PoOk c x y hz 0 0 0 false) (w : World) :
    Calls Try.prog 12 #[.agg c.vs, .float .f32 x, .float .f32 y, .float .f32 hz] w fun e w' => e = .returned (.bool true) ∧ Below w.heap.size w w' := by
  have PJ := Lib.hid (fun w => hP w)
  have CE := Lib.hid (fun w => hC w)
  have FI := Lib.hid (fun a b p w h => first2_any a b p w h)
  have WR := Lib.hid writes_any
  have NE := Lib.hid (fun p w (h : w.heap[p]? = some (.cells #[.float .f32 x, .float .f32 y, .float .f32 hz] 27)) => qNumberError_row p 0 3 3 (three x y hz) (by omega) w (flAt_three h))
  unfold PjOk at hP
  unfold CeOk at hC
  have ZE := zero_self
  have RS := fun (w : World) (a : Addr) (m : Mode) k b => run_store_float (P := Try.prog) (w := w) (a := a) (m := m) k b
  have HE := Lib.hid (show firstE 0 0 = 0 from rfl)
  have PO := Lib.hid (fun w => hO w)
  unfold PoOk at hO
  rw [hN] at NE
  have EQ := fun w => eql_spot 0 0 0 0 ZE ZE w
  have NB := Lib.hid (fun p w (hh : w.heap[p]? = some (flObj 0)) => qNumberError_row p 0 1 1 (fun _ => 0) (by omega) w (flAt_one_of hh))
  rw [show fldE 1 (fun _ => 0) = 0 from fldE_zero.2 (allB_iff.2 fun _ _ => by show hgtB 0 = true; kernel_rfl)] at NB
  clear hP hC hN hO
  go_enter Try.func12, Try.ntmps12
  go_wp2_with (first
    | (go_at_call 76; go_loud ((with_reducible refine (PJ.out _).mono ?_); rintro en w2 ⟨rfl, hb2⟩; have HC2 := Lib.hid (blkStay (b := w.heap.size) (o := .cells c.vs 124) (by (first | (rw [heap_alloc_get, if_pos rfl]; done) | ((simp only [heap_alloc_get, heap_size_alloc, if_true]) <;> ((repeat' split) <;> first | rfl | omega)))) hb2); have HB2 := Lib.hid (show Below w.heap.size w w2 from Below.trans (by repeat (first | exact Below.refl _ _ | refine Below.alloc ?_ (by first | omega | (simp; done) | (simp; omega)) _ | refine Below.setCell ?_ (by first | omega | (simp; done) | (simp; omega)) _ | refine Below.drew ?_)) (Below.mono hb2 (by first | omega | (simp; done) | (simp; omega)))); have HC3 := Lib.hid (show (w2.alloc (.cells #[.float .f32 0, .float .f32 0] 126)).heap[w.heap.size]? = some (.cells c.vs 124) from (heap_alloc_old _ _ (blkC HC2.out).2.2).trans HC2.out); have HP3 := Lib.hid (heap_alloc_new w2 (.cells #[.float .f32 0, .float .f32 0] 126)); have HB3 := Lib.hid (HB2.out.alloc HB2.out.size (.cells #[.float .f32 0, .float .f32 0] 126)); clear hb2; obtain ⟨cC, fC, zC⟩ := blkC HC2.out))
    | (go_at_call 77; (with_reducible refine (CE.out _).mono ?_); rintro en w4 ⟨rfl, hb4⟩; have HC4 := Lib.hid (blkStay HC3.out hb4); have HP4 := Lib.hid (blkStay HP3.out hb4); have HB4 := Lib.hid (HB3.out.trans (hb4.mono HB3.out.size)); clear hb4 cC fC zC)
    | (go_at_call 33; (with_reducible refine (NE.out _ _ (by (first | (rw [heap_alloc_get, if_pos rfl]; done) | ((simp only [heap_alloc_get, heap_size_alloc, if_true]) <;> ((repeat' split) <;> first | rfl | omega))))).mono ?_); rintro en w' ⟨rfl, rfl⟩)
    | (go_at_call 27; (with_reducible refine (FI.out _ _ _ _ (by (first | (rw [heap_alloc_get, if_pos rfl]; done) | ((simp only [heap_alloc_get, heap_size_alloc, if_true]) <;> ((repeat' split) <;> first | rfl | omega))))).mono ?_); rintro en w' ⟨rfl, rfl⟩; rw [HE.out])
    | (go_at_call 54; (with_reducible refine (WR.out _).mono ?_); rintro en w5 ⟨rfl, hb5⟩; have HB5 := Lib.hid (show Below w.heap.size w w5 from (((HB4.out.alloc HB4.out.size _).alloc (by have := HB4.out.size; rw [heap_size_alloc]; omega) _).trans (hb5.mono (by have := HB4.out.size; rw [heap_size_alloc, heap_size_alloc]; omega)))); have HC5 := Lib.hid (blkStay ((heap_alloc_old _ _ (by have := (blkC HC4.out).2.2; rw [heap_size_alloc]; omega)).trans ((heap_alloc_old _ _ (blkC HC4.out).2.2).trans HC4.out)) hb5); have HP5 := Lib.hid (blkStay ((heap_alloc_old _ _ (by have := (blkC HP4.out).2.2; rw [heap_size_alloc]; omega)).trans ((heap_alloc_old _ _ (blkC HP4.out).2.2).trans HP4.out)) hb5); clear hb5; obtain ⟨cC, fC, zC⟩ := blkC HC5.out; obtain ⟨cP, fP, zP⟩ := blkC HP5.out)
    | (go_at_call 78; (with_reducible refine (PO.out _).mono ?_); rintro en w6 ⟨rfl, hb6⟩; have HB6 := Lib.hid (HB5.out.trans (hb6.mono HB5.out.size)); have HP6 := Lib.hid (blkStay HP5.out hb6); clear hb6 cC fC zC cP fP zP; obtain ⟨cP, fP, zP⟩ := blkC HP6.out)
    | (go_at_call 33; (with_reducible refine (NB.out _ _ (by (first | (rw [heap_alloc_get, if_pos rfl]; done) | ((simp only [heap_alloc_get, heap_size_alloc, if_true]) <;> ((repeat' split) <;> first | rfl | omega))))).mono ?_); rintro en w' ⟨rfl, rfl⟩))
  go_ret
  have zB := HB6.out.size
  exact ⟨rfl, (by repeat' (first | (with_reducible exact Below.refl _ _) | (with_reducible exact HB6.out) | (with_reducible refine Below.setCell ?_ ?_ _) | (with_reducible refine Below.trans ?_ (Below.mono (below_drewN _ _) ?_)) | (with_reducible refine Below.alloc ?_ ?_ _) | (with_reducible refine Below.drew ?_) | omega | (simp; done) | (simp; omega)))⟩
set_option maxHeartbeats 2000000 in
set_option maxRecDepth 100000 in
theorem camLaw_high (c : Cam) (x y hz : Nat) (hC : CeOk c 0) (hN : fldE 3 (three x y hz) = 0) (hP : PjOk c x y hz 0 0 0 false 3) (a sx sy : Nat) (hO : PoOk c x y hz sx sy a true) (hA : fldE 1 (fun _ => a) = 3) (w : World) :
    Calls Try.prog 12 #[.agg c.vs, .float .f32 x, .float .f32 y, .float .f32 hz] w fun e w' => e = .returned (.bool true) ∧ Below w.heap.size w w' := by
  have PJ := Lib.hid (fun w => hP w)
  have CE := Lib.hid (fun w => hC w)
  have FI := Lib.hid (fun a b p w h => first2_any a b p w h)
  have WR := Lib.hid writes_any
  have NE := Lib.hid (fun p w (h : w.heap[p]? = some (.cells #[.float .f32 x, .float .f32 y, .float .f32 hz] 27)) => qNumberError_row p 0 3 3 (three x y hz) (by omega) w (flAt_three h))
  unfold PjOk at hP
  unfold CeOk at hC
  have ZE := zero_self
  have RS := fun (w : World) (a : Addr) (m : Mode) k b => run_store_float (P := Try.prog) (w := w) (a := a) (m := m) k b
  have HE := Lib.hid (show firstE 0 0 = 0 from rfl)
  have PO := Lib.hid (fun w => hO w)
  unfold PoOk at hO
  rw [hN] at NE
  have EQ := fun w => eql_spot 0 0 0 0 ZE ZE w
  have NB := Lib.hid (fun p w (hh : w.heap[p]? = some (flObj a)) => qNumberError_row p 0 1 1 (fun _ => a) (by omega) w (flAt_one_of hh))
  rw [hA] at NB
  clear hP hC hN hO hA
  go_enter Try.func12, Try.ntmps12
  go_wp2_with (first
    | (go_at_call 76; go_loud ((with_reducible refine (PJ.out _).mono ?_); rintro en w2 ⟨rfl, hb2⟩; have HC2 := Lib.hid (blkStay (b := w.heap.size) (o := .cells c.vs 124) (by (first | (rw [heap_alloc_get, if_pos rfl]; done) | ((simp only [heap_alloc_get, heap_size_alloc, if_true]) <;> ((repeat' split) <;> first | rfl | omega)))) hb2); have HB2 := Lib.hid (show Below w.heap.size w w2 from Below.trans (by repeat (first | exact Below.refl _ _ | refine Below.alloc ?_ (by first | omega | (simp; done) | (simp; omega)) _ | refine Below.setCell ?_ (by first | omega | (simp; done) | (simp; omega)) _ | refine Below.drew ?_)) (Below.mono hb2 (by first | omega | (simp; done) | (simp; omega)))); have HC3 := Lib.hid (show (w2.alloc (.cells #[.float .f32 0, .float .f32 0] 126)).heap[w.heap.size]? = some (.cells c.vs 124) from (heap_alloc_old _ _ (blkC HC2.out).2.2).trans HC2.out); have HP3 := Lib.hid (heap_alloc_new w2 (.cells #[.float .f32 0, .float .f32 0] 126)); have HB3 := Lib.hid (HB2.out.alloc HB2.out.size (.cells #[.float .f32 0, .float .f32 0] 126)); clear hb2; obtain ⟨cC, fC, zC⟩ := blkC HC2.out))
    | (go_at_call 77; (with_reducible refine (CE.out _).mono ?_); rintro en w4 ⟨rfl, hb4⟩; have HC4 := Lib.hid (blkStay HC3.out hb4); have HP4 := Lib.hid (blkStay HP3.out hb4); have HB4 := Lib.hid (HB3.out.trans (hb4.mono HB3.out.size)); clear hb4 cC fC zC)
    | (go_at_call 33; (with_reducible refine (NE.out _ _ (by (first | (rw [heap_alloc_get, if_pos rfl]; done) | ((simp only [heap_alloc_get, heap_size_alloc, if_true]) <;> ((repeat' split) <;> first | rfl | omega))))).mono ?_); rintro en w' ⟨rfl, rfl⟩)
    | (go_at_call 27; (with_reducible refine (FI.out _ _ _ _ (by (first | (rw [heap_alloc_get, if_pos rfl]; done) | ((simp only [heap_alloc_get, heap_size_alloc, if_true]) <;> ((repeat' split) <;> first | rfl | omega))))).mono ?_); rintro en w' ⟨rfl, rfl⟩; rw [HE.out])
    | (go_at_call 54; (with_reducible refine (WR.out _).mono ?_); rintro en w5 ⟨rfl, hb5⟩; have HB5 := Lib.hid (show Below w.heap.size w w5 from (((HB4.out.alloc HB4.out.size _).alloc (by have := HB4.out.size; rw [heap_size_alloc]; omega) _).trans (hb5.mono (by have := HB4.out.size; rw [heap_size_alloc, heap_size_alloc]; omega)))); have HC5 := Lib.hid (blkStay ((heap_alloc_old _ _ (by have := (blkC HC4.out).2.2; rw [heap_size_alloc]; omega)).trans ((heap_alloc_old _ _ (blkC HC4.out).2.2).trans HC4.out)) hb5); have HP5 := Lib.hid (blkStay ((heap_alloc_old _ _ (by have := (blkC HP4.out).2.2; rw [heap_size_alloc]; omega)).trans ((heap_alloc_old _ _ (blkC HP4.out).2.2).trans HP4.out)) hb5); clear hb5; obtain ⟨cC, fC, zC⟩ := blkC HC5.out; obtain ⟨cP, fP, zP⟩ := blkC HP5.out)
    | (go_at_call 78; (with_reducible refine (PO.out _).mono ?_); rintro en w6 ⟨rfl, hb6⟩; have HB6 := Lib.hid (HB5.out.trans (hb6.mono HB5.out.size)); have HP6 := Lib.hid (blkStay HP5.out hb6); clear hb6 cC fC zC cP fP zP; obtain ⟨cP, fP, zP⟩ := blkC HP6.out)
    | (go_at_call 33; (with_reducible refine (NB.out _ _ (by (first | (rw [heap_alloc_get, if_pos rfl]; done) | ((simp only [heap_alloc_get, heap_size_alloc, if_true]) <;> ((repeat' split) <;> first | rfl | omega))))).mono ?_); rintro en w' ⟨rfl, rfl⟩))
  go_ret
  have zB := HB6.out.size
  exact ⟨rfl, (by repeat' (first | (with_reducible exact Below.refl _ _) | (with_reducible exact HB6.out) | (with_reducible refine Below.setCell ?_ ?_ _) | (with_reducible refine Below.trans ?_ (Below.mono (below_drewN _ _) ?_)) | (with_reducible refine Below.alloc ?_ ?_ _) | (with_reducible refine Below.drew ?_) | omega | (simp; done) | (simp; omega)))⟩
set_option maxHeartbeats 2000000 in
set_option maxRecDepth 100000 in
theorem camLaw_ok (c : Cam) (x y hz : Nat) (hC : CeOk c 0) (hN : fldE 3 (three x y hz) = 0) (a sx sy : Nat) (hP : PjOk c x y hz sx sy a true 0) (hO : PoOk c x y hz sx sy a true) (hA : fldE 1 (fun _ => a) = 0) (e1 : (FloatKind.f32.format.order sx sx == some .eq) = true) (e2 : (FloatKind.f32.format.order sy sy == some .eq) = true) (e3 : (FloatKind.f32.format.order a a == some .eq) = true) (w : World) :
    Calls Try.prog 12 #[.agg c.vs, .float .f32 x, .float .f32 y, .float .f32 hz] w fun e w' => e = .returned (.bool true) ∧ Below w.heap.size w w' := by
  have PJ := Lib.hid (fun w => hP w)
  have CE := Lib.hid (fun w => hC w)
  have FI := Lib.hid (fun a b p w h => first2_any a b p w h)
  have WR := Lib.hid writes_any
  have NE := Lib.hid (fun p w (h : w.heap[p]? = some (.cells #[.float .f32 x, .float .f32 y, .float .f32 hz] 27)) => qNumberError_row p 0 3 3 (three x y hz) (by omega) w (flAt_three h))
  unfold PjOk at hP
  unfold CeOk at hC
  have ZE := zero_self
  have RS := fun (w : World) (a : Addr) (m : Mode) k b => run_store_float (P := Try.prog) (w := w) (a := a) (m := m) k b
  have HE := Lib.hid (show firstE 0 0 = 0 from rfl)
  have PO := Lib.hid (fun w => hO w)
  unfold PoOk at hO
  rw [hN] at NE
  have EQ := fun w => eql_spot sx sx sy sy e1 e2 w
  have NB := Lib.hid (fun p w (hh : w.heap[p]? = some (flObj a)) => qNumberError_row p 0 1 1 (fun _ => a) (by omega) w (flAt_one_of hh))
  rw [hA] at NB
  clear hP hC hN hO hA e1 e2
  go_enter Try.func12, Try.ntmps12
  go_wp2_with (first
    | (go_at_call 76; go_loud ((with_reducible refine (PJ.out _).mono ?_); rintro en w2 ⟨rfl, hb2⟩; have HC2 := Lib.hid (blkStay (b := w.heap.size) (o := .cells c.vs 124) (by (first | (rw [heap_alloc_get, if_pos rfl]; done) | ((simp only [heap_alloc_get, heap_size_alloc, if_true]) <;> ((repeat' split) <;> first | rfl | omega)))) hb2); have HB2 := Lib.hid (show Below w.heap.size w w2 from Below.trans (by repeat (first | exact Below.refl _ _ | refine Below.alloc ?_ (by first | omega | (simp; done) | (simp; omega)) _ | refine Below.setCell ?_ (by first | omega | (simp; done) | (simp; omega)) _ | refine Below.drew ?_)) (Below.mono hb2 (by first | omega | (simp; done) | (simp; omega)))); have HC3 := Lib.hid (show (w2.alloc (.cells #[.float .f32 sx, .float .f32 sy] 126)).heap[w.heap.size]? = some (.cells c.vs 124) from (heap_alloc_old _ _ (blkC HC2.out).2.2).trans HC2.out); have HP3 := Lib.hid (heap_alloc_new w2 (.cells #[.float .f32 sx, .float .f32 sy] 126)); have HB3 := Lib.hid (HB2.out.alloc HB2.out.size (.cells #[.float .f32 sx, .float .f32 sy] 126)); clear hb2; obtain ⟨cC, fC, zC⟩ := blkC HC2.out))
    | (go_at_call 77; (with_reducible refine (CE.out _).mono ?_); rintro en w4 ⟨rfl, hb4⟩; have HC4 := Lib.hid (blkStay HC3.out hb4); have HP4 := Lib.hid (blkStay HP3.out hb4); have HB4 := Lib.hid (HB3.out.trans (hb4.mono HB3.out.size)); clear hb4 cC fC zC)
    | (go_at_call 33; (with_reducible refine (NE.out _ _ (by (first | (rw [heap_alloc_get, if_pos rfl]; done) | ((simp only [heap_alloc_get, heap_size_alloc, if_true]) <;> ((repeat' split) <;> first | rfl | omega))))).mono ?_); rintro en w' ⟨rfl, rfl⟩)
    | (go_at_call 27; (with_reducible refine (FI.out _ _ _ _ (by (first | (rw [heap_alloc_get, if_pos rfl]; done) | ((simp only [heap_alloc_get, heap_size_alloc, if_true]) <;> ((repeat' split) <;> first | rfl | omega))))).mono ?_); rintro en w' ⟨rfl, rfl⟩; rw [HE.out])
    | (go_at_call 54; (with_reducible refine (WR.out _).mono ?_); rintro en w5 ⟨rfl, hb5⟩; have HB5 := Lib.hid (show Below w.heap.size w w5 from (((HB4.out.alloc HB4.out.size _).alloc (by have := HB4.out.size; rw [heap_size_alloc]; omega) _).trans (hb5.mono (by have := HB4.out.size; rw [heap_size_alloc, heap_size_alloc]; omega)))); have HC5 := Lib.hid (blkStay ((heap_alloc_old _ _ (by have := (blkC HC4.out).2.2; rw [heap_size_alloc]; omega)).trans ((heap_alloc_old _ _ (blkC HC4.out).2.2).trans HC4.out)) hb5); have HP5 := Lib.hid (blkStay ((heap_alloc_old _ _ (by have := (blkC HP4.out).2.2; rw [heap_size_alloc]; omega)).trans ((heap_alloc_old _ _ (blkC HP4.out).2.2).trans HP4.out)) hb5); clear hb5; obtain ⟨cC, fC, zC⟩ := blkC HC5.out; obtain ⟨cP, fP, zP⟩ := blkC HP5.out)
    | (go_at_call 78; (with_reducible refine (PO.out _).mono ?_); rintro en w6 ⟨rfl, hb6⟩; have HB6 := Lib.hid (HB5.out.trans (hb6.mono HB5.out.size)); have HP6 := Lib.hid (blkStay HP5.out hb6); clear hb6 cC fC zC cP fP zP; obtain ⟨cP, fP, zP⟩ := blkC HP6.out)
    | (go_at_call 33; (with_reducible refine (NB.out _ _ (by (first | (rw [heap_alloc_get, if_pos rfl]; done) | ((simp only [heap_alloc_get, heap_size_alloc, if_true]) <;> ((repeat' split) <;> first | rfl | omega))))).mono ?_); rintro en w' ⟨rfl, rfl⟩))
  go_ret
  have zB := HB6.out.size
  exact ⟨rfl, (by repeat' (first | (with_reducible exact Below.refl _ _) | (with_reducible exact HB6.out) | (with_reducible refine Below.setCell ?_ ?_ _) | (with_reducible refine Below.trans ?_ (Below.mono (below_drewN _ _) ?_)) | (with_reducible refine Below.alloc ?_ ?_ _) | (with_reducible refine Below.drew ?_) | omega | (simp; done) | (simp; omega)))⟩

theorem fin_out {a k : Nat} (h : Bd k a) (h2 : fldE 1 (fun _ => a) ≠ 0) : fldE 1 (fun _ => a) = 3 := by
  unfold fldE hgtE at *
  have f : finB a = true := by
    obtain ⟨v, hv, _⟩ := val_bd h
    unfold finB; rw [hv]; rfl
  rw [if_pos (allB_iff.2 fun _ _ => f)] at h2 ⊢
  split at h2
  · exact absurd rfl h2
  · rename_i q; rw [if_neg q]

theorem camerasLaw_any (c : Cam) (x y hz : Nat) (w : World) :
    Calls Try.prog 12 #[.agg c.vs, .float .f32 x, .float .f32 y, .float .f32 hz] w fun e w' => e = .returned (.bool true) ∧ Below w.heap.size w w' := by
  by_cases h7 : fldE 7 c.at = 0
  · obtain ⟨g1, g2, g3, g4, g5, g6, g7⟩ := cam_hgt h7
    obtain ⟨p, q, s, a, X, Z, k, L⟩ := len_parts (hgt_bd g4) (hgt_bd g5)
    cases hO : camO (rootW s) c.z with
    | true =>
      refine camLaw_bad c x y hz 3 (fldE 3 (three x y hz)) 3 (fun w => ?_) rfl rfl (by omega) (fun w => project_bad c x y hz 3 (by omega) (fun w => viewOf_no2 c h7 L hO w) w) w
      have := cameraError_any c h7 L w
      rwa [hO] at this
    | false =>
      have hC : CeOk c 0 := fun w => by
        have := cameraError_any c h7 L w
        rwa [hO] at this
      obtain ⟨fx, fy, e, V⟩ := vw_parts L (hgt_bd g4) (hgt_bd g5) (hgt_bd g6) (camO_no hO).1
      have hV : VoOk c fx fy e := fun w => viewOf_ok c h7 L hO V w
      have hF : FrOk c fx fy e := fun w => frame_ok c L V w
      by_cases h3 : fldE 3 (three x y hz) = 0
      · obtain ⟨k1, k2, k3⟩ := three_hgt h3
        obtain ⟨px, py, pz, t1, t2, a', t3, t4, b, t5, u, P⟩ := pr_parts V (hgt_bd g1) (hgt_bd g2) (hgt_bd g3) (hgt_bd k1) (hgt_bd k2) (hgt_bd k3)
        cases ha : (FloatKind.f32.format.order a' 1065353216 == some .lt) with
        | true => exact camLaw_far c x y hz hC h3 (fun w => project_far c x y hz h3 hV P ha w) (fun w => projectOf_far c x y hz hF P ha w) w
        | false =>
          obtain ⟨q1, q2, sx, sy, S⟩ := sp_parts P.ba P.bb P.bu (hgt_bd g7) ha
          by_cases h1 : fldE 1 (fun _ => a') = 0
          · exact camLaw_ok c x y hz hC h3 a' sx sy (fun w => project_ok c x y hz h3 hV P ha h1 S w) (fun w => projectOf_ok c x y hz hF P ha S w) h1 S.fx S.fy (self_bd P.ba) w
          · have h1' := fin_out P.ba h1
            exact camLaw_high c x y hz hC h3 (fun w => project_high c x y hz h3 hV P ha 3 h1' (by omega) w) a' sx sy (fun w => projectOf_ok c x y hz hF P ha S w) h1' w
      · exact camLaw_bad c x y hz 0 _ _ hC rfl rfl (show firstE 0 _ ≠ 0 from h3) (fun w => project_num c x y hz _ rfl h3 hV w) w
  · refine camLaw_bad c x y hz (fldE 7 c.at) (fldE 3 (three x y hz)) (fldE 7 c.at) (fun w => cameraError_no c _ rfl h7 w) rfl (by unfold firstE; rw [if_neg h7]) h7 (fun w => project_bad c x y hz _ h7 (fun w => viewOf_no1 c _ rfl h7 w) w) w
end Go.Proofs.Ythemmpmjjdpdfaa

/- A field that came in, opened: four integers, and a slice of singles that is empty or known cell by cell. -/
namespace Go.Proofs.Ythemmpmjjdpdfaa
open Go.ChangeShapes Go.WideShapes Go.ChangeAt Go.RowKit Go.Joins Fl

section
variable {H : Type} {enc : TypeId × Value → H} {w : World} {base : Nat} {spare : Nat → Bool} {held : Bool}

theorem trod_f32 {P : Program} {t : TypeId} {fuel : Nat} {v : Value} {y : DataW H × List MemPlace} (ht : P.underlying t = some (.float .f32)) (h : DataW.trod enc P w base spare held fuel t [v] = some y) : ∃ b, v = .float .f32 b ∧ b < 4294967296 := by
  cases fuel with
  | zero => simp [DataW.trod] at h
  | succ n =>
    unfold DataW.trod at h
    rw [ht] at h
    cases v <;> simp at h
    rename_i k b
    obtain ⟨⟨rfl, hw⟩, _⟩ := h
    exact ⟨b, rfl, by simpa [Lit.wf] using hw⟩

theorem array5 {α : Type} {cs : Array α} (h : cs.size = 5) : ∃ c0 c1 c2 c3 c4, cs = #[c0, c1, c2, c3, c4] := by
  obtain ⟨l⟩ := cs
  match l, h with
  | [c0, c1, c2, c3, c4], _ => exact ⟨c0, c1, c2, c3, c4, rfl⟩

theorem flAt_congr' {w w' : World} {b off n : Nat} {f : Nat → Nat} (h : FlAt w b off n f) (e : w'.heap[b]? = w.heap[b]?) : FlAt w' b off n f := fun i hi => by
  rw [← h i hi]; exact World.cell?_of_block (w := w) (a := ⟨b, off + i, none⟩) e

/-- What a slice of singles is: empty, or known cell by cell. -/
def SlF (w : World) (s : Value) : Prop :=
  (∃ a cap, s = .slice a 0 cap) ∨ ∃ b off len cap x, s = .slice (some ⟨b, off, none⟩) len cap ∧ 0 < len ∧ len ≤ 9223372036854775807 ∧ FlAt w b off len x ∧ wf32 len x

theorem open_singles {t e : TypeId} {fuel : Nat} {cs : List Value} {y : DataW H × List MemPlace} (ht : Try.prog.underlying t = some (.slice e)) (he : Try.prog.underlying e = some (.float .f32)) (hc : Try.prog.cellsOf e = 1)
    (h : DataW.trod enc Try.prog w base spare held fuel t cs = some y) : ∃ s, cs = [s] ∧ SlF w s := by
  rcases Go.Deep.open_slice1 ht hc h with ⟨rfl, _⟩ | ⟨a, len, cap, m, n, V, D, Pl, rfl, hb, hl, hm, hmm, _, hx⟩
  · exact ⟨_, rfl, .inl ⟨none, 0, rfl⟩⟩
  · refine ⟨_, rfl, ?_⟩
    rcases Nat.eq_zero_or_pos len with z | z
    · subst z; exact .inl ⟨_, _, rfl⟩
    · have hlm : len ≤ m := by rw [hmm]; split <;> omega
      have h0 := (hx 0 (by omega)).1
      obtain ⟨b, off, spot⟩ := a
      have hspot : spot = none := by simpa [Addr.add] using World.cell?_spot h0
      subst hspot
      have hv : ∀ i, i < len → ∃ x, V i = .float .f32 x ∧ x < 4294967296 := fun i hi => trod_f32 he (hx i (by omega)).2
      refine .inr ⟨b, off, len, cap, fun i => match V i with | .float _ x => x | _ => 0, rfl, z, ?_, fun i hi => ?_, fun i hi => ?_⟩
      · exact Nat.le_trans hl (Nat.le_trans hm (by decide))
      · have h1 := (hx i (by omega)).1
        obtain ⟨x, e1, _⟩ := hv i hi
        rw [← Go.WideShapes.add_plain, h1]
        simp only [e1]
      · obtain ⟨x, e1, e2⟩ := hv i hi
        simp only [e1]; exact e2

theorem cellsF : Try.prog.cellsOf 26 = 5 := by kernel_rfl
theorem cellsR : Try.prog.cellsOf 23 = 4 := by kernel_rfl
theorem cellsS : Try.prog.cellsOf 24 = 1 := by kernel_rfl
theorem cells1 : Try.prog.cellsOf 27 = 1 := by kernel_rfl
theorem cellsI : Try.prog.cellsOf 3 = 1 := by kernel_rfl

set_option maxRecDepth 100000 in
theorem open_field {r : Reach} {b0 : Nat} {v : Value} {d : DataW H} {p : List MemPlace} (hv : Value.okWide Try.prog w r b0 26 v) (h : DataW.Trod enc Try.prog w base spare held 26 v d p) :
    ∃ X Y W' H' : Int, ∃ s, v = fldV X Y W' H' s ∧ SlF w s := by
  obtain ⟨cs, rfl, hsz⟩ := okWide_struct Try.underlying26 hv
  obtain ⟨c0, c1, c2, c3, c4, rfl⟩ := array5 (hsz.trans cellsF)
  obtain ⟨fuel, hf⟩ := h
  obtain ⟨y0, y1, n, _, _, h0, h1⟩ := trod_struct2 Try.underlying26 hf
  rw [cellsR] at h0
  rw [cellsS] at h1
  obtain ⟨s, e4, hs⟩ := open_singles Try.underlying24 Try.underlying27 cells1 h1
  obtain ⟨z0, z1, z2, z3, n2, _, _, g0, g1, g2, g3⟩ := trod_struct4 Try.underlying23 h0
  rw [cellsI] at g0 g1 g2 g3
  obtain ⟨x0, e0, _, _⟩ := DataW.trod_int Try.underlying3 g0
  obtain ⟨x1, e1, _, _⟩ := DataW.trod_int Try.underlying3 g1
  obtain ⟨x2, e2, _, _⟩ := DataW.trod_int Try.underlying3 g2
  obtain ⟨x3, e3, _, _⟩ := DataW.trod_int Try.underlying3 g3
  simp [Value.cells] at e0 e1 e2 e3 e4
  subst e0 e1 e2 e3 e4
  exact ⟨x0, x1, x2, x3, _, rfl, hs⟩
end

theorem SlF.stay {w w' : World} {s : Value} (h : SlF w s) (hb : Below w.heap.size w w') : SlF w' s := by
  rcases h with h | ⟨b, off, len, cap, x, rfl, h1, h2, h3, h4⟩
  · exact .inl h
  · exact .inr ⟨b, off, len, cap, x, rfl, h1, h2, flAt_congr' h3 (hb.block _ (World.block_lt_of_cell? w _ (h3 0 h1))), h4⟩

theorem laidOut : laidOutB Try.prog = true := by kernel_rfl
end Go.Proofs.Ythemmpmjjdpdfaa

/- min and max of singles that have values. -/
namespace Go.Proofs.Ythemmpmjjdpdfaa
open Go.RowKit Fl
set_option linter.unusedVariables false

theorem max2_val {x y : Nat} {a b : Int} (hx : vS x = some a) (hy : vS y = some b) : ∃ r, Builtin.max2 (.float .f32 x) (.float .f32 y) = pure (.float .f32 r) ∧ vS r = some (if a < b then b else a) ∧ (b < a → r = x) ∧ (a < b → r = y) ∧ (r = x ∨ r = y) := by
  have o : FloatKind.f32.format.order x y = some (compare a b) := order_val hx hy
  unfold Builtin.max2
  dsimp only
  rw [o]
  rcases h : compare a b with _ | _ | _
  · have : a < b := Int.compare_eq_lt.1 h
    exact ⟨y, rfl, by rw [if_pos this]; exact hy, fun q => by omega, fun _ => rfl, .inr rfl⟩
  · have : a = b := Int.compare_eq_eq.1 h
    subst this
    dsimp only
    split
    · exact ⟨y, rfl, by rw [if_neg (by omega)]; exact hy, fun q => by omega, fun q => by omega, .inr rfl⟩
    · exact ⟨x, rfl, by rw [if_neg (by omega)]; exact hx, fun q => by omega, fun q => by omega, .inl rfl⟩
  · have : b < a := Int.compare_eq_gt.1 h
    exact ⟨x, rfl, by rw [if_neg (by omega)]; exact hx, fun _ => rfl, fun q => by omega, .inl rfl⟩
theorem min2_val {x y : Nat} {a b : Int} (hx : vS x = some a) (hy : vS y = some b) : ∃ r, Builtin.min2 (.float .f32 x) (.float .f32 y) = pure (.float .f32 r) ∧ vS r = some (if b < a then b else a) := by
  have o : FloatKind.f32.format.order x y = some (compare a b) := order_val hx hy
  unfold Builtin.min2
  dsimp only
  rw [o]
  rcases h : compare a b with _ | _ | _
  · have : a < b := Int.compare_eq_lt.1 h
    exact ⟨x, rfl, by rw [if_neg (by omega)]; exact hx⟩
  · have : a = b := Int.compare_eq_eq.1 h
    subst this
    dsimp only
    split
    · exact ⟨x, rfl, by rw [if_neg (by omega)]; exact hx⟩
    · exact ⟨y, rfl, by rw [if_neg (by omega)]; exact hy⟩
  · have : b < a := Int.compare_eq_gt.1 h
    exact ⟨y, rfl, by rw [if_pos this]; exact hy⟩

/-- The builtin max of two. -/
theorem run_max_two (ts : Array TypeId) (t : TypeId) {x y : Nat} {a b : Int} (hx : vS x = some a) (hy : vS y = some b) : ∃ r, (∀ w : World, (Builtin.max_ ts t #[.float .f32 x, .float .f32 y]).run Try.prog w = .ok (.float .f32 r) w) ∧ vS r = some (if a < b then b else a) ∧ (b < a → r = x) ∧ (a < b → r = y) ∧ (r = x ∨ r = y) := by
  obtain ⟨r, m, v⟩ := max2_val hx hy
  refine ⟨r, fun w => ?_, v⟩
  show (([Value.float .f32 y]).foldlM Builtin.max2 (Value.float .f32 x)).run Try.prog w = _
  simp only [List.foldlM]
  rw [m]
  rfl

theorem min_fold : ∀ (l : List (Nat × Int)) (x : Nat) (a : Int), vS x = some a → (∀ q ∈ l, vS q.1 = some q.2) → ∃ r m, (∀ w : World, ((l.map fun q => Value.float .f32 q.1).foldlM Builtin.min2 (Value.float .f32 x)).run Try.prog w = .ok (.float .f32 r) w) ∧ vS r = some m ∧ (m < 0 ↔ a < 0 ∨ ∃ q ∈ l, q.2 < 0)
  | [], x, a, hx, _ => ⟨x, a, fun w => rfl, hx, by simp⟩
  | q :: l, x, a, hx, hl => by
    obtain ⟨r, m, v⟩ := min2_val hx (hl q (by simp))
    obtain ⟨r', m', h1, h2, h3⟩ := min_fold l r _ v (fun p hp => hl p (by simp [hp]))
    refine ⟨r', m', fun w => ?_, h2, ?_⟩
    · simp only [List.map_cons, List.foldlM]
      rw [m]
      exact h1 w
    · rw [h3]
      simp only [List.mem_cons, exists_eq_or_imp]
      split <;> constructor
      · rintro (h | h)
        · exact .inr (.inl h)
        · exact .inr (.inr h)
      · rintro (h | h | h)
        · exact .inl (by omega)
        · exact .inl h
        · exact .inr h
      · rintro (h | h)
        · exact .inl h
        · exact .inr (.inr h)
      · rintro (h | h | h)
        · exact .inl h
        · exact .inl (by omega)
        · exact .inr h

/-- The builtin min of seven. -/
theorem run_min_seven (ts : Array TypeId) (t : TypeId) {x1 x2 x3 x4 x5 x6 x7 : Nat} {a1 a2 a3 a4 a5 a6 a7 : Int} (h1 : vS x1 = some a1) (h2 : vS x2 = some a2) (h3 : vS x3 = some a3) (h4 : vS x4 = some a4) (h5 : vS x5 = some a5) (h6 : vS x6 = some a6) (h7 : vS x7 = some a7) :
    ∃ r m, (∀ w : World, (Builtin.min_ ts t #[.float .f32 x1, .float .f32 x2, .float .f32 x3, .float .f32 x4, .float .f32 x5, .float .f32 x6, .float .f32 x7]).run Try.prog w = .ok (.float .f32 r) w) ∧ vS r = some m ∧ (m < 0 ↔ a1 < 0 ∨ a2 < 0 ∨ a3 < 0 ∨ a4 < 0 ∨ a5 < 0 ∨ a6 < 0 ∨ a7 < 0) := by
  obtain ⟨r, m, e, v, i⟩ := min_fold [(x2, a2), (x3, a3), (x4, a4), (x5, a5), (x6, a6), (x7, a7)] x1 a1 h1 (by
    intro q hq
    simp only [List.mem_cons, List.not_mem_nil, or_false] at hq
    rcases hq with rfl | rfl | rfl | rfl | rfl | rfl <;> assumption)
  exact ⟨r, m, fun w => e w, v, by rw [i]; simp⟩
end Go.Proofs.Ythemmpmjjdpdfaa

/- A kind of plants: its cells, its error; CheckKind, on both sides. -/
namespace Go.Proofs.Ythemmpmjjdpdfaa
open Go.RowKit Fl
set_option linter.unusedVariables false

/-- The fields of a kind. -/
structure Knd where
  name : ByteArray
  lo : Nat
  hi : Nat
  so : Nat
  st : Nat
  dr : Nat
  da : Nat
  tp : Nat
  pa : Nat
  sh : Nat
  ba : Nat
  sp : Int
  th : Int
def kndZ : Knd := ⟨ByteArray.empty, 0, 0, 0, 0, 0, 0, 0, 0, 0, 0, 0, 0⟩
abbrev Knd.cells (k : Knd) : Array Value := #[.string k.name, .float .f32 k.lo, .float .f32 k.hi, .float .f32 k.so, .float .f32 k.st, .float .f32 k.dr, .float .f32 k.da, .float .f32 k.tp, .float .f32 k.pa, .float .f32 k.sh, .float .f32 k.ba, .int .i64 k.sp, .int .i64 k.th]
abbrev kndV (k : Knd) : Value := .agg k.cells
/-- Its singles, in order. -/
def Knd.f (k : Knd) (i : Nat) : Nat := match i with | 0 => k.lo | 1 => k.hi | 2 => k.so | 3 => k.st | 4 => k.dr | 5 => k.da | 6 => k.tp | 7 => k.pa | 8 => k.sh | _ => k.ba
abbrev tenO (k : Knd) : Obj := .cells #[.float .f32 k.lo, .float .f32 k.hi, .float .f32 k.so, .float .f32 k.st, .float .f32 k.dr, .float .f32 k.da, .float .f32 k.tp, .float .f32 k.pa, .float .f32 k.sh, .float .f32 k.ba] 27
theorem flAt_ten {w : World} {p : Nat} {k : Knd} (h : w.heap[p]? = some (tenO k)) : FlAt w p 0 10 k.f := by
  intro i hi
  rw [Nat.zero_add, (blkC h).1 i]
  have : i = 0 ∨ i = 1 ∨ i = 2 ∨ i = 3 ∨ i = 4 ∨ i = 5 ∨ i = 6 ∨ i = 7 ∨ i = 8 ∨ i = 9 := by omega
  rcases this with rfl | rfl | rfl | rfl | rfl | rfl | rfl | rfl | rfl | rfl <;> rfl

/-- A byte of a text, as a number. -/
def byt (s : ByteArray) (i : Nat) : Int := ((s[i]?.getD 0).toNat : Int)
/-- Whether all bytes of a text are small letters. -/
def ltrB (s : ByteArray) : Bool := allB s.size fun i => decide (97 ≤ byt s i ∧ byt s i ≤ 122)
/-- Whether a text is a name of a kind. -/
def namB (s : ByteArray) : Bool := ltrB s && withinB s.size 1 20

/-- Whether a kind's numbers are in order. -/
def Knd.rng (k : Knd) : Bool := !(ltB k.so 0 || ltB k.st 0 || ltB k.dr 0 || ltB k.tp 0 || ltB k.pa 0 || ltB k.sh 0 || FloatKind.f32.format.order k.sh 1065353216 == some .gt || ltB k.ba 0 || FloatKind.f32.format.order k.ba 1065353216 == some .gt)
/-- A kind's error. -/
def Knd.err (k : Knd) : Int :=
  if namB k.name = false then 6 else if fldE 10 k.f ≠ 0 then fldE 10 k.f else if ltB k.hi k.lo = true ∨ ltB k.da k.dr = true then 8 else if k.rng = false then 3
  else if withinB k.sp 0 32 = false ∨ withinB k.th 0 32 = false then 3 else 0

theorem byt_at {s : ByteArray} {i : Nat} (h : i < s.size) : ((s[i]'h).toNat : Int) = byt s i := by
  unfold byt
  rw [ByteArray.getElem?_lt' s i h]; rfl

end Go.Proofs.Ythemmpmjjdpdfaa

/- CheckKind of the program, KindError of the reference: a kind's error. -/
namespace Go.Proofs.Ythemmpmjjdpdfaa
open Go.RowKit Fl
set_option linter.unusedVariables false

theorem fld_ten {k : Knd} (h : fldE 10 k.f = 0) : hgtB k.lo = true ∧ hgtB k.hi = true ∧ hgtB k.so = true ∧ hgtB k.st = true ∧ hgtB k.dr = true ∧ hgtB k.da = true ∧ hgtB k.tp = true ∧ hgtB k.pa = true ∧ hgtB k.sh = true ∧ hgtB k.ba = true := by
  have := allB_iff.1 (fldE_zero.1 h)
  exact ⟨this 0 (by omega), this 1 (by omega), this 2 (by omega), this 3 (by omega), this 4 (by omega), this 5 (by omega), this 6 (by omega), this 7 (by omega), this 8 (by omega), this 9 (by omega)⟩

theorem err_name {k : Knd} (h : namB k.name = false) : k.err = 6 := by unfold Knd.err; rw [if_pos h]
theorem err_fld {k : Knd} (n : namB k.name = true) (h : fldE 10 k.f ≠ 0) : k.err = fldE 10 k.f := by unfold Knd.err; rw [if_neg (by simp [n]), if_pos h]
theorem err_ord {k : Knd} (n : namB k.name = true) (h : fldE 10 k.f = 0) (o : ltB k.hi k.lo = true ∨ ltB k.da k.dr = true) : k.err = 8 := by unfold Knd.err; rw [if_neg (by simp [n]), if_neg (by simp [h]), if_pos o]
theorem err_rest {k : Knd} (n : namB k.name = true) (h : fldE 10 k.f = 0) (o1 : ltB k.hi k.lo = false) (o2 : ltB k.da k.dr = false) : k.err = if k.rng = false then 3 else if withinB k.sp 0 32 = false ∨ withinB k.th 0 32 = false then 3 else 0 := by
  unfold Knd.err; rw [if_neg (by simp [n]), if_neg (by simp [h]), if_neg (by simp [o1, o2])]

end Go.Proofs.Ythemmpmjjdpdfaa

/- A list of kinds: named, CheckKinds of the program. -/
namespace Go.Proofs.Ythemmpmjjdpdfaa
open Go.RowKit Fl
set_option linter.unusedVariables false

/-- The kinds lie in a block, one after the other. -/
def KndsAt (w : World) (b off n : Nat) (K : Nat → Knd) : Prop := ∀ i, i < n → ∀ j, j < 13 → w.cell? ⟨b, off + i * 13 + j, none⟩ = (K i).cells[j]?
/-- .. or there is none. -/
def KndL (w : World) (a : Option Addr) (n : Nat) (K : Nat → Knd) : Prop := n = 0 ∨ ∃ b off, a = some ⟨b, off, none⟩ ∧ KndsAt w b off n K
theorem cells_get (k : Knd) (j : Nat) (hj : j < 13) : ∃ v, k.cells[j]? = some v := by
  have : j < k.cells.size := hj
  exact ⟨k.cells[j], Array.getElem?_eq_getElem this⟩
theorem KndsAt.stay {w w' : World} {b off n : Nat} {K : Nat → Knd} (L : KndsAt w b off n K) (hb : Below w.heap.size w w') : KndsAt w' b off n K := fun i hi j hj => by
  obtain ⟨v, hv⟩ := cells_get (K i) j hj
  have h := L i hi j hj
  rw [hv] at h
  have hlt := World.block_lt_of_cell? w _ h
  rw [hv, ← h]
  exact Below.cell hb hlt
theorem KndL.stay {w w' : World} {a : Option Addr} {n : Nat} {K : Nat → Knd} (L : KndL w a n K) (hb : Below w.heap.size w w') : KndL w' a n K :=
  L.imp_right fun ⟨b, off, e, h⟩ => ⟨b, off, e, h.stay hb⟩
structure KndAt (w : World) (b o : Nat) (k : Knd) : Prop where
  c0 : w.cell? ⟨b, o, none⟩ = some (.string k.name)
  c1 : w.cell? ⟨b, o + 1, none⟩ = some (.float .f32 k.lo)
  c2 : w.cell? ⟨b, o + 2, none⟩ = some (.float .f32 k.hi)
  c3 : w.cell? ⟨b, o + 3, none⟩ = some (.float .f32 k.so)
  c4 : w.cell? ⟨b, o + 4, none⟩ = some (.float .f32 k.st)
  c5 : w.cell? ⟨b, o + 5, none⟩ = some (.float .f32 k.dr)
  c6 : w.cell? ⟨b, o + 6, none⟩ = some (.float .f32 k.da)
  c7 : w.cell? ⟨b, o + 7, none⟩ = some (.float .f32 k.tp)
  c8 : w.cell? ⟨b, o + 8, none⟩ = some (.float .f32 k.pa)
  c9 : w.cell? ⟨b, o + 9, none⟩ = some (.float .f32 k.sh)
  c10 : w.cell? ⟨b, o + 10, none⟩ = some (.float .f32 k.ba)
  c11 : w.cell? ⟨b, o + 11, none⟩ = some (.int .i64 k.sp)
  c12 : w.cell? ⟨b, o + 12, none⟩ = some (.int .i64 k.th)
theorem KndsAt.at {w : World} {b off n : Nat} {K : Nat → Knd} (L : KndsAt w b off n K) {i : Nat} (hi : i < n) : KndAt w b (off + i * 13) (K i) :=
  ⟨L i hi 0 (by omega), L i hi 1 (by omega), L i hi 2 (by omega), L i hi 3 (by omega), L i hi 4 (by omega), L i hi 5 (by omega), L i hi 6 (by omega), L i hi 7 (by omega), L i hi 8 (by omega), L i hi 9 (by omega), L i hi 10 (by omega), L i hi 11 (by omega), L i hi 12 (by omega)⟩

/-- Whether two texts are the same. -/
def eqN (a b : ByteArray) : Bool := a.toList == b.toList
/-- The number of the first kind of that name, or -1. -/
def NamAt (n : Nat) (K : Nat → Knd) (s : ByteArray) (r : Int) : Prop := (r = -1 ∧ ∀ i, i < n → eqN (K i).name s = false) ∨ ∃ i : Nat, r = i ∧ i < n ∧ eqN (K i).name s = true ∧ ∀ j, j < i → eqN (K j).name s = false

end Go.Proofs.Ythemmpmjjdpdfaa

/- Kinds that came in, opened: one, and a list. -/
namespace Go.Proofs.Ythemmpmjjdpdfaa
open Go.ChangeShapes Go.WideShapes Go.ChangeAt Go.RowKit Go.Joins Go.Deep Fl

section
variable {H : Type} {enc : TypeId × Value → H} {w : World} {base : Nat} {spare : Nat → Bool} {held : Bool}

theorem cellsStr : Try.prog.cellsOf 9 = 1 := by kernel_rfl
theorem trod_fieldAt {P : Program} {t : TypeId} {fs : Array Go.Field} {fuel : Nat} {cs : List Value} {x : DataW H × List MemPlace} (ht : P.underlying t = some (.struct fs)) (h : DataW.trod enc P w base spare held fuel t cs = some x) :
    ∃ n, ∀ (i : Nat) (ty : TypeId) (off : Nat), (fs[i]?).map (fun (f : Go.Field) => (f.type, f.offset)) = some (ty, off) → ∃ y, DataW.trod enc P w base spare held n ty ((cs.drop off).take (P.cellsOf ty)) = some y := by
  obtain ⟨xs, n, _, rfl, _, hlen, hf⟩ := DataW.trod_struct ht h
  refine ⟨n, fun i ty off e => ?_⟩
  cases hfi : fs[i]? with
  | none => rw [hfi] at e; cases e
  | some f =>
    rw [hfi] at e
    simp only [Option.map_some, Option.some.injEq, Prod.mk.injEq] at e
    obtain ⟨rfl, rfl⟩ := e
    have hi : i < fs.size := by rw [Array.getElem?_eq_some_iff] at hfi; exact hfi.1
    have hx : i < xs.length := by omega
    exact ⟨xs[i], by rw [hf i f hfi, List.getElem?_eq_getElem hx]⟩
theorem trod_f32at {fuel i : Nat} {cs : List Value} {v : Value} {y : DataW H × List MemPlace} (h : DataW.trod enc Try.prog w base spare held fuel 27 ((cs.drop i).take 1) = some y) (hv : cs[i]? = some v) : ∃ s, v = .float .f32 s ∧ s < 4294967296 := by
  have e : (cs.drop i).take 1 = [v] := by
    have hi : i < cs.length := by rw [List.getElem?_eq_some_iff] at hv; exact hv.1
    rw [List.drop_eq_getElem_cons hi]
    rw [List.getElem?_eq_getElem hi] at hv
    simp only [List.take_succ_cons, List.take_zero, Option.some.inj hv]
  rw [e] at h
  exact trod_f32 Try.underlying27 h
theorem take_at {α : Type} {cs : List α} {i : Nat} {v : α} (hv : cs[i]? = some v) : (cs.drop i).take 1 = [v] := by
  have hi : i < cs.length := by rw [List.getElem?_eq_some_iff] at hv; exact hv.1
  rw [List.drop_eq_getElem_cons hi]
  rw [List.getElem?_eq_getElem hi] at hv
  simp only [List.take_succ_cons, List.take_zero, Option.some.inj hv]

/-- A right kind: its name is a text of the machine, its singles are words. -/
structure KndWf (k : Knd) : Prop where
  name : k.name.size ≤ 9223372036854775807
  f : wf32 10 k.f

end
end Go.Proofs.Ythemmpmjjdpdfaa

/- CamerasMatch, for every camera and every three singles: Project answers as the reference does. No condition. -/
namespace Go.Proofs.Ythemmpmjjdpdfaa.camerasMatch
open Go.ChangeShapes Go.WideShapes Go.ChangeAt Go.RowKit Go.Joins
set_option linter.unusedVariables false

section
variable {H : Type} {enc : TypeId × Value → H} {w : World} {base : Nat} {spare : Nat → Bool} {held : Bool}
theorem cells7 : Try.prog.cellsOf 124 = 7 := by kernel_rfl
theorem cells1 : Try.prog.cellsOf 27 = 1 := by kernel_rfl
set_option maxRecDepth 100000 in
theorem open_camera {r : Reach} {b0 : Nat} {v : Value} {d : DataW H} {p : List MemPlace} (hv : Value.okWide Try.prog w r b0 124 v) (h : DataW.Trod enc Try.prog w base spare held 124 v d p) :
    ∃ c : Cam, v = .agg c.vs := by
  obtain ⟨cs, rfl, hsz⟩ := okWide_struct Try.underlying124 hv
  have h3 : cs.size = 7 := hsz.trans cells7
  obtain ⟨c0, c1, c2, c3, c4, c5, c6, rfl⟩ : ∃ c0 c1 c2 c3 c4 c5 c6, cs = #[c0, c1, c2, c3, c4, c5, c6] := by
    obtain ⟨l⟩ := cs
    match l, h3 with
    | [c0, c1, c2, c3, c4, c5, c6], _ => exact ⟨c0, c1, c2, c3, c4, c5, c6, rfl⟩
  obtain ⟨fuel, hf⟩ := h
  obtain ⟨n, G⟩ := trod_fieldAt Try.underlying124 hf
  obtain ⟨y0, g0⟩ := G 0 27 0 rfl
  obtain ⟨y1, g1⟩ := G 1 27 1 rfl
  obtain ⟨y2, g2⟩ := G 2 27 2 rfl
  obtain ⟨y3, g3⟩ := G 3 27 3 rfl
  obtain ⟨y4, g4⟩ := G 4 27 4 rfl
  obtain ⟨y5, g5⟩ := G 5 27 5 rfl
  obtain ⟨y6, g6⟩ := G 6 27 6 rfl
  rw [cells1] at g0 g1 g2 g3 g4 g5 g6
  rw [show (List.drop 0 (Value.agg #[c0, c1, c2, c3, c4, c5, c6]).cells.toList).take 1 = [c0] by simp [Value.cells]] at g0
  rw [show (List.drop 1 (Value.agg #[c0, c1, c2, c3, c4, c5, c6]).cells.toList).take 1 = [c1] by simp [Value.cells]] at g1
  rw [show (List.drop 2 (Value.agg #[c0, c1, c2, c3, c4, c5, c6]).cells.toList).take 1 = [c2] by simp [Value.cells]] at g2
  rw [show (List.drop 3 (Value.agg #[c0, c1, c2, c3, c4, c5, c6]).cells.toList).take 1 = [c3] by simp [Value.cells]] at g3
  rw [show (List.drop 4 (Value.agg #[c0, c1, c2, c3, c4, c5, c6]).cells.toList).take 1 = [c4] by simp [Value.cells]] at g4
  rw [show (List.drop 5 (Value.agg #[c0, c1, c2, c3, c4, c5, c6]).cells.toList).take 1 = [c5] by simp [Value.cells]] at g5
  rw [show (List.drop 6 (Value.agg #[c0, c1, c2, c3, c4, c5, c6]).cells.toList).take 1 = [c6] by simp [Value.cells]] at g6
  obtain ⟨a0, rfl, _⟩ := trod_f32 Try.underlying27 g0
  obtain ⟨a1, rfl, _⟩ := trod_f32 Try.underlying27 g1
  obtain ⟨a2, rfl, _⟩ := trod_f32 Try.underlying27 g2
  obtain ⟨a3, rfl, _⟩ := trod_f32 Try.underlying27 g3
  obtain ⟨a4, rfl, _⟩ := trod_f32 Try.underlying27 g4
  obtain ⟨a5, rfl, _⟩ := trod_f32 Try.underlying27 g5
  obtain ⟨a6, rfl, _⟩ := trod_f32 Try.underlying27 g6
  exact ⟨⟨a0, a1, a2, a3, a4, a5, a6⟩, rfl⟩
end

theorem own : ownKnob Try.prog.godebug = none := by kernel_rfl

set_option maxRecDepth 100000 in
theorem lifted (os : Os) (started : os.Started) (H : Type) (enc : TypeId × Value → H) :
    ReturnsInHanded {} Try.checked os 12 .any (Rows.camerasMatchSpec.pre6 enc Try.prog Try.f12 Rows.camerasMatchRow.domain false) (Rows.camerasMatchSpec.post enc Try.prog Try.f12 false true false false) := by
  refine returnsInHanded_of_change (C := Try.checked) own started (by kernel_rfl) Try.func12
    (ChangeSpec.witness6 (enc := enc) (C := Try.checked) false ⟨#[], #[.agg zeroCam.vs, .float .f32 0, .float .f32 0, .float .f32 0], []⟩ 8 (by kernel_rfl) (by kernel_rfl) (by kernel_rfl) (by kernel_rfl)) ?_
  intro W base args ds gs before hval0 hW hcnd _
  have hval : ∀ (j : Nat) t v, Try.f12.params[j]? = some t → args[j]? = some v → Value.okWide Try.prog W .any base t v := hval0
  have hW' := hW
  have hplt : ∀ x ∈ before, x.block < W.heap.size := fun x hx => by simpa using hW'.lt x hx
  obtain ⟨p, q, hA0, hV, rfl, hfz, hnd⟩ := hW
  have hA : DataW.TrodAll enc Try.prog W 0 (fun _ => true) true Try.f12.params.toList args.toList ds p := hA0
  rw [Try.params12] at hA hval
  obtain ⟨v0, vs0, d0, ds0, p0, q0, hargs, rfl, rfl, h0, r0⟩ := trodAll_cons hA
  obtain ⟨v1, vs1, d1, ds1, p1, q1, rfl, rfl, rfl, h1, r1⟩ := trodAll_cons r0
  obtain ⟨v2, vs2, d2, ds2, p2, q2, rfl, rfl, rfl, h2, r2⟩ := trodAll_cons r1
  obtain ⟨v3, vs3, d3, ds3, p3, q3, rfl, rfl, rfl, h3, r3⟩ := trodAll_cons r2
  obtain ⟨rfl, rfl, rfl⟩ := trodAll_nil r3
  obtain rfl : args = #[v0, v1, v2, v3] := by cases args; simp_all
  obtain ⟨rfl, rfl⟩ := trodVars_none hV
  obtain ⟨c, rfl⟩ := open_camera (hval 0 124 v0 rfl rfl) h0
  obtain ⟨x, rfl, rfl, rfl, w1⟩ := open_float Try.underlying27 (hval 1 27 v1 rfl rfl) h1
  obtain ⟨y, rfl, rfl, rfl, w2⟩ := open_float Try.underlying27 (hval 2 27 v2 rfl rfl) h2
  obtain ⟨hz, rfl, rfl, rfl, w3⟩ := open_float Try.underlying27 (hval 3 27 v3 rfl rfl) h3
  have hlt0 : ∀ x ∈ p0, x.block < W.heap.size := fun x hx => hplt x (by simp [hx])
  clear hA0 hval0 hplt
  simp only [List.append_nil] at hW'
  refine (camerasLaw_any c x y hz W).mono fun e W' ⟨he, hb⟩ => ?_
  subst he
  exact ⟨_, rfl, _, _, _, [], _, [], hW', trodAll_cons_mk (shut_bool Try.underlying4 _) trodAll_mk0, trodAll_cons_mk (Below.trod laidOut (by kernel_rfl) (of_decide_eq_true (by kernel_rfl)) h0 hb hlt0) (trodAll_cons_mk (shut_float Try.underlying27 w1) (trodAll_cons_mk (shut_float Try.underlying27 w2) (trodAll_cons_mk (shut_float Try.underlying27 w3) trodAll_mk0))), rfl, hb.frame _, fun h => by cases h⟩

theorem over : Rows.camerasMatchRow.holds Try.pinned (OpenSpec.ofChange Rows.camerasMatchSpec) :=
  OpenClaim.holds_of_wide 12 Try.f12 rfl rfl rfl rfl rfl rfl rfl ⟨rfl, rfl, rfl, rfl, rfl⟩ rfl rfl rfl rfl rfl (by kernel_rfl) Try.func12 (by kernel_rfl)
    (of_decide_eq_true (by kernel_rfl)) (by unfold Func.isWrapper; rw [if_neg (of_decide_eq_false (by kernel_rfl))]; exact ⟨rfl, rfl⟩)
    (fun os started H enc _ => lifted os started H enc)

theorem proved : Rows.CamerasMatchSaid :=
  over
#print axioms proved
end Go.Proofs.Ythemmpmjjdpdfaa.camerasMatch
