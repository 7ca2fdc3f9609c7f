/- Bilinear of the reference. -/
import Derived.Test.YtaieokamfhpfbaaBtw4
namespace Go.Proofs.Ytaieokamfhpfbaa
open Go.RowKit Fl
set_option linter.unusedVariables false

theorem abs_gt {x : Nat} {a : Int} (h : vS x = some a) : (FloatKind.f32.format.order (x % 2147483648) 1258291200 == some .gt) = decide (8388608 * (one : Int) < (a.natAbs : Int)) := by
  rw [f32f, gtr_val (abs_val h) vS_p23]
theorem form_no {x : Nat} (h : finB x = true) : (fldE 1 (fun _ => x) == (2 : Int)) = false := by
  cases hg : hgtB x <;> simp [fldE, hgtE, allB, List.range_succ, h, hg]
theorem form_yes {x : Nat} (h : finB x = false) : fldE 1 (fun _ => x) = 2 := by simp [fldE, allB, List.range_succ, h]

section
variable (X Y : Int) (W H n b cap : Nat) (v : Nat → Nat) (x y : Nat) (w : World) (lx : x < 4294967296) (ly : y < 4294967296)
include lx ly

set_option maxHeartbeats 2000000 in
theorem rbil_form (hf : finB x = false ∨ finB y = false) :
    Calls Try.prog 53 #[fldV X Y W H (.slice (some ⟨b, 0, none⟩) n cap), .float .f32 x, .float .f32 y] w fun e w' => e = .returned (.tuple #[.float .f32 0, .int .i64 2]) ∧ Below w.heap.size w w' := by
  have H1 := Lib.hid (fun bb w => refHeight_of x lx bb w)
  have H2 := Lib.hid (fun bb w => refHeight_of y ly bb w)
  cases hx : finB x with
  | false =>
    rw [form_yes hx] at H1
    clear hf hx
    go_enter Try.func53, Try.ntmps53
    go_wp2_with (first | (go_at_call 27; refine (H1.out _ _ (by ((simp only [heap_alloc_get, heap_size_alloc, if_true]) <;> ((repeat' split) <;> first | rfl | omega)))).mono ?_; rintro e w2 ⟨rfl, rfl⟩))
    go_ret2
    exact ⟨rfl, (by repeat (first | exact Below.refl _ _ | refine Below.alloc ?_ (by first | omega | (simp; done) | (simp; omega)) _ | refine Below.setCell ?_ (by first | omega | (simp; done) | (simp; omega)) _ | refine Below.drew ?_))⟩
  | true =>
    have hy : finB y = false := by rcases hf with h | h; rw [hx] at h; cases h; exact h
    rw [form_yes hy] at H2
    have e1 := form_no hx
    generalize fldE 1 (fun _ => x) = ex at *
    clear hf hx hy
    go_enter Try.func53, Try.ntmps53
    go_wp2_with fail
    refine (H1.out _ _ (by ((simp only [heap_alloc_get, heap_size_alloc, if_true]) <;> ((repeat' split) <;> first | rfl | omega)))).mono ?_
    rintro e w2 ⟨rfl, rfl⟩
    go_wp2_with (first | (go_at_call 27; refine (H2.out _ _ (by ((simp only [heap_alloc_get, heap_size_alloc, if_true]) <;> ((repeat' split) <;> first | rfl | omega)))).mono ?_; rintro e w2 ⟨rfl, rfl⟩))
    go_ret2
    exact ⟨rfl, (by repeat (first | exact Below.refl _ _ | refine Below.alloc ?_ (by first | omega | (simp; done) | (simp; omega)) _ | refine Below.setCell ?_ (by first | omega | (simp; done) | (simp; omega)) _ | refine Below.drew ?_))⟩

set_option maxHeartbeats 2000000 in
theorem rbil_far (hx : finB x = true) (hy : finB y = true) (hf : (FloatKind.f32.format.order (x % 2147483648) 1258291200 == some .gt) = true ∨ ((FloatKind.f32.format.order (x % 2147483648) 1258291200 == some .gt) = false ∧ (FloatKind.f32.format.order (y % 2147483648) 1258291200 == some .gt) = true)) :
    Calls Try.prog 53 #[fldV X Y W H (.slice (some ⟨b, 0, none⟩) n cap), .float .f32 x, .float .f32 y] w fun e w' => e = .returned (.tuple #[.float .f32 0, .int .i64 5]) ∧ Below w.heap.size w w' := by
  have H1 := Lib.hid (fun bb w => refHeight_of x lx bb w)
  have H2 := Lib.hid (fun bb w => refHeight_of y ly bb w)
  have A1 := Lib.hid (fun w => refAbs_any x w lx)
  have A2 := Lib.hid (fun w => refAbs_any y w ly)
  have e1 := form_no hx
  have e2 := form_no hy
  generalize fldE 1 (fun _ => x) = ex at *
  generalize fldE 1 (fun _ => y) = ey at *
  generalize x % 2147483648 = ax at *
  generalize y % 2147483648 = ay at *
  clear hx hy lx ly
  rcases hf with hf | ⟨hf, hf2⟩
  all_goals
    go_enter Try.func53, Try.ntmps53
    go_wp2_with fail
    refine (H1.out _ _ (by ((simp only [heap_alloc_get, heap_size_alloc, if_true]) <;> ((repeat' split) <;> first | rfl | omega)))).mono ?_
    rintro e w2 ⟨rfl, rfl⟩
    go_wp2_with fail
    refine (H2.out _ _ (by ((simp only [heap_alloc_get, heap_size_alloc, if_true]) <;> ((repeat' split) <;> first | rfl | omega)))).mono ?_
    rintro e w2 ⟨rfl, rfl⟩
    go_wp2_with (first | (go_at_call 86; (with_reducible refine (A1.out _).mono ?_); rintro e w' ⟨rfl, rfl⟩) | (go_at_call 86; (with_reducible refine (A2.out _).mono ?_); rintro e w' ⟨rfl, rfl⟩))
    go_ret2
    exact ⟨rfl, (by repeat (first | exact Below.refl _ _ | refine Below.alloc ?_ (by first | omega | (simp; done) | (simp; omega)) _ | refine Below.setCell ?_ (by first | omega | (simp; done) | (simp; omega)) _ | refine Below.drew ?_))⟩

set_option maxHeartbeats 4000000 in
set_option maxRecDepth 100000 in
theorem rbil_near (h0 : checkR X Y W H = 0) (hn : n = W * H) (hc : FlAt w b 0 n v) (hh : allB n (fun i => hgtB (v i)) = true) (hvw : wf32 n v) {g h : Int} {s t : Nat} {cs ct : Bool} (A : NearAt x g s cs) (B : NearAt y h t ct)
    (nx : (FloatKind.f32.format.order (x % 2147483648) 1258291200 == some .gt) = false) (ny : (FloatKind.f32.format.order (y % 2147483648) 1258291200 == some .gt) = false) :
    Calls Try.prog 53 #[fldV X Y W H (.slice (some ⟨b, 0, none⟩) n cap), .float .f32 x, .float .f32 y] w fun e w' => e = .returned (.tuple #[.float .f32 (bilV X Y W H v g h s t cs ct), .int .i64 (bilE X Y W H v g h s t cs ct)]) ∧ Below w.heap.size w w' := by
  have hlt : b < w.heap.size := World.block_lt_of_cell? w _ (hc 0 (by
    obtain ⟨b1, b2, b3, b4, b5, _⟩ := checkR_zero h0
    rw [hn]; exact Nat.mul_pos (by omega) (by omega)))
  have H1 := Lib.hid (fun bb w => refHeight_of x lx bb w)
  have H2 := Lib.hid (fun bb w => refHeight_of y ly bb w)
  have A1 := Lib.hid (fun w => refAbs_any x w lx)
  have A2 := Lib.hid (fun w => refAbs_any y w ly)
  have e1 := form_no A.fin
  have e2 := form_no B.fin
  generalize fldE 1 (fun _ => x) = ex at *
  generalize fldE 1 (fun _ => y) = ey at *
  generalize x % 2147483648 = ax at *
  generalize y % 2147483648 = ay at *
  have FX := Lib.hid A.rflo
  have FY := Lib.hid B.rflo
  have SX := Lib.hid (fun w => refSub_any 25 x (flW x) s A.same A.sub w)
  have SY := Lib.hid (fun w => refSub_any 25 y (flW y) t B.same B.sub w)
  have c1 := fun (W : World) => run_convert_float_int (P := Try.prog) W 37 3 .f32 .i64 (flW x) g (by kernel_rfl) Try.underlying3 A.int
  have c2 := fun (W : World) => run_convert_float_int (P := Try.prog) W 37 3 .f32 .i64 (flW y) h (by kernel_rfl) Try.underlying3 B.int
  have g1 := A.lo
  have g2 := A.hi
  have g3 := B.lo
  have g4 := B.hi
  -- bilinear, whatever it answers
  obtain ⟨V, er, hV, hE, BT0⟩ : ∃ V er, bilV X Y W H v g h s t cs ct = (if (er != 0) = true then 0 else V) ∧ bilE X Y W H v g h s t cs ct = er ∧ ∀ W', Below w.heap.size w W' → Calls Try.prog 138 #[fldV X Y W H (.slice (some ⟨b, 0, none⟩) n cap), .int .i64 g, .int .i64 h, .float .f32 s, .float .f32 t] W' fun e w' => e = .returned (.tuple #[.float .f32 V, .int .i64 er]) ∧ Below W'.heap.size W' w' := by
    unfold bilV bilE
    cases hth : thereB X Y W H g h cs ct with
    | false => exact ⟨0, 5, rfl, rfl, fun W' hb => rbil_no X Y W H n b cap v g h s t cs ct W' h0 hn (flAt_congr hc (hb.block _ hlt)) hh (by omega) (by omega) (by omega) (by omega) A.cs1 B.cs1 hth A.bs⟩
    | true =>
      refine ⟨_, _, ?_, rfl, fun W' hb => rbil_ok X Y W H n b cap v g h s t cs ct W' h0 hn (flAt_congr hc (hb.block _ hlt)) hh hvw A.cs1 B.cs1 hth A.bs B.bs⟩
      cases hgtB (btwW v W (numC X Y W g h) cs ct s t) <;> rfl
  have BT := Lib.hid BT0
  rw [hE, hV]
  clear h0 hn hc hh hvw A B lx ly BT0 hV hE
  cases hz : (er != 0)
  all_goals
    go_enter Try.func53, Try.ntmps53
    go_wp2_with fail
    refine (H1.out _ _ (by ((simp only [heap_alloc_get, heap_size_alloc, if_true]) <;> ((repeat' split) <;> first | rfl | omega)))).mono ?_
    rintro e w2 ⟨rfl, hw2⟩
    have hb2 : Below w.heap.size w w2 := by rw [← hw2]; exact (by repeat (first | exact Below.refl _ _ | refine Below.alloc ?_ (by first | omega | (simp; done) | (simp; omega)) _ | refine Below.setCell ?_ (by first | omega | (simp; done) | (simp; omega)) _ | refine Below.drew ?_))
    have GF2 := Lib.hid (show w2.heap[w.heap.size]? = some (fldO X Y W H (.slice (some ⟨b, 0, none⟩) n cap)) by rw [← hw2]; ((simp only [heap_alloc_get, heap_size_alloc, if_true]) <;> ((repeat' split) <;> first | rfl | omega)))
    clear hw2
    go_wp2_with fail
    refine (H2.out _ _ (by ((simp only [heap_alloc_get, heap_size_alloc, if_true]) <;> ((repeat' split) <;> first | rfl | omega)))).mono ?_
    rintro e w3 ⟨rfl, hw3⟩
    have hb3 : Below w.heap.size w w3 := hb2.trans (by rw [← hw3]; exact (Below.refl _ _).alloc hb2.size _)
    have GF := Lib.hid (show w3.heap[w.heap.size]? = some (fldO X Y W H (.slice (some ⟨b, 0, none⟩) n cap)) by rw [← hw3]; rw [heap_alloc_old _ _ (blkC GF2.out).2.2]; exact GF2.out)
    clear hw3 GF2
    have HB3 := Lib.hid hb3
    clear hb2 hb3
    obtain ⟨cF, fF, zF⟩ := blkC GF.out
    have BT3 := Lib.hid (fun W' (hb : Below w3.heap.size w3 W') => BT.out W' (HB3.out.trans (hb.mono HB3.out.size)))
    go_wp2_with (first | (go_at_call 86; (with_reducible refine (A1.out _).mono ?_); rintro e w' ⟨rfl, rfl⟩) | (go_at_call 86; (with_reducible refine (A2.out _).mono ?_); rintro e w' ⟨rfl, rfl⟩) | (go_at_call 137; (with_reducible refine (FX.out _).mono ?_); rintro e w' ⟨rfl, rfl⟩) | (go_at_call 137; (with_reducible refine (FY.out _).mono ?_); rintro e w' ⟨rfl, rfl⟩))
    go_region_held3 (fun w' => (∀ o, w'.cell? ⟨w.heap.size, o, none⟩ = #[.int .i64 X, .int .i64 Y, .int .i64 W, .int .i64 H, .slice (some ⟨b, 0, none⟩) n cap][o]?) ∧ Below w3.heap.size w3 w') (first | exact ⟨(blkC (blkStay GF.out hb9)).1, hb9⟩ | exact ⟨(blkC (blkStay GF.out (by repeat (first | exact Below.refl _ _ | refine Below.alloc ?_ (by first | omega | (simp; done) | (simp; omega)) _ | refine Below.setCell ?_ (by first | omega | (simp; done) | (simp; omega)) _ | refine Below.drew ?_)))).1, (by repeat (first | exact Below.refl _ _ | refine Below.alloc ?_ (by first | omega | (simp; done) | (simp; omega)) _ | refine Below.setCell ?_ (by first | omega | (simp; done) | (simp; omega)) _ | refine Below.drew ?_))⟩) (first | (go_at_call 122; (with_reducible refine (SX.out _).mono ?_); rintro e w' ⟨rfl, rfl⟩) | (go_at_call 122; (with_reducible refine (SY.out _).mono ?_); rintro e w' ⟨rfl, rfl⟩) | (go_at_call 138; (with_reducible refine Calls.mono (BT3.out _ ?_) ?_); exact (by repeat (first | exact Below.refl _ _ | refine Below.alloc ?_ (by first | omega | (simp; done) | (simp; omega)) _ | refine Below.setCell ?_ (by first | omega | (simp; done) | (simp; omega)) _ | refine Below.drew ?_)); rintro e w' ⟨rfl, hb8⟩; have hb9 : Below w3.heap.size w3 w' := ⟨hb8.os, hb8.tape, hb8.output, hb8.size, hb8.block⟩; clear hb8))
    rename_i wh hHeld
    go_wp2
    go_ret2
    first
      | exact ⟨rfl, HB3.out.trans (hHeld.2.mono HB3.out.size)⟩
      | (have ez : er = 0 := by simpa using hz
         exact ⟨by rw [ez]; rfl, HB3.out.trans (hHeld.2.mono HB3.out.size)⟩)
end
end Go.Proofs.Ytaieokamfhpfbaa
