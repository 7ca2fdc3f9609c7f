/- LinesMatch, for every field and every two places: Line is the reference's line, place by place, with the errors that the document tells, and Profile has the values of its cells, bit by bit. No condition. -/
import Derived.Test.YtjjafjdjdjonfaaLinJD
import Derived.ProofKit
import Derived.OpenShut
import Derived.Lib.SmallJoins
import Derived.Laws.Cover2
import Derived.Deep.Slices

/- LinesMatch, walked: both are right. -/
namespace Go.Proofs.Ytjjafjdjdjonfaa
open Go.RowKit Fl
set_option linter.unusedVariables false

set_option maxRecDepth 100000 in
set_option maxHeartbeats 8000000 in
theorem linD (X Y W H : Int) (a : Option Addr) (n cap : Nat) (ax ay cx cy : Int) (w : World) (bxa bya bxc byc : Bool) (fe mm : Int) (hc : Bool) (M : Nat) (T : Nat → Pnt) (f : Nat → Nat)
    (WXA : Hid (∀ w, Calls Try.prog 9 #[.int .i64 ax, .int .i64 (-4194304), .int .i64 4194304] w fun e w' => e = .returned (.bool bxa) ∧ w = w'))
    (WYA : Hid (∀ w, Calls Try.prog 9 #[.int .i64 ay, .int .i64 (-4194304), .int .i64 4194304] w fun e w' => e = .returned (.bool bya) ∧ w = w'))
    (WXC : Hid (∀ w, Calls Try.prog 9 #[.int .i64 cx, .int .i64 (-4194304), .int .i64 4194304] w fun e w' => e = .returned (.bool bxc) ∧ w = w'))
    (WYC : Hid (∀ w, Calls Try.prog 9 #[.int .i64 cy, .int .i64 (-4194304), .int .i64 4194304] w fun e w' => e = .returned (.bool byc) ∧ w = w'))
    (hw2 : want2 bxa bya bxc byc = 0) (hmm : mm ≤ 65535)
    (x1 : -4194304 ≤ ax) (x2 : ax ≤ 4194304) (x3 : -4194304 ≤ ay) (x4 : ay ≤ 4194304) (x5 : -4194304 ≤ cx) (x6 : cx ≤ 4194304) (x7 : -4194304 ≤ cy) (x8 : cy ≤ 4194304)
    (hmx : ∀ (W' : World) (ts : Array TypeId) (t : TypeId), (Builtin.max_ ts t #[.int .i64 (cx - ax), .int .i64 (ax - cx), .int .i64 (cy - ay), .int .i64 (ay - cy)]).run Try.prog W' = .ok (.int .i64 mm) W') (m0 : 0 ≤ mm) (m1 : mm ≤ 16777216)
    (HM1 : Hid (1 ≤ M)) (HM : Hid (M ≤ 65536)) (LI : Hid (∀ w', Below w.heap.size w w' → Calls Try.prog 5 #[ptV ax ay, ptV cx cy] w' (LinePost w' M T)))
    (LO : Hid (∀ w', Calls Try.prog 12 #[ptV ax ay, ptV cx cy] w' (PtsPost w' M T)))
    (PR : Hid (∀ w', Below w.heap.size w w' → Calls Try.prog 6 #[fldV X Y W H (.slice a n cap), ptV ax ay, ptV cx cy] w' (ProfPost w' M f)))
    (VA : Hid (∀ w' g gc, PtRow w' g M T → Below w.heap.size w w' → Calls Try.prog 16 #[fldV X Y W H (.slice a n cap), .slice (some ⟨g, 0, none⟩) M gc] w' (FlsPost w' M f)))
    (FE : Hid (∀ w', Below w.heap.size w w' → Calls Try.prog 13 #[fldV X Y W H (.slice a n cap)] w' fun e w'' => e = .returned (.int .i64 fe) ∧ Below w'.heap.size w' w''))
    (HA : Hid (∀ w, Calls Try.prog 14 #[reg X Y W H, .int .i64 ax, .int .i64 ay] w fun e w' => e = .returned (.bool true) ∧ Below w.heap.size w w'))
    (HC : Hid (∀ w, Calls Try.prog 14 #[reg X Y W H, .int .i64 cx, .int .i64 cy] w fun e w' => e = .returned (.bool hc) ∧ Below w.heap.size w w'))
    (FI2 : Hid (∀ p w, w.heap[p]? = some (.cells #[.int .i64 fe, .int .i64 (whenE (!hc) 5)] 30) → Calls Try.prog 7 #[.slice (some ⟨p, 0, none⟩) 2 2] w fun e w' => e = .returned (.int .i64 0) ∧ w = w')) :
    Calls Try.prog 3 #[fldV X Y W H (.slice a n cap), ptV ax ay, ptV cx cy] w fun e w' => e = .returned (.bool true) ∧ Below w.heap.size w w' := by
  have A0 := Lib.hid (LnAt.new w X Y W H (.slice a n cap) ax ay cx cy)
  have WH := Lib.hid (fun c w => when_any c 5 w)
  have FI := Lib.hid (fun x y p w h => first2_any x y p w h)
  have E1 := Lib.hid (show want1 bxa bya = firstE 0 (whenE (!bxa || !bya) 5) from rfl)
  have E2 := Lib.hid (show want2 bxa bya bxc byc = firstE (want1 bxa bya) (whenE (!bxc || !byc) 5) from rfl)
  rw [hw2] at E2
  clear hw2
  generalize want1 bxa bya = p1 at *
  go_enter Try.func3, Try.ntmps3
  go_wp2_with (first | (go_at_call 5; refine (LI.out _ (A0.out.b)).mono ?_; rintro e w1 ⟨gl, lc, rfl, hgl, hrl, hb1⟩; have A1 := Lib.hid (A0.out.stay hb1); have RL1 := Lib.hid hrl; clear hb1 hgl hrl; obtain ⟨cF, fF, zF⟩ := blkC A1.out.f; obtain ⟨cA, fA, zA⟩ := blkC A1.out.a; obtain ⟨cC, fC, zC⟩ := blkC A1.out.c) | (go_at_call 6; refine (PR.out _ (A1.out.b)).mono ?_; rintro e w2 ⟨gp, pc, rfl, hgp, hfp, hb2⟩; have A2 := Lib.hid (A1.out.stay hb2); have RL2 := Lib.hid (RL1.out.stay hb2); have FP2 := Lib.hid hfp; have ZP := Lib.hid (World.block_lt_of_cell? w2 _ (hfp 0 (by have := HM1.out; omega))); clear hb2 hgp hfp; clear cF fF zF cA fA zA cC fC zC; obtain ⟨cF, fF, zF⟩ := blkC A2.out.f; obtain ⟨cA, fA, zA⟩ := blkC A2.out.a; obtain ⟨cC, fC, zC⟩ := blkC A2.out.c))
  have hl := heap_alloc_new w2 (.cells #[.int .i64 ax, .int .i64 ay, .int .i64 cx, .int .i64 cy] 28)
  have hbl : Below w2.heap.size w2 (w2.alloc (.cells #[.int .i64 ax, .int .i64 ay, .int .i64 cx, .int .i64 cy] 28)) := (Below.refl _ _).alloc (Nat.le_refl _) _
  have A3 := Lib.hid (A2.out.stay hbl)
  have HL3 := Lib.hid hl
  have BL3 := Lib.hid hbl
  obtain ⟨lp, hlp⟩ : ∃ lp, lp = w2.heap.size := ⟨_, rfl⟩
  rw [← hlp] at HL3 ⊢
  clear hl hbl hlp cF fF zF cA fA zA cC fC zC
  generalize w2.alloc (.cells #[.int .i64 ax, .int .i64 ay, .int .i64 cx, .int .i64 cy] 28) = w3 at *
  go_loopw [11, 31] (fun s11 s31 wr => ((s31 = .int .i64 0 ∧ s11 = .int .i64 0) ∨ (s31 = .int .i64 1 ∧ s11 = .int .i64 p1) ∨ (s31 = .int .i64 2 ∧ s11 = .int .i64 0)) ∧ Below w3.heap.size w3 wr) (fun _ s31 _ => 3 - (intOf s31).toNat)
  case atStart => exact ⟨.inl ⟨rfl, rfl⟩, Below.refl _ _⟩
  case round =>
    obtain ⟨hs, hb⟩ := hrel
    have HB := Lib.hid hb
    have AR := Lib.hid (A3.out.stay hb)
    obtain ⟨cL, fL, zL⟩ := blkC (blkStay HL3.out hb)
    clear hb
    rcases hs with ⟨rfl, rfl⟩ | ⟨rfl, rfl⟩ | ⟨rfl, rfl⟩
    · cases bxa
      · go_wp2_with (first | (go_at_call 9; (with_reducible refine (WXA.out _).mono ?_); rintro e w' ⟨rfl, rfl⟩) | (go_at_call 8; refine (WH.out _ _).mono ?_; rintro e w' ⟨rfl, rfl⟩) | (go_at_call 7; refine (FI.out 0 (whenE true 5) _ _ (by (first | (rw [heap_alloc_get, if_pos rfl]; done) | ((simp only [heap_alloc_get, heap_size_alloc, if_true]) <;> ((repeat' split) <;> first | rfl | omega))))).mono ?_; rintro e w' ⟨rfl, rfl⟩))
        go_roundw
        case rel => exact ⟨.inr (.inl ⟨rfl, congrArg (Value.int .i64) E1.out.symm⟩), HB.out.trans (Below.mono (show Below wr.heap.size wr _ from (by repeat (first | exact Below.refl _ _ | refine Below.alloc ?_ (by first | omega | (simp; done) | (simp; omega)) _ | refine Below.setCell ?_ (by first | omega | (simp; done) | (simp; omega)) _ | refine Below.drew ?_))) HB.out.size)⟩
        case measure => simp [intOf]
      · go_wp2_with (first | (go_at_call 9; (with_reducible refine (WXA.out _).mono ?_); rintro e w' ⟨rfl, rfl⟩) | (go_at_call 9; (with_reducible refine (WYA.out _).mono ?_); rintro e w' ⟨rfl, rfl⟩) | (go_at_call 8; refine (WH.out _ _).mono ?_; rintro e w' ⟨rfl, rfl⟩) | (go_at_call 7; refine (FI.out 0 (whenE (!bya) 5) _ _ (by (first | (rw [heap_alloc_get, if_pos rfl]; done) | ((simp only [heap_alloc_get, heap_size_alloc, if_true]) <;> ((repeat' split) <;> first | rfl | omega))))).mono ?_; rintro e w' ⟨rfl, rfl⟩))
        go_roundw
        case rel => exact ⟨.inr (.inl ⟨rfl, congrArg (Value.int .i64) E1.out.symm⟩), HB.out.trans (Below.mono (show Below wr.heap.size wr _ from (by repeat (first | exact Below.refl _ _ | refine Below.alloc ?_ (by first | omega | (simp; done) | (simp; omega)) _ | refine Below.setCell ?_ (by first | omega | (simp; done) | (simp; omega)) _ | refine Below.drew ?_))) HB.out.size)⟩
        case measure => simp [intOf]
    · cases bxc
      · go_wp2_with (first | (go_at_call 9; (with_reducible refine (WXC.out _).mono ?_); rintro e w' ⟨rfl, rfl⟩) | (go_at_call 8; refine (WH.out _ _).mono ?_; rintro e w' ⟨rfl, rfl⟩) | (go_at_call 7; refine (FI.out p1 (whenE true 5) _ _ (by (first | (rw [heap_alloc_get, if_pos rfl]; done) | ((simp only [heap_alloc_get, heap_size_alloc, if_true]) <;> ((repeat' split) <;> first | rfl | omega))))).mono ?_; rintro e w' ⟨rfl, rfl⟩))
        go_roundw
        case rel => exact ⟨.inr (.inr ⟨rfl, congrArg (Value.int .i64) E2.out.symm⟩), HB.out.trans (Below.mono (show Below wr.heap.size wr _ from (by repeat (first | exact Below.refl _ _ | refine Below.alloc ?_ (by first | omega | (simp; done) | (simp; omega)) _ | refine Below.setCell ?_ (by first | omega | (simp; done) | (simp; omega)) _ | refine Below.drew ?_))) HB.out.size)⟩
        case measure => simp [intOf]
      · go_wp2_with (first | (go_at_call 9; (with_reducible refine (WXC.out _).mono ?_); rintro e w' ⟨rfl, rfl⟩) | (go_at_call 9; (with_reducible refine (WYC.out _).mono ?_); rintro e w' ⟨rfl, rfl⟩) | (go_at_call 8; refine (WH.out _ _).mono ?_; rintro e w' ⟨rfl, rfl⟩) | (go_at_call 7; refine (FI.out p1 (whenE (!byc) 5) _ _ (by (first | (rw [heap_alloc_get, if_pos rfl]; done) | ((simp only [heap_alloc_get, heap_size_alloc, if_true]) <;> ((repeat' split) <;> first | rfl | omega))))).mono ?_; rintro e w' ⟨rfl, rfl⟩))
        go_roundw
        case rel => exact ⟨.inr (.inr ⟨rfl, congrArg (Value.int .i64) E2.out.symm⟩), HB.out.trans (Below.mono (show Below wr.heap.size wr _ from (by repeat (first | exact Below.refl _ _ | refine Below.alloc ?_ (by first | omega | (simp; done) | (simp; omega)) _ | refine Below.setCell ?_ (by first | omega | (simp; done) | (simp; omega)) _ | refine Below.drew ?_))) HB.out.size)⟩
        case measure => simp [intOf]
    · obtain ⟨cF, fF, zF⟩ := blkC AR.out.f
      obtain ⟨cA, fA, zA⟩ := blkC AR.out.a
      obtain ⟨cC, fC, zC⟩ := blkC AR.out.c
      clear cL fL zL
      go_wp2_with (first | (go_at_call 10; refine (levels_any _).mono ?_; rintro e w4 ⟨rfl, hb4⟩; have A4 := Lib.hid (AR.out.stay hb4); have B4 := Lib.hid hb4; have RL4 := Lib.hid (((RL2.out.stay BL3.out).stay HB.out).stay hb4); clear hb4; clear cF fF zF cA fA zA cC fC zC; obtain ⟨cF, fF, zF⟩ := blkC A4.out.f; obtain ⟨cA, fA, zA⟩ := blkC A4.out.a; obtain ⟨cC, fC, zC⟩ := blkC A4.out.c) | (go_at_call 12; refine (LO.out _).mono ?_; rintro e w5 ⟨go, oc, rfl, hgo, hro, hb5⟩; have A5 := Lib.hid (A4.out.stay hb5); have B5 := Lib.hid hb5; have RL5 := Lib.hid (RL4.out.stay hb5); have RO5 := Lib.hid hro; clear hb5 hgo hro; clear cF fF zF cA fA zA cC fC zC; obtain ⟨cF, fF, zF⟩ := blkC A5.out.f; obtain ⟨cA, fA, zA⟩ := blkC A5.out.a; obtain ⟨cC, fC, zC⟩ := blkC A5.out.c) | (go_at_call 11; refine (equalPt_any _ _ _ _ _ T _ HM.out RL5.out RO5.out).mono ?_; rintro e w6 ⟨rfl, hb6⟩; have A6 := Lib.hid (A5.out.stay hb6); have B6 := Lib.hid hb6; clear hb6; clear cF fF zF cA fA zA cC fC zC; obtain ⟨cF, fF, zF⟩ := blkC A6.out.f; obtain ⟨cA, fA, zA⟩ := blkC A6.out.a; obtain ⟨cC, fC, zC⟩ := blkC A6.out.c))
      refine wp_region_held_drew (S := (fun w' => (∀ o, w'.cell? ⟨w.heap.size, o, none⟩ = #[.int .i64 X, .int .i64 Y, .int .i64 W, .int .i64 H, .slice a n cap][o]?) ∧ (∀ o, w'.cell? ⟨w.heap.size + 1, o, none⟩ = #[.int .i64 ax, .int .i64 ay][o]?) ∧ (∀ o, w'.cell? ⟨w.heap.size + 1 + 1, o, none⟩ = #[.int .i64 cx, .int .i64 cy][o]?) ∧ Below w6.heap.size w6 w')) (by kernel_rfl) ?_ (fun hHeld => ?_)
      · try dsimp only
        exact (fun K => ⟨(blkC (A6.out.stay K).f).1, (blkC (A6.out.stay K).a).1, (blkC (A6.out.stay K).c).1, K⟩) (by repeat (first | exact hb9 | exact Below.refl _ _ | refine Below.drew ?_ | refine Below.alloc ?_ (by first | exact Nat.le_refl _ | exact hb9.size | (simp; done) | (have := hb9.size; simp; omega) | (simp; omega)) _))
      refine wpAnyH_take (i := 0) (v := ?hv1) rfl (by kernel_rfl) (by kernel_rfl) (by kernel_rfl) (fun _ _ _ h => h) (Or.inl ⟨by rfl, ?hy1⟩) (by assumption) ?hr1; (case hy1 => ((intro w hSw; (try dsimp only at hSw); go_simp) <;> with_reducible rfl)); try simp only [Act.put, List.setIfInBounds_toArray]
      refine wpAnyH_take (i := 2) (v := ?hv2) rfl (by kernel_rfl) (by kernel_rfl) (by kernel_rfl) (fun _ _ _ h => h) (Or.inl ⟨by rfl, ?hy2⟩) (by assumption) ?hr2; (case hy2 => ((intro w hSw; (try dsimp only at hSw); go_simp) <;> with_reducible rfl)); try simp only [Act.put]
      refine wpAnyH_take (i := 3) (v := ?hv3) rfl (by kernel_rfl) (by kernel_rfl) (by kernel_rfl) (fun _ _ _ h => h) (Or.inl ⟨by rfl, ?hy3⟩) (by assumption) ?hr3; (case hy3 => ((intro w hSw; (try dsimp only at hSw); go_simp) <;> with_reducible rfl)); try simp only [Act.put]
      refine wpAnyH_take (i := 4) (v := ?hv4) rfl (by kernel_rfl) (by kernel_rfl) (by kernel_rfl) (fun _ _ _ h => h) (Or.inl ⟨by rfl, ?hy4⟩) (by assumption) ?hr4; (case hy4 => ((intro w hSw; (try dsimp only at hSw); go_simp) <;> with_reducible rfl)); try simp only [Act.put]
      refine wpAnyH_take (i := 5) (v := ?hv5) rfl (by kernel_rfl) (by kernel_rfl) (by kernel_rfl) (fun _ _ _ h => h) (Or.inl ⟨by rfl, ?hy5⟩) (by assumption) ?hr5; (case hy5 => ((intro w hSw; (try dsimp only at hSw); go_simp) <;> with_reducible rfl)); try simp only [Act.put]
      refine wpAnyH_take (i := 6) (v := ?hv6) rfl (by kernel_rfl) (by kernel_rfl) (by kernel_rfl) (fun _ _ _ h => h) (Or.inl ⟨by rfl, ?hy6⟩) (by assumption) ?hr6; (case hy6 => ((intro w hSw; (try dsimp only at hSw); go_simp) <;> with_reducible rfl)); try simp only [Act.put]
      refine wpAnyH_take (i := 7) (v := ?hv7) rfl (by kernel_rfl) (by kernel_rfl) (by kernel_rfl) (fun _ _ _ h => h) (Or.inl ⟨by rfl, ?hy7⟩) (by assumption) ?hr7; (case hy7 => ((intro w hSw; (try dsimp only at hSw); go_simp) <;> with_reducible rfl)); try simp only [Act.put]
      refine wpAnyH_ready (rs := [1]) (by kernel_rfl) (by simp) ?_; refine AllReadyH.cons rfl (fun K hK => ?_) AllReadyH.nil; go_simp
      (with_reducible refine Calls.mono (FE.out _ (A6.out.b.trans (Below.mono (by repeat (first | exact hb9 | exact Below.refl _ _ | refine Below.drew ?_ | refine Below.alloc ?_ (by first | exact Nat.le_refl _ | exact hb9.size | (simp; done) | (have := hb9.size; simp; omega) | (simp; omega)) _)) A6.out.b.size))) ?_); rintro e w1r ⟨rfl, hb8⟩
      have hb7 : Below w6.heap.size w6 w1r := Below.trans (by repeat (first | exact hb9 | exact Below.refl _ _ | refine Below.drew ?_ | refine Below.alloc ?_ (by first | exact Nat.le_refl _ | exact hb9.size | (simp; done) | (have := hb9.size; simp; omega) | (simp; omega)) _)) (Below.mono hb8 (by first | exact Nat.le_refl _ | exact hb9.size | (simp; done) | (have := hb9.size; simp; omega) | (simp; omega)))
      clear hb8; (try clear hb9); have hb9 := hb7; clear hb7
      try go_wp2_with fail
      refine hK.out _ _ ?_ (fun hHeld => ?_)
      · try dsimp only
        exact (fun K => ⟨(blkC (A6.out.stay K).f).1, (blkC (A6.out.stay K).a).1, (blkC (A6.out.stay K).c).1, K⟩) (by repeat (first | exact hb9 | exact Below.refl _ _ | refine Below.drew ?_ | refine Below.alloc ?_ (by first | exact Nat.le_refl _ | exact hb9.size | (simp; done) | (have := hb9.size; simp; omega) | (simp; omega)) _))
      clear hK K; try simp only [Act.put, List.setIfInBounds_toArray, List.set_cons_zero, List.set_cons_succ]
      refine wpAnyH_ready (rs := [8]) (by kernel_rfl) (by simp) ?_; refine AllReadyH.cons rfl (fun K hK => ?_) AllReadyH.nil; go_simp
      (with_reducible refine Calls.mono (HA.out _) ?_); rintro e w8r ⟨rfl, hb8⟩
      have hb7 : Below w6.heap.size w6 w8r := Below.trans (by repeat (first | exact hb9 | exact Below.refl _ _ | refine Below.drew ?_ | refine Below.alloc ?_ (by first | exact Nat.le_refl _ | exact hb9.size | (simp; done) | (have := hb9.size; simp; omega) | (simp; omega)) _)) (Below.mono hb8 (by first | exact Nat.le_refl _ | exact hb9.size | (simp; done) | (have := hb9.size; simp; omega) | (simp; omega)))
      clear hb8; (try clear hb9); have hb9 := hb7; clear hb7
      try go_wp2_with fail
      refine hK.out _ _ ?_ (fun hHeld => ?_)
      · try dsimp only
        exact (fun K => ⟨(blkC (A6.out.stay K).f).1, (blkC (A6.out.stay K).a).1, (blkC (A6.out.stay K).c).1, K⟩) (by repeat (first | exact hb9 | exact Below.refl _ _ | refine Below.drew ?_ | refine Below.alloc ?_ (by first | exact Nat.le_refl _ | exact hb9.size | (simp; done) | (have := hb9.size; simp; omega) | (simp; omega)) _))
      clear hK K; try simp only [Act.put, List.setIfInBounds_toArray, List.set_cons_zero, List.set_cons_succ]
      refine wpAnyH_take (i := 9) (v := ?hv8) rfl (by kernel_rfl) (by kernel_rfl) (by kernel_rfl) (fun _ _ _ h => h) (Or.inl ⟨by rfl, ?hy8⟩) (by assumption) ?hr8; (case hy8 => ((intro w hSw; (try dsimp only at hSw); go_simp) <;> with_reducible rfl)); try simp only [Act.put]
      refine wpAnyH_take (i := 10) (v := ?hv9) rfl (by kernel_rfl) (by kernel_rfl) (by kernel_rfl) (fun _ _ _ h => h) (Or.inl ⟨by rfl, ?hy9⟩) (by assumption) ?hr9; (case hy9 => ((intro w hSw; (try dsimp only at hSw); go_simp) <;> with_reducible rfl)); try simp only [Act.put]
      refine wpAnyH_take (i := 11) (v := ?hv17) rfl (by kernel_rfl) (by kernel_rfl) (by kernel_rfl) (fun _ _ _ h => h) (Or.inl ⟨by kernel_rfl, ?hy17⟩) (by assumption) ?hr17; (case hy17 => ((intro w hSw; (try dsimp only at hSw); go_simp) <;> with_reducible rfl)); try simp only [Act.put]
      refine wpAnyH_take (i := 12) (v := ?hv18) rfl (by kernel_rfl) (by kernel_rfl) (by kernel_rfl) (fun _ _ _ h => h) (Or.inl ⟨by kernel_rfl, ?hy18⟩) (by assumption) ?hr18; (case hy18 => ((intro w hSw; (try dsimp only at hSw); go_simp) <;> with_reducible rfl)); try simp only [Act.put]
      refine wpAnyH_take (i := 13) (v := ?hv19) rfl (by kernel_rfl) (by kernel_rfl) (by kernel_rfl) (fun _ _ _ h => h) (Or.inl ⟨by kernel_rfl, ?hy19⟩) (by assumption) ?hr19; (case hy19 => ((intro w hSw; (try dsimp only at hSw); go_simp) <;> with_reducible rfl)); try simp only [Act.put]
      refine wpAnyH_take (i := 14) (v := ?hv20) rfl (by kernel_rfl) (by kernel_rfl) (by kernel_rfl) (fun _ _ _ h => h) (Or.inl ⟨by kernel_rfl, ?hy20⟩) (by assumption) ?hr20; (case hy20 => ((intro w hSw; (try dsimp only at hSw); go_simp) <;> with_reducible rfl)); try simp only [Act.put]
      refine wpAnyH_take (i := 15) (v := ?hv21) rfl (by kernel_rfl) (by kernel_rfl) (by kernel_rfl) (fun _ _ _ h => h) (Or.inl ⟨by kernel_rfl, ?hy21⟩) (by assumption) ?hr21; (case hy21 => ((intro w hSw; (try dsimp only at hSw); go_simp) <;> with_reducible rfl)); try simp only [Act.put]
      refine wpAnyH_take (i := 16) (v := ?hv22) rfl (by kernel_rfl) (by kernel_rfl) (by kernel_rfl) (fun _ _ _ h => h) (Or.inl ⟨by kernel_rfl, ?hy22⟩) (by assumption) ?hr22; (case hy22 => ((intro w hSw; (try dsimp only at hSw); go_simp) <;> with_reducible rfl)); try simp only [Act.put]
      refine wpAnyH_ready (rs := [17]) (by kernel_rfl) (by simp) ?_; refine AllReadyH.cons rfl (fun K hK => ?_) AllReadyH.nil; go_simp
      (with_reducible refine Calls.mono (HC.out _) ?_); rintro e w17r ⟨rfl, hb8⟩
      have hb7 : Below w6.heap.size w6 w17r := Below.trans (by repeat (first | exact hb9 | exact Below.refl _ _ | refine Below.drew ?_ | refine Below.alloc ?_ (by first | exact Nat.le_refl _ | exact hb9.size | (simp; done) | (have := hb9.size; simp; omega) | (simp; omega)) _)) (Below.mono hb8 (by first | exact Nat.le_refl _ | exact hb9.size | (simp; done) | (have := hb9.size; simp; omega) | (simp; omega)))
      clear hb8; (try clear hb9); have hb9 := hb7; clear hb7
      try go_wp2_with fail
      refine hK.out _ _ ?_ (fun hHeld => ?_)
      · try dsimp only
        exact (fun K => ⟨(blkC (A6.out.stay K).f).1, (blkC (A6.out.stay K).a).1, (blkC (A6.out.stay K).c).1, K⟩) (by repeat (first | exact hb9 | exact Below.refl _ _ | refine Below.drew ?_ | refine Below.alloc ?_ (by first | exact Nat.le_refl _ | exact hb9.size | (simp; done) | (have := hb9.size; simp; omega) | (simp; omega)) _))
      clear hK K; try simp only [Act.put, List.setIfInBounds_toArray, List.set_cons_zero, List.set_cons_succ]
      refine wpAnyH_take (i := 18) (v := ?hv23) rfl (by kernel_rfl) (by kernel_rfl) (by kernel_rfl) (fun _ _ _ h => h) (Or.inl ⟨by kernel_rfl, ?hy23⟩) (by assumption) ?hr23; (case hy23 => ((intro w hSw; (try dsimp only at hSw); go_simp) <;> with_reducible rfl)); try simp only [Act.put]
      refine wpAnyH_take (i := 19) (v := ?hv10) rfl (by kernel_rfl) (by kernel_rfl) (by kernel_rfl) (fun _ _ _ h => h) (Or.inl ⟨by rfl, ?hy10⟩) (by assumption) ?hr10; (case hy10 => ((intro w hSw; (try dsimp only at hSw); go_simp) <;> with_reducible rfl)); try simp only [Act.put]
      refine wpAnyH_ready (rs := [20]) (by kernel_rfl) (by simp) ?_; refine AllReadyH.cons rfl (fun K hK => ?_) AllReadyH.nil; go_simp
      (with_reducible refine Calls.mono (WH.out (!hc) _) ?_); rintro e w' ⟨rfl, rfl⟩
      try go_wp2_with fail
      refine hK.out _ _ ?_ (fun hHeld => ?_)
      · try dsimp only
        exact (fun K => ⟨(blkC (A6.out.stay K).f).1, (blkC (A6.out.stay K).a).1, (blkC (A6.out.stay K).c).1, K⟩) (by repeat (first | exact hb9 | exact Below.refl _ _ | refine Below.drew ?_ | refine Below.alloc ?_ (by first | exact Nat.le_refl _ | exact hb9.size | (simp; done) | (have := hb9.size; simp; omega) | (simp; omega)) _))
      clear hK K; try simp only [Act.put, List.setIfInBounds_toArray, List.set_cons_zero, List.set_cons_succ]
      refine wpAnyH_ready (rs := [21]) (by kernel_rfl) (by simp) ?_; refine AllReadyH.cons rfl (fun K hK => ?_) AllReadyH.nil; go_simp
      refine hK.out _ _ ?_ (fun hHeld => ?_)
      · try dsimp only
        exact (fun K => ⟨(blkC (A6.out.stay K).f).1, (blkC (A6.out.stay K).a).1, (blkC (A6.out.stay K).c).1, K⟩) (by repeat (first | exact hb9 | exact Below.refl _ _ | refine Below.drew ?_ | refine Below.alloc ?_ (by first | exact Nat.le_refl _ | exact hb9.size | (simp; done) | (have := hb9.size; simp; omega) | (simp; omega)) _))
      clear hK K; try simp only [Act.put, List.setIfInBounds_toArray, List.set_cons_zero, List.set_cons_succ]
      refine wpAnyH_ready (rs := [22]) (by kernel_rfl) (by simp) ?_; refine AllReadyH.cons rfl (fun K hK => ?_) AllReadyH.nil; go_simp
      (with_reducible refine Calls.mono (FI2.out _ _ (by first | ((simp only [heap_alloc_get, if_true]) <;> ((repeat' split) <;> first | rfl | omega)) | ((simp only [heap_alloc_get, heap_size_alloc, if_true]) <;> ((repeat' split) <;> first | rfl | omega)))) ?_); rintro e w' ⟨rfl, rfl⟩
      try go_wp2_with fail
      refine hK.out _ _ ?_ (fun hHeld => ?_)
      · try dsimp only
        exact (fun K => ⟨(blkC (A6.out.stay K).f).1, (blkC (A6.out.stay K).a).1, (blkC (A6.out.stay K).c).1, K⟩) (by repeat (first | exact hb9 | exact Below.refl _ _ | refine Below.drew ?_ | refine Below.alloc ?_ (by first | exact Nat.le_refl _ | exact hb9.size | (simp; done) | (have := hb9.size; simp; omega) | (simp; omega)) _))
      clear hK K; try simp only [Act.put, List.setIfInBounds_toArray, List.set_cons_zero, List.set_cons_succ]
      refine wpAnyH_take (i := 23) (v := ?hv11) rfl (by kernel_rfl) (by kernel_rfl) (by kernel_rfl) (fun _ _ _ h => h) (Or.inl ⟨by rfl, ?hy11⟩) (by assumption) ?hr11; (case hy11 => ((intro w hSw; (try dsimp only at hSw); go_simp) <;> with_reducible rfl)); try simp only [Act.put]
      refine wpAnyH_done (by kernel_rfl) ?_ _
      have hHH := hHeld.2.2.2
      have AH := Lib.hid (A6.out.stay hHH)
      clear hHeld
      generalize w17r.alloc (.cells #[.int .i64 fe, .int .i64 (whenE (!hc) 5)] 30) = wh at *
      obtain ⟨cF, fF, zF⟩ := blkC AH.out.f
      clear cF fF zF
      have BH := Lib.hid hHH
      clear hHH
      have FPH := Lib.hid (flAt_congr (flAt_congr (flAt_congr (flAt_congr (flAt_congr (flAt_congr FP2.out (BL3.out.block gp ZP.out)) (HB.out.block gp (Nat.lt_of_lt_of_le ZP.out BL3.out.size))) (B4.out.block gp (Nat.lt_of_lt_of_le ZP.out (Nat.le_trans BL3.out.size HB.out.size)))) (B5.out.block gp (Nat.lt_of_lt_of_le ZP.out (Nat.le_trans BL3.out.size (Nat.le_trans HB.out.size B4.out.size))))) (B6.out.block gp (Nat.lt_of_lt_of_le ZP.out (Nat.le_trans BL3.out.size (Nat.le_trans HB.out.size (Nat.le_trans B4.out.size B5.out.size)))))) (BH.out.block gp (Nat.lt_of_lt_of_le ZP.out (Nat.le_trans BL3.out.size (Nat.le_trans HB.out.size (Nat.le_trans B4.out.size (Nat.le_trans B5.out.size B6.out.size)))))))
      have ZH := Lib.hid (show gp < wh.heap.size from Nat.lt_of_lt_of_le ZP.out (Nat.le_trans BL3.out.size (Nat.le_trans HB.out.size (Nat.le_trans B4.out.size (Nat.le_trans B5.out.size (Nat.le_trans B6.out.size BH.out.size))))))
      go_wp2
      refine wp_region_held_drew (S := (fun w' => (∀ o, w'.cell? ⟨w.heap.size, o, none⟩ = #[.int .i64 X, .int .i64 Y, .int .i64 W, .int .i64 H, .slice a n cap][o]?) ∧ (∀ o, w'.cell? ⟨w.heap.size + 1, o, none⟩ = #[.int .i64 ax, .int .i64 ay][o]?) ∧ (∀ o, w'.cell? ⟨w.heap.size + 1 + 1, o, none⟩ = #[.int .i64 cx, .int .i64 cy][o]?) ∧ Below wh.heap.size wh w')) (by kernel_rfl) ?_ (fun hHeld => ?_)
      · try dsimp only
        exact (fun K => ⟨(blkC (AH.out.stay K).f).1, (blkC (AH.out.stay K).a).1, (blkC (AH.out.stay K).c).1, K⟩) (by repeat (first | exact hb9 | exact Below.refl _ _ | refine Below.drew ?_ | refine Below.alloc ?_ (by first | exact Nat.le_refl _ | exact hb9.size | (simp; done) | (have := hb9.size; simp; omega) | (simp; omega)) _))
      refine wpAnyH_take (i := 0) (v := ?hv12) rfl (by kernel_rfl) (by kernel_rfl) (by kernel_rfl) (fun _ _ _ h => h) (Or.inl ⟨by rfl, ?hy12⟩) (by assumption) ?hr12; (case hy12 => ((intro w hSw; (try dsimp only at hSw); go_simp) <;> with_reducible rfl)); try simp only [Act.put]
      refine wpAnyH_take (i := 1) (v := ?hv13) rfl (by kernel_rfl) (by kernel_rfl) (by kernel_rfl) (fun _ _ _ h => h) (Or.inl ⟨by rfl, ?hy13⟩) (by assumption) ?hr13; (case hy13 => ((intro w hSw; (try dsimp only at hSw); go_simp) <;> with_reducible rfl)); try simp only [Act.put]
      refine wpAnyH_take (i := 2) (v := ?hv14) rfl (by kernel_rfl) (by kernel_rfl) (by kernel_rfl) (fun _ _ _ h => h) (Or.inl ⟨by rfl, ?hy14⟩) (by assumption) ?hr14; (case hy14 => ((intro w hSw; (try dsimp only at hSw); go_simp) <;> with_reducible rfl)); try simp only [Act.put]
      refine wpAnyH_take (i := 3) (v := ?hv24) rfl (by kernel_rfl) (by kernel_rfl) (by kernel_rfl) (fun _ _ _ h => h) (Or.inl ⟨by kernel_rfl, ?hy24⟩) (by assumption) ?hr24; (case hy24 => ((intro w hSw; (try dsimp only at hSw); go_simp) <;> with_reducible rfl)); try simp only [Act.put]
      refine wpAnyH_take (i := 4) (v := ?hv25) rfl (by kernel_rfl) (by kernel_rfl) (by kernel_rfl) (fun _ _ _ h => h) (Or.inl ⟨by kernel_rfl, ?hy25⟩) (by assumption) ?hr25; (case hy25 => ((intro w hSw; (try dsimp only at hSw); go_simp) <;> with_reducible rfl)); try simp only [Act.put]
      refine wpAnyH_take (i := 5) (v := ?hv26) rfl (by kernel_rfl) (by kernel_rfl) (by kernel_rfl) (fun _ _ _ h => h) (Or.inl ⟨by kernel_rfl, ?hy26⟩) (by assumption) ?hr26; (case hy26 => ((intro w hSw; (try dsimp only at hSw); go_simp) <;> with_reducible rfl)); try simp only [Act.put]
      refine wpAnyH_take (i := 6) (v := ?hv27) rfl (by kernel_rfl) (by kernel_rfl) (by kernel_rfl) (fun _ _ _ h => h) (Or.inl ⟨by kernel_rfl, ?hy27⟩) (by assumption) ?hr27; (case hy27 => ((intro w hSw; (try dsimp only at hSw); go_simp) <;> with_reducible rfl)); try simp only [Act.put]
      refine wpAnyH_ready (rs := [7]) (by kernel_rfl) (by simp) ?_; refine AllReadyH.cons rfl (fun K hK => ?_) AllReadyH.nil; go_simp
      (with_reducible refine Calls.mono (LO.out _) ?_); rintro e w7 ⟨gq, qc, rfl, hgq, hrq, hb8⟩
      have hb7 : Below wh.heap.size wh w7 := Below.trans (by repeat (first | exact Below.refl _ _ | refine Below.drew ?_)) (Below.mono hb8 (by first | exact Nat.le_refl _ | (simp; done)))
      have RQ := Lib.hid hrq
      clear hb8 hgq hrq; have hb9 := hb7; have B7 := Lib.hid hb7; clear hb7
      try go_wp2_with fail
      refine hK.out _ _ ?_ (fun hHeld => ?_)
      · try dsimp only
        exact (fun K => ⟨(blkC (AH.out.stay K).f).1, (blkC (AH.out.stay K).a).1, (blkC (AH.out.stay K).c).1, K⟩) (by repeat (first | exact hb9 | exact Below.refl _ _ | refine Below.drew ?_ | refine Below.alloc ?_ (by first | exact Nat.le_refl _ | exact hb9.size | (simp; done) | (have := hb9.size; simp; omega) | (simp; omega)) _))
      clear hK K; try simp only [Act.put, List.setIfInBounds_toArray, List.set_cons_zero, List.set_cons_succ]
      refine wpAnyH_ready (rs := [8]) (by kernel_rfl) (by simp) ?_; refine AllReadyH.cons rfl (fun K hK => ?_) AllReadyH.nil; go_simp
      (with_reducible refine Calls.mono (VA.out _ _ _ RQ.out (AH.out.b.trans (Below.mono B7.out AH.out.b.size))) ?_); rintro e w8 ⟨gv, vc, rfl, hgv, hfv, hb8⟩
      have FV := Lib.hid hfv
      have hb7 := B7.out.trans (hb8.mono B7.out.size); clear hb8 hgv hfv hb9; have hb9 := hb7; have B8 := Lib.hid hb7; clear hb7
      try go_wp2_with fail
      refine hK.out _ _ ?_ (fun hHeld => ?_)
      · try dsimp only
        exact (fun K => ⟨(blkC (AH.out.stay K).f).1, (blkC (AH.out.stay K).a).1, (blkC (AH.out.stay K).c).1, K⟩) (by repeat (first | exact hb9 | exact Below.refl _ _ | refine Below.drew ?_ | refine Below.alloc ?_ (by first | exact Nat.le_refl _ | exact hb9.size | (simp; done) | (have := hb9.size; simp; omega) | (simp; omega)) _))
      clear hK K; try simp only [Act.put, List.setIfInBounds_toArray, List.set_cons_zero, List.set_cons_succ]
      refine wpAnyH_ready (rs := [9]) (by kernel_rfl) (by simp) ?_; refine AllReadyH.cons rfl (fun K hK => ?_) AllReadyH.nil; go_simp
      (with_reducible refine Calls.mono (bits_any gp gv _ _ M f (by have := HM.out; omega) _ (flAt_congr FPH.out (B8.out.block gp ZH.out)) FV.out) ?_); rintro e w9 ⟨rfl, rfl⟩
      try go_wp2_with fail
      refine hK.out _ _ ?_ (fun hHeld => ?_)
      · try dsimp only
        exact (fun K => ⟨(blkC (AH.out.stay K).f).1, (blkC (AH.out.stay K).a).1, (blkC (AH.out.stay K).c).1, K⟩) (by repeat (first | exact hb9 | exact Below.refl _ _ | refine Below.drew ?_ | refine Below.alloc ?_ (by first | exact Nat.le_refl _ | exact hb9.size | (simp; done) | (have := hb9.size; simp; omega) | (simp; omega)) _))
      clear hK K; try simp only [Act.put, List.setIfInBounds_toArray, List.set_cons_zero, List.set_cons_succ]
      refine wpAnyH_take (i := 10) (v := ?hv15) rfl (by kernel_rfl) (by kernel_rfl) (by kernel_rfl) (fun _ _ _ h => h) (Or.inl ⟨by rfl, ?hy15⟩) (by assumption) ?hr15; (case hy15 => ((intro w hSw; (try dsimp only at hSw); go_simp) <;> with_reducible rfl)); try simp only [Act.put]
      try simp only [List.getElem_toArray, List.getElem_cons_succ, List.getElem_cons_zero]
      refine wpAnyH_take (i := 11) (v := ?hv16) rfl (by kernel_rfl) (by kernel_rfl) (by kernel_rfl) (fun _ _ _ h => h) (Or.inl ⟨by rfl, ?hy16⟩) (by assumption) ?hr16; (case hy16 => ((intro w hSw; (try dsimp only at hSw); go_simp) <;> with_reducible rfl)); try simp only [Act.put]
      try simp only [List.getElem_toArray, List.getElem_cons_succ, List.getElem_cons_zero]
      refine wpAnyH_done (by kernel_rfl) ?_ _
      have A9 := Lib.hid (AH.out.stay hHeld.2.2.2)
      clear hHeld
      go_wp2
      go_ret
      exact ⟨rfl, A9.out.b⟩
end Go.Proofs.Ytjjafjdjdjonfaa

/- LinesMatch, whatever comes in. -/
namespace Go.Proofs.Ytjjafjdjdjonfaa
open Go.RowKit Fl
set_option linter.unusedVariables false

theorem want2_cases (a b c d : Bool) : want2 a b c d = 5 ∨ want2 a b c d = 0 := by
  cases a <;> cases b <;> cases c <;> cases d <;> decide
theorem want2_plc (ax ay cx cy : Int) : want2 (withinB ax (-4194304) 4194304) (withinB ay (-4194304) 4194304) (withinB cx (-4194304) 4194304) (withinB cy (-4194304) 4194304) = if plcE ax ay ≠ 0 then 5 else if plcE cx cy ≠ 0 then 5 else 0 := by
  unfold plcE
  cases withinB ax (-4194304) 4194304 <;> cases withinB ay (-4194304) 4194304 <;> cases withinB cx (-4194304) 4194304 <;> cases withinB cy (-4194304) 4194304 <;> decide
theorem hasW_B {X Y W H : Int} (h0 : checkR X Y W H = 0) (x y : Int) : hasW X Y W H x y = hasB X Y W H x y := by
  obtain ⟨b1, b2, b3, b4, b5, b6, b7, b8, b9⟩ := checkR_zero h0
  have e1 : wrap64 (X + W) = X + W := IntWalk.wrap64_in _ ⟨by omega, by omega⟩
  have e2 : wrap64 (Y + H) = Y + H := IntWalk.wrap64_in _ ⟨by omega, by omega⟩
  unfold hasW hasB
  rw [e1, e2, Bool.eq_iff_iff]
  simp [withinB_iff]
  omega
theorem insE_has (X Y W H ax ay cx cy : Int) : insE X Y W H ax ay cx cy = whenE (!(hasB X Y W H ax ay) || !(hasB X Y W H cx cy)) 5 := by
  unfold insE whenE
  cases hasB X Y W H ax ay <;> cases hasB X Y W H cx cy <;> simp
/-- What the law reckons of a field and two places is what Profile answers. -/
theorem prof_want (X Y W H : Int) (n : Nat) (er ax ay cx cy : Int) : firstE (fldChk X Y W H n er) (whenE (!(hasW X Y W H ax ay) || !(hasW X Y W H cx cy)) 5) = profE X Y W H n er ax ay cx cy := by
  unfold firstE profE
  by_cases h : fldChk X Y W H n er = 0
  · rw [if_pos h, if_neg (by simpa using h)]
    have h0 : checkR X Y W H = 0 := by
      unfold fldChk at h
      by_cases q : checkR X Y W H = 0
      · exact q
      · rw [if_pos q] at h; exact absurd h q
    rw [hasW_B h0, hasW_B h0, insE_has]
  · rw [if_neg h, if_pos h]

theorem inR_of {X Y W H x y : Int} (h : hasB X Y W H x y = true) : InR X Y W H ⟨x, y⟩ := by
  unfold hasB at h
  rw [Bool.and_eq_true, withinB_iff, withinB_iff] at h
  exact ⟨by simp only; omega, by simp only; omega, by simp only; omega, by simp only; omega⟩

/-- LinesMatch, of whatever slice. -/
theorem linesMatch_sl (X Y W H : Int) (a : Option Addr) (n cap : Nat) (er ax ay cx cy : Int) (w : World) (hE : SlE w a n cap er)
    (hF : er = 0 → n ≠ 0 → ∃ b off v, a = some ⟨b, off, none⟩ ∧ FlAt w b off n v) :
    Calls Try.prog 3 #[fldV X Y W H (.slice a n cap), ptV ax ay, ptV cx cy] w fun e w' => e = .returned (.bool true) ∧ Below w.heap.size w w' := by
  have WXA := Lib.hid (fun w => mWithin_any ax (-4194304) 4194304 w)
  have WYA := Lib.hid (fun w => mWithin_any ay (-4194304) 4194304 w)
  have WXC := Lib.hid (fun w => mWithin_any cx (-4194304) 4194304 w)
  have WYC := Lib.hid (fun w => mWithin_any cy (-4194304) 4194304 w)
  have FE := Lib.hid (fun W' (hB : Below w.heap.size w W') => qFieldError_any X Y W H a n cap er W' (hE.stay hB).2)
  have HA := Lib.hid (fun w => qHasW_any X Y W H ax ay w)
  have HC := Lib.hid (fun w => qHasW_any X Y W H cx cy w)
  have PW := prof_want X Y W H n er ax ay cx cy
  have W2 := want2_plc ax ay cx cy
  have pa := plcE_cases ax ay
  have pc := plcE_cases cx cy
  have FI := fun x y p w h => first2_any x y p w h
  -- the line
  have L5 : want2 (withinB ax (-4194304) 4194304) (withinB ay (-4194304) 4194304) (withinB cx (-4194304) 4194304) (withinB cy (-4194304) 4194304) = 5 → Hid (∀ w', Below w.heap.size w w' → Calls Try.prog 5 #[ptV ax ay, ptV cx cy] w' fun e w'' => e = .returned (.tuple #[.slice none 0 0, .int .i64 5]) ∧ Below w'.heap.size w' w'') := fun h => by
    refine Lib.hid fun w' _ => ?_
    rw [W2] at h
    rcases pa with p | p
    · rw [if_neg (by simpa using p)] at h
      rcases pc with q | q
      · rw [if_neg (by simpa using q)] at h; cases h
      · exact line_b ax ay cx cy w' p q
    · exact line_a ax ay cx cy w' p
  have L0 : want2 (withinB ax (-4194304) 4194304) (withinB ay (-4194304) 4194304) (withinB cx (-4194304) 4194304) (withinB cy (-4194304) 4194304) = 0 → plcE ax ay = 0 ∧ plcE cx cy = 0 := fun h => by
    rw [W2] at h
    rcases pa with p | p
    · rw [if_neg (by simpa using p)] at h
      rcases pc with q | q
      · exact ⟨p, q⟩
      · rw [if_pos (by rw [q]; decide)] at h; cases h
    · rw [if_pos (by rw [p]; decide)] at h; cases h
  have MX : ∀ (W' : World) (ts : Array TypeId) (t : TypeId), (Builtin.max_ ts t #[.int .i64 (cx - ax), .int .i64 (ax - cx), .int .i64 (cy - ay), .int .i64 (ay - cy)]).run Try.prog W' = .ok (.int .i64 (farI ⟨ax, ay⟩ ⟨cx, cy⟩)) W' := fun W' ts t => run_maxI4 ts t _ _ _ _ W'
  obtain ⟨f0, f1, f2, f3, f4⟩ := farI_parts ⟨ax, ay⟩ ⟨cx, cy⟩
  have fb : plcE ax ay = 0 → plcE cx cy = 0 → farI ⟨ax, ay⟩ ⟨cx, cy⟩ ≤ 16777216 := fun p q => by
    obtain ⟨x1, x2, x3, x4⟩ := plcE_ok p
    obtain ⟨y1, y2, y3, y4⟩ := plcE_ok q
    obtain ⟨_, _, u⟩ := maxI_le (cx - ax) (ax - cx)
    obtain ⟨_, _, u2⟩ := maxI_le (maxI (cx - ax) (ax - cx)) (cy - ay)
    obtain ⟨_, _, u3⟩ := maxI_le (maxI (maxI (cx - ax) (ax - cx)) (cy - ay)) (ay - cy)
    unfold farI
    simp only
    omega
  by_cases hpe : profE X Y W H n er ax ay cx cy = 0
  · -- both are right
    have hfe : fldChk X Y W H n er = 0 := by
      unfold profE at hpe
      by_cases q : fldChk X Y W H n er = 0
      · exact q
      · rw [if_pos q] at hpe; exact absurd hpe q
    have hins : insE X Y W H ax ay cx cy = 0 := by
      unfold profE at hpe
      rwa [if_neg (by simpa using hfe)] at hpe
    have h0 : checkR X Y W H = 0 := by
      unfold fldChk at hfe
      by_cases q : checkR X Y W H = 0
      · exact q
      · rw [if_pos q] at hfe; exact absurd hfe q
    have hnn : (n : Int) = W * H := by
      unfold fldChk at hfe
      rw [if_neg (by simpa using h0)] at hfe
      by_cases q : (n : Int) = W * H
      · exact q
      · rw [if_pos q] at hfe; cases hfe
    have her : er = 0 := by
      unfold fldChk at hfe
      rwa [if_neg (by simpa using h0), if_neg (by simpa using hnn)] at hfe
    obtain ⟨b1, b2, b3, b4, b5, b6, b7, b8, b9⟩ := checkR_zero h0
    obtain ⟨W', rfl⟩ : ∃ W' : Nat, W = W' := ⟨W.toNat, by omega⟩
    obtain ⟨H', rfl⟩ : ∃ H' : Nat, H = H' := ⟨H.toNat, by omega⟩
    have hn : n = W' * H' := by
      have : ((W' * H' : Nat) : Int) = W' * H' := by simp
      omega
    have hn1 : n ≠ 0 := by
      have := (mul_side b1 b2 b3 b4).1
      omega
    obtain ⟨b, off, v, rfl, hr⟩ := hF her hn1
    subst her
    have ha : hasB X Y W' H' ax ay = true := by
      rw [insE_has] at hins
      have := whenE_zero (by decide) hins
      cases z : hasB X Y W' H' ax ay with
      | true => rfl
      | false => rw [z] at this; cases this
    have hc : hasB X Y W' H' cx cy = true := by
      rw [insE_has, ha] at hins
      have := whenE_zero (by decide) hins
      cases z : hasB X Y W' H' cx cy with
      | true => rfl
      | false => rw [z] at this; cases this
    have ia := inR_of ha
    have ic := inR_of hc
    have q1 := ia.1
    have q2 := ia.2.1
    have q3 := ia.2.2.1
    have q4 := ia.2.2.2
    have q5 := ic.1
    have q6 := ic.2.1
    have q7 := ic.2.2.1
    have q8 := ic.2.2.2
    simp only at q1 q2 q3 q4 q5 q6 q7 q8
    have zb : b < w.heap.size := World.block_lt_of_cell? w _ (hr 0 (by omega))
    have p1 : plcE ax ay = 0 := by unfold plcE; rw [if_pos ⟨withinB_iff.2 ⟨by omega, by omega⟩, withinB_iff.2 ⟨by omega, by omega⟩⟩]
    have p2 : plcE cx cy = 0 := by unfold plcE; rw [if_pos ⟨withinB_iff.2 ⟨by omega, by omega⟩, withinB_iff.2 ⟨by omega, by omega⟩⟩]
    have w20 : want2 (withinB ax (-4194304) 4194304) (withinB ay (-4194304) 4194304) (withinB cx (-4194304) 4194304) (withinB cy (-4194304) 4194304) = 0 := by rw [W2, if_neg (by simpa using p1), if_neg (by simpa using p2)]
    obtain ⟨m, hm⟩ : ∃ m : Nat, farI ⟨ax, ay⟩ ⟨cx, cy⟩ = m := ⟨(farI ⟨ax, ay⟩ ⟨cx, cy⟩).toNat, by omega⟩
    have hm2 : m ≤ 65535 := by
      obtain ⟨_, _, u⟩ := maxI_le (cx - ax) (ax - cx)
      obtain ⟨_, _, u2⟩ := maxI_le (maxI (cx - ax) (ax - cx)) (cy - ay)
      obtain ⟨_, _, u3⟩ := maxI_le (maxI (maxI (cx - ax) (ax - cx)) (cy - ay)) (ay - cy)
      have hm' := hm
      unfold farI at hm'
      simp only at hm'
      omega
    rw [hm] at MX f0 f1 f2 f3 f4
    simp only at f1 f2 f3 f4
    have FI0 := Lib.hid (fun p w (h : w.heap[p]? = some (.cells #[.int .i64 (fldChk X Y W' H' n 0), .int .i64 (whenE (!(hasW X Y W' H' cx cy)) 5)] 30)) => show Calls Try.prog 7 #[.slice (some ⟨p, 0, none⟩) 2 2] w fun e w' => e = .returned (.int .i64 0) ∧ w = w' from by
      have := FI _ _ p w h
      rw [hasW_B h0, hc] at this
      rw [hfe] at this
      exact this)
    rw [show hasW X Y W' H' ax ay = true from (hasW_B h0 ax ay).trans ha] at HA
    have LN : ∀ i, i < m + 1 → InR X Y W' H' (lnP ⟨ax, ay⟩ ⟨cx, cy⟩ i) := fun i hi => lnP_in (by rw [hm]; omega) ⟨q1, q2, q3, q4⟩ ⟨q5, q6, q7, q8⟩
    refine linD X Y W' H' (some ⟨b, off, none⟩) n cap ax ay cx cy w _ _ _ _ (fldChk X Y W' H' n 0) m _ (m + 1) (lnP ⟨ax, ay⟩ ⟨cx, cy⟩) (fun i => atP X Y W' v (lnP ⟨ax, ay⟩ ⟨cx, cy⟩ i)) WXA WYA WXC WYC w20 (by omega) (by omega) (by omega) (by omega) (by omega) (by omega) (by omega) (by omega) (by omega) MX (by omega) (by omega) (Lib.hid (by omega)) (Lib.hid (by omega))
      (Lib.hid fun w' _ => line_ok ax ay cx cy w' m p1 p2 hm hm2)
      (Lib.hid fun w' => lineOf_aux ax ay cx cy (cx - ax) (cy - ay) m (lnP ⟨ax, ay⟩ ⟨cx, cy⟩) w' (by omega) (by omega) (by omega) (by omega) (by omega) (by omega) (by omega) (by omega) rfl rfl ?_ hm2 f1 f2 f3 f4 (Lib.hid fun i => by unfold lnP; rw [hm]))
      (Lib.hid fun w' hB => profile_ok X Y W' H' n b off cap v ax ay cx cy m w' (flAt_congr hr (hB.block b zb)) (hE.stay hB) h0 hn ia ic hins hm (m + 1) rfl)
      (Lib.hid fun w' g gc hp hB => values_any X Y W' H' n b off cap v g (m + 1) gc (lnP ⟨ax, ay⟩ ⟨cx, cy⟩) w' (flAt_congr hr (hB.block b zb)) h0 hn hp LN (by omega) (by omega))
      FE HA HC FI0
    rw [← hm]
    unfold farI
    simp only
    rw [show -(cx - ax) = ax - cx by omega, show -(cy - ay) = ay - cy by omega]
  · -- Profile is an error
    have hpb : (profE X Y W H n er ax ay cx cy != 0) = true := by simpa using hpe
    have PR := Lib.hid (fun w' (hB : Below w.heap.size w w') => profile_no X Y W H a n cap er ax ay cx cy w' (hE.stay hB) hpe)
    have FIt : hasW X Y W H ax ay = true → Hid (∀ p w, w.heap[p]? = some (.cells #[.int .i64 (fldChk X Y W H n er), .int .i64 (whenE (!(hasW X Y W H cx cy)) 5)] 30) → Calls Try.prog 7 #[.slice (some ⟨p, 0, none⟩) 2 2] w fun e w' => e = .returned (.int .i64 (profE X Y W H n er ax ay cx cy)) ∧ w = w') := fun z => Lib.hid fun p w h => by
      have := FI _ _ p w h
      rw [z] at PW
      rw [← PW]
      exact this
    have FIf : hasW X Y W H ax ay = false → Hid (∀ p w, w.heap[p]? = some (.cells #[.int .i64 (fldChk X Y W H n er), .int .i64 (whenE true 5)] 30) → Calls Try.prog 7 #[.slice (some ⟨p, 0, none⟩) 2 2] w fun e w' => e = .returned (.int .i64 (profE X Y W H n er ax ay cx cy)) ∧ w = w') := fun z => Lib.hid fun p w h => by
      have := FI _ _ p w h
      rw [z] at PW
      rw [← PW]
      exact this
    rcases want2_cases (withinB ax (-4194304) 4194304) (withinB ay (-4194304) 4194304) (withinB cx (-4194304) 4194304) (withinB cy (-4194304) 4194304) with w5 | w0
    · have LI := L5 w5
      cases z : hasW X Y W H ax ay with
      | true => rw [z] at HA; exact linAt X Y W H a n cap ax ay cx cy w _ _ _ _ _ _ _ WXA WYA WXC WYC w5 LI PR FE HA HC (FIt z) hpb
      | false => rw [z] at HA; exact linAf X Y W H a n cap ax ay cx cy w _ _ _ _ _ _ true WXA WYA WXC WYC w5 LI PR FE HA (FIf z) hpb
    · obtain ⟨p1, p2⟩ := L0 w0
      obtain ⟨x1, x2, x3, x4⟩ := plcE_ok p1
      obtain ⟨x5, x6, x7, x8⟩ := plcE_ok p2
      have fb' := fb p1 p2
      rcases Int.lt_or_le (farI ⟨ax, ay⟩ ⟨cx, cy⟩) 65536 with hl | hl
      · obtain ⟨m, hm⟩ : ∃ m : Nat, farI ⟨ax, ay⟩ ⟨cx, cy⟩ = m := ⟨(farI ⟨ax, ay⟩ ⟨cx, cy⟩).toNat, by omega⟩
        rw [hm] at MX f0 f1 f2 f3 f4 hl fb'
        simp only at f1 f2 f3 f4
        have hm2 : m ≤ 65535 := by omega
        have LI : Hid (∀ w', Below w.heap.size w w' → Calls Try.prog 5 #[ptV ax ay, ptV cx cy] w' (LinePost w' (m + 1) (lnP ⟨ax, ay⟩ ⟨cx, cy⟩))) := Lib.hid fun w' _ => line_ok ax ay cx cy w' m p1 p2 hm hm2
        have LO : Hid (∀ w', Calls Try.prog 12 #[ptV ax ay, ptV cx cy] w' (PtsPost w' (m + 1) (lnP ⟨ax, ay⟩ ⟨cx, cy⟩))) :=
          Lib.hid fun w' => lineOf_aux ax ay cx cy (cx - ax) (cy - ay) m (lnP ⟨ax, ay⟩ ⟨cx, cy⟩) w' (by omega) (by omega) (by omega) (by omega) (by omega) (by omega) (by omega) (by omega) rfl rfl (by rw [← hm]; unfold farI; simp only; rw [show -(cx - ax) = ax - cx by omega, show -(cy - ay) = ay - cy by omega]) hm2 f1 f2 f3 f4 (Lib.hid fun i => by unfold lnP; rw [hm])
        cases z : hasW X Y W H ax ay with
        | true => rw [z] at HA; exact linCt X Y W H a n cap ax ay cx cy w _ _ _ _ _ _ m _ (m + 1) _ WXA WYA WXC WYC w0 (by omega) x1 x2 x3 x4 x5 x6 x7 x8 MX f0 (by omega) (Lib.hid (by omega)) (Lib.hid (by omega)) LI LO PR FE HA HC (FIt z) hpb
        | false => rw [z] at HA; exact linCf X Y W H a n cap ax ay cx cy w _ _ _ _ _ _ m true (m + 1) _ WXA WYA WXC WYC w0 (by omega) x1 x2 x3 x4 x5 x6 x7 x8 MX f0 (by omega) (Lib.hid (by omega)) (Lib.hid (by omega)) LI LO PR FE HA (FIf z) hpb
      · have LI : Hid (∀ w', Below w.heap.size w w' → Calls Try.prog 5 #[ptV ax ay, ptV cx cy] w' fun e w'' => e = .returned (.tuple #[.slice none 0 0, .int .i64 4]) ∧ Below w'.heap.size w' w'') := Lib.hid fun w' _ => line_c ax ay cx cy w' p1 p2 hl
        cases z : hasW X Y W H ax ay with
        | true => rw [z] at HA; exact linBt X Y W H a n cap ax ay cx cy w _ _ _ _ _ _ _ _ WXA WYA WXC WYC w0 hl x1 x2 x3 x4 x5 x6 x7 x8 MX f0 fb' LI PR FE HA HC (FIt z) hpb
        | false => rw [z] at HA; exact linBf X Y W H a n cap ax ay cx cy w _ _ _ _ _ _ _ true WXA WYA WXC WYC w0 hl x1 x2 x3 x4 x5 x6 x7 x8 MX f0 fb' LI PR FE HA (FIf z) hpb
end Go.Proofs.Ytjjafjdjdjonfaa

/- A field that came in, opened: four integers, and a slice of singles that is empty or known cell by cell. -/
namespace Go.Proofs.Ytjjafjdjdjonfaa
open Go.ChangeShapes Go.WideShapes Go.ChangeAt Go.RowKit Go.Joins Fl

section
variable {H : Type} {enc : TypeId × Value → H} {w : World} {base : Nat} {spare : Nat → Bool} {held : Bool}

theorem trod_f32 {P : Program} {t : TypeId} {fuel : Nat} {v : Value} {y : DataW H × List MemPlace} (ht : P.underlying t = some (.float .f32)) (h : DataW.trod enc P w base spare held fuel t [v] = some y) : ∃ b, v = .float .f32 b ∧ b < 4294967296 := by
  cases fuel with
  | zero => simp [DataW.trod] at h
  | succ n =>
    unfold DataW.trod at h
    rw [ht] at h
    cases v <;> simp at h
    rename_i k b
    obtain ⟨⟨rfl, hw⟩, _⟩ := h
    exact ⟨b, rfl, by simpa [Lit.wf] using hw⟩

theorem array5 {α : Type} {cs : Array α} (h : cs.size = 5) : ∃ c0 c1 c2 c3 c4, cs = #[c0, c1, c2, c3, c4] := by
  obtain ⟨l⟩ := cs
  match l, h with
  | [c0, c1, c2, c3, c4], _ => exact ⟨c0, c1, c2, c3, c4, rfl⟩

theorem flAt_congr' {w w' : World} {b off n : Nat} {f : Nat → Nat} (h : FlAt w b off n f) (e : w'.heap[b]? = w.heap[b]?) : FlAt w' b off n f := fun i hi => by
  rw [← h i hi]; exact World.cell?_of_block (w := w) (a := ⟨b, off + i, none⟩) e

/-- What a slice of singles is: empty, or known cell by cell. -/
def SlF (w : World) (s : Value) : Prop :=
  (∃ a cap, s = .slice a 0 cap) ∨ ∃ b off len cap x, s = .slice (some ⟨b, off, none⟩) len cap ∧ 0 < len ∧ len ≤ 9223372036854775807 ∧ FlAt w b off len x ∧ wf32 len x

theorem open_singles {t e : TypeId} {fuel : Nat} {cs : List Value} {y : DataW H × List MemPlace} (ht : Try.prog.underlying t = some (.slice e)) (he : Try.prog.underlying e = some (.float .f32)) (hc : Try.prog.cellsOf e = 1)
    (h : DataW.trod enc Try.prog w base spare held fuel t cs = some y) : ∃ s, cs = [s] ∧ SlF w s := by
  rcases Go.Deep.open_slice1 ht hc h with ⟨rfl, _⟩ | ⟨a, len, cap, m, n, V, D, Pl, rfl, hb, hl, hm, hmm, _, hx⟩
  · exact ⟨_, rfl, .inl ⟨none, 0, rfl⟩⟩
  · refine ⟨_, rfl, ?_⟩
    rcases Nat.eq_zero_or_pos len with z | z
    · subst z; exact .inl ⟨_, _, rfl⟩
    · have hlm : len ≤ m := by rw [hmm]; split <;> omega
      have h0 := (hx 0 (by omega)).1
      obtain ⟨b, off, spot⟩ := a
      have hspot : spot = none := by simpa [Addr.add] using World.cell?_spot h0
      subst hspot
      have hv : ∀ i, i < len → ∃ x, V i = .float .f32 x ∧ x < 4294967296 := fun i hi => trod_f32 he (hx i (by omega)).2
      refine .inr ⟨b, off, len, cap, fun i => match V i with | .float _ x => x | _ => 0, rfl, z, ?_, fun i hi => ?_, fun i hi => ?_⟩
      · exact Nat.le_trans hl (Nat.le_trans hm (by decide))
      · have h1 := (hx i (by omega)).1
        obtain ⟨x, e1, _⟩ := hv i hi
        rw [← Go.WideShapes.add_plain, h1]
        simp only [e1]
      · obtain ⟨x, e1, e2⟩ := hv i hi
        simp only [e1]; exact e2

theorem cellsF : Try.prog.cellsOf 26 = 5 := by kernel_rfl
theorem cellsR : Try.prog.cellsOf 23 = 4 := by kernel_rfl
theorem cellsS : Try.prog.cellsOf 24 = 1 := by kernel_rfl
theorem cells1 : Try.prog.cellsOf 50 = 1 := by kernel_rfl
theorem cellsI : Try.prog.cellsOf 3 = 1 := by kernel_rfl

set_option maxRecDepth 100000 in
theorem open_field {r : Reach} {b0 : Nat} {v : Value} {d : DataW H} {p : List MemPlace} (hv : Value.okWide Try.prog w r b0 26 v) (h : DataW.Trod enc Try.prog w base spare held 26 v d p) :
    ∃ X Y W' H' : Int, ∃ s, v = fldV X Y W' H' s ∧ SlF w s := by
  obtain ⟨cs, rfl, hsz⟩ := okWide_struct Try.underlying26 hv
  obtain ⟨c0, c1, c2, c3, c4, rfl⟩ := array5 (hsz.trans cellsF)
  obtain ⟨fuel, hf⟩ := h
  obtain ⟨y0, y1, n, _, _, h0, h1⟩ := trod_struct2 Try.underlying26 hf
  rw [cellsR] at h0
  rw [cellsS] at h1
  obtain ⟨s, e4, hs⟩ := open_singles Try.underlying24 Try.underlying50 cells1 h1
  obtain ⟨z0, z1, z2, z3, n2, _, _, g0, g1, g2, g3⟩ := trod_struct4 Try.underlying23 h0
  rw [cellsI] at g0 g1 g2 g3
  obtain ⟨x0, e0, _, _⟩ := DataW.trod_int Try.underlying3 g0
  obtain ⟨x1, e1, _, _⟩ := DataW.trod_int Try.underlying3 g1
  obtain ⟨x2, e2, _, _⟩ := DataW.trod_int Try.underlying3 g2
  obtain ⟨x3, e3, _, _⟩ := DataW.trod_int Try.underlying3 g3
  simp [Value.cells] at e0 e1 e2 e3 e4
  subst e0 e1 e2 e3 e4
  exact ⟨x0, x1, x2, x3, _, rfl, hs⟩
end

theorem SlF.stay {w w' : World} {s : Value} (h : SlF w s) (hb : Below w.heap.size w w') : SlF w' s := by
  rcases h with h | ⟨b, off, len, cap, x, rfl, h1, h2, h3, h4⟩
  · exact .inl h
  · exact .inr ⟨b, off, len, cap, x, rfl, h1, h2, flAt_congr' h3 (hb.block _ (World.block_lt_of_cell? w _ (h3 0 h1))), h4⟩

theorem laidOut : laidOutB Try.prog = true := by kernel_rfl
end Go.Proofs.Ytjjafjdjdjonfaa

/- LinesMatch, for every field and every two places: Line is the reference's line, place by place, with the errors that the document tells, and Profile has the values of its cells, bit by bit. No condition. -/
namespace Go.Proofs.Ytjjafjdjdjonfaa.linesMatch
open Go.ChangeShapes Go.WideShapes Go.ChangeAt Go.RowKit Go.Joins Fl
set_option linter.unusedVariables false

theorem own : ownKnob Try.prog.godebug = none := by kernel_rfl
theorem cellsPt : Try.prog.cellsOf 28 = 2 := by kernel_rfl

/-- LinesMatch, of a field's slice that came in. -/
theorem law (X Y W0 H0 : Int) (s : Value) (ax ay cx cy : Int) (w : World) (hs : SlF w s) :
    Calls Try.prog 3 #[fldV X Y W0 H0 s, ptV ax ay, ptV cx cy] w fun e w' => e = .returned (.bool true) ∧ Below w.heap.size w w' := by
  rcases hs with ⟨a, cap, rfl⟩ | ⟨b, off, len, cap, x, rfl, h1, h2, h3, _⟩
  · exact linesMatch_sl X Y W0 H0 a 0 cap 0 ax ay cx cy w (slE_nil w a cap) (fun _ h => absurd rfl h)
  · exact linesMatch_sl X Y W0 H0 _ len cap _ ax ay cx cy w (slE_row h1 h2 h3) (fun _ _ => ⟨b, off, x, rfl, h3⟩)

set_option maxRecDepth 100000 in
theorem lifted (os : Os) (started : os.Started) (H : Type) (enc : TypeId × Value → H) :
    ReturnsInHanded {} Try.checked os 3 .any (Rows.linesMatchSpec.pre6 enc Try.prog Try.f3 Rows.linesMatchRow.domain false) (Rows.linesMatchSpec.post enc Try.prog Try.f3 false true false false) := by
  refine returnsInHanded_of_change (C := Try.checked) own started (by kernel_rfl) Try.func3
    (ChangeSpec.witness6 (enc := enc) (C := Try.checked) false ⟨#[], #[fldV 0 0 0 0 (.slice none 0 0), ptV 0 0, ptV 0 0], []⟩ 8 (by kernel_rfl) (by kernel_rfl) (by kernel_rfl) (by kernel_rfl)) ?_
  intro W base args ds gs before hval0 hW hcnd _
  have hval : ∀ (j : Nat) t v, Try.f3.params[j]? = some t → args[j]? = some v → Value.okWide Try.prog W .any base t v := hval0
  have hW' := hW
  have hplt : ∀ x ∈ before, x.block < W.heap.size := fun x hx => by simpa using hW'.lt x hx
  obtain ⟨p, q, hA0, hV, rfl, hfz, hnd⟩ := hW
  have hA : DataW.TrodAll enc Try.prog W 0 (fun _ => true) true Try.f3.params.toList args.toList ds p := hA0
  rw [Try.params3] at hA hval
  obtain ⟨v0, vs0, d0, ds0, p0, q0, hargs, rfl, rfl, h0, r0⟩ := trodAll_cons hA
  obtain ⟨v1, vs1, d1, ds1, p1, q1, rfl, rfl, rfl, h1, r1⟩ := trodAll_cons r0
  obtain ⟨v2, vs2, d2, ds2, p2, q2, rfl, rfl, rfl, h2, r2⟩ := trodAll_cons r1
  obtain ⟨rfl, rfl, rfl⟩ := trodAll_nil r2
  obtain rfl : args = #[v0, v1, v2] := by cases args; simp_all
  obtain ⟨rfl, rfl⟩ := trodVars_none hV
  obtain ⟨X, Y, W0, H0, s, rfl, hs⟩ := open_field (hval 0 26 v0 rfl rfl) h0
  obtain ⟨a0, a1, z0, z1, m0, rfl, rfl, rfl, g0, g1⟩ := open_agg2 Try.underlying28 (by kernel_rfl) cellsPt (hval 1 28 v1 rfl rfl) h1
  obtain ⟨c0, c1, z2, z3, m1, rfl, rfl, rfl, g2, g3⟩ := open_agg2 Try.underlying28 (by kernel_rfl) cellsPt (hval 2 28 v2 rfl rfl) h2
  obtain ⟨x0, e0, rfl, w0⟩ := DataW.trod_int Try.underlying3 g0
  obtain ⟨x1, e1, rfl, w1⟩ := DataW.trod_int Try.underlying3 g1
  obtain ⟨x2, e2, rfl, w2⟩ := DataW.trod_int Try.underlying3 g2
  obtain ⟨x3, e3, rfl, w3⟩ := DataW.trod_int Try.underlying3 g3
  simp at e0 e1 e2 e3
  subst e0 e1 e2 e3
  have hlt : ∀ x ∈ p0, x.block < W.heap.size := fun x hx => hplt x (by simp [hx])
  clear hA0 hval0 hplt
  simp only [List.append_nil] at hW'
  have ptReads : ∀ (W' : World) (sp : Nat → Bool) (x y : Int), (Lit.int .i64 x).wf = true → (Lit.int .i64 y).wf = true →
      DataW.Trod enc Try.prog W' 0 sp true 28 (ptV x y) (.agg [.lit (.int .i64 x), .lit (.int .i64 y)]) [] := fun W' sp x y wx wy =>
    shut_agg2 (y0 := (.lit (.int .i64 x), [])) (y1 := (.lit (.int .i64 y), [])) Try.underlying28 (by kernel_rfl) cellsPt ⟨1, by simp [DataW.trod, Try.underlying3, wx]⟩ ⟨1, by simp [DataW.trod, Try.underlying3, wy]⟩
  refine (law X Y W0 H0 s x0 x1 x2 x3 W hs).mono fun e W' ⟨he, hb⟩ => ?_
  subst he
  exact ⟨_, rfl, _, _, _, [], _, [], hW', trodAll_cons_mk (shut_bool Try.underlying4 _) trodAll_mk0, trodAll_cons_mk (Below.trod laidOut (by kernel_rfl) (of_decide_eq_true (by kernel_rfl)) h0 hb hlt) (trodAll_cons_mk (ptReads _ _ _ _ w0 w1) (trodAll_cons_mk (ptReads _ _ _ _ w2 w3) trodAll_mk0)), rfl, hb.frame _, fun h => by cases h⟩

theorem over : Rows.linesMatchRow.holds Try.pinned (OpenSpec.ofChange Rows.linesMatchSpec) :=
  OpenClaim.holds_of_wide 3 Try.f3 rfl rfl rfl rfl rfl rfl rfl ⟨rfl, rfl, rfl, rfl, rfl⟩ rfl rfl rfl rfl rfl (by kernel_rfl) Try.func3 (by kernel_rfl)
    (of_decide_eq_true (by kernel_rfl)) (by unfold Func.isWrapper; rw [if_neg (of_decide_eq_false (by kernel_rfl))]; exact ⟨rfl, rfl⟩)
    (fun os started H enc _ => lifted os started H enc)

theorem proved : Rows.LinesMatchSaid :=
  over
#print axioms proved
end Go.Proofs.Ytjjafjdjdjonfaa.linesMatch
