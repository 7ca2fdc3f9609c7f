/- TilesMatch, for every region, side and place: Tile is the square at multiples of side in which the place lies, Tiles are the reference's, and their cells are as many as the region's; errors as the document says. No condition. -/
import Derived.Test.YtihjemookgnafaaTilJC
import Derived.ProofKit
import Derived.OpenShut
import Derived.Lib.SmallJoins

/- TilesMatch: Tile and Tiles answer as the references do, for every input; the tiles cover the region, each cell once. -/
namespace Go.Proofs.Ytihjemookgnafaa
open Go.RowKit Fl
set_option linter.unusedVariables false

theorem landedR_any (X Y W H : Int) (w : World) : Calls Try.prog 14 #[] (w.alloc (regObj X Y W H)) fun e w' => e = .returned (.bool true) ∧ w'.heap[w.heap.size]? = some (regObj X Y W H) ∧ Below w.heap.size w w' :=
  (landed_any _).mono fun e w' h => ⟨h.1, blkStay (heap_alloc_new w _) h.2, ((Below.refl _ _).alloc (Nat.le_refl _) _).trans (h.2.mono (by simp))⟩

theorem run_max4 (ts : Array TypeId) (t : TypeId) (a b c d : Int) (w : World) :
    (Builtin.max_ ts t #[.int .i64 a, .int .i64 b, .int .i64 c, .int .i64 d]).run Try.prog w = .ok (.int .i64 (maxI (maxI (maxI a b) c) d)) w := by
  unfold maxI
  simp [Builtin.max_, Builtin.max2, List.foldlM, go_sem]
  <;> rfl
/-- What the law keeps: the region's box. -/
structure TmAt (w : World) (X Y W H : Int) (wr : World) : Prop where
  reg : wr.heap[w.heap.size]? = some (regObj X Y W H)
  bel : Below w.heap.size w wr
theorem TmAt.stay {w w1 w2 : World} {X Y W H : Int} (h : TmAt w X Y W H w1) (hb : Below w1.heap.size w1 w2) : TmAt w X Y W H w2 := ⟨blkStay h.reg hb, h.bel.trans (hb.mono h.bel.size)⟩
set_option maxRecDepth 100000 in
set_option maxHeartbeats 4000000 in
theorem tilesMatch_side (X Y W H s x y : Int) (w : World) (hsd : sidB s = false) (hss : s < 1 ∨ (1 ≤ s ∧ 256 < s)) (ht : tilsE X Y W H s ≠ 0) :
    Calls Try.prog 13 #[reg X Y W H, .int .i64 s, .int .i64 x, .int .i64 y] w fun e w' => e = .returned (.bool true) ∧ Below w.heap.size w w' := by
  have e : tileE s x y = 3 := by unfold tileE; rw [if_pos hsd]
  have TL := Lib.hid (fun w => tile_bad s x y (by rw [e]; decide) w)
  rw [e] at TL
  clear e hsd
  have TS := Lib.hid (fun w => tiles_bad X Y W H s w ht)
  have RS := Lib.hid (fun w => refTiles_bad X Y W H s w ht)
  have hE : (tilsE X Y W H s != 0) = true := by simpa using ht
  clear ht
  generalize tilsE X Y W H s = E at *
  rcases hss with ss | ⟨ss, ss2⟩
  all_goals
    go_enter Try.func13, Try.ntmps13
    go_wp2_with (first | (go_at_call 14; refine (landedR_any X Y W H _).mono ?_; rintro e w1 ⟨rfl, hr1, hb1⟩; have A1 := Lib.hid (TmAt.mk hr1 hb1); clear hr1 hb1; obtain ⟨cA, fA, zA⟩ := blkC A1.out.reg) | (go_at_call 67; refine (TL.out _).mono ?_; rintro e w2 ⟨rfl, hb2⟩; have A2 := Lib.hid (fun o => (A1.out.stay hb2).stay (show Below w2.heap.size w2 (w2.alloc o) from (Below.refl _ _).alloc (Nat.le_refl _) _)); have A20 := A1.out.stay hb2; clear hb2 cA fA zA; obtain ⟨cA, fA, zA⟩ := blkC A20.reg; clear A20) | (go_at_call 68; refine (TS.out _).mono ?_; rintro e w3 ⟨rfl, hb3⟩; have A3 := Lib.hid ((A2.out _).stay hb3); clear hb3 cA fA zA; obtain ⟨cA, fA, zA⟩ := blkC A3.out.reg) | (go_at_call 69; refine (RS.out _).mono ?_; rintro e w4 ⟨rfl, hb4⟩; have A4 := Lib.hid (A3.out.stay hb4); clear hb4 cA fA zA; obtain ⟨cA, fA, zA⟩ := blkC A4.out.reg) | (go_at_call 70; refine (equalRgn_nil _).mono ?_; rintro e w5 ⟨rfl, hb5⟩; have A5 := Lib.hid (A4.out.stay hb5); clear hb5 cA fA zA; obtain ⟨cA, fA, zA⟩ := blkC A5.out.reg))
    go_loopw [14, 112] (fun s14 s112 wr => s112 = .int .i64 0 ∧ s14 = .int .i64 0 ∧ TmAt w X Y W H wr) (fun _ _ _ => 0)
    case atStart => exact ⟨rfl, rfl, A5.out⟩
    case round =>
      obtain ⟨rfl, rfl, hA⟩ := hrel
      have HA := Lib.hid hA
      clear cA fA zA
      obtain ⟨cA, fA, zA⟩ := blkC hA.reg
      clear hA
      go_wp2
      go_ret
      exact ⟨rfl, HA.out.bel⟩
set_option maxRecDepth 100000 in
set_option maxHeartbeats 4000000 in
theorem tilesMatch_place_bad (X Y W H s x y : Int) (w : World) (hsd : sidB s = true) (hp : plcE x y ≠ 0) (ht : tilsE X Y W H s ≠ 0) :
    Calls Try.prog 13 #[reg X Y W H, .int .i64 s, .int .i64 x, .int .i64 y] w fun e w' => e = .returned (.bool true) ∧ Below w.heap.size w w' := by
  have e : tileE s x y = 5 := by
    have := plcE_cases x y
    unfold tileE
    rw [if_neg (by simp [hsd])]
    omega
  have TL := Lib.hid (fun w => tile_bad s x y (by rw [e]; decide) w)
  rw [e] at TL
  obtain ⟨s1, s2⟩ := sid_iff.1 hsd
  obtain ⟨nx, hnx⟩ : ∃ nx, wrap64 (-x) = nx := ⟨_, rfl⟩
  obtain ⟨ny, hny⟩ : ∃ ny, wrap64 (-y) = ny := ⟨_, rfl⟩
  have hm3 := fun (W : World) (ts : Array TypeId) (t : TypeId) => run_max4 ts t x nx y ny W
  have hmn : (if y < x then y else x) = minI x y := rfl
  obtain ⟨v1, v2, v3⟩ := maxI_le x nx
  obtain ⟨v4, v5, v6⟩ := maxI_le (maxI x nx) y
  obtain ⟨v7, v8, v9⟩ := maxI_le (maxI (maxI x nx) y) ny
  obtain ⟨u1, u2, u3⟩ := minI_le x y
  have HH : 4194304 < maxI (maxI (maxI x nx) y) ny ∨ (maxI (maxI (maxI x nx) y) ny ≤ 4194304 ∧ minI x y < -4194304) := by
    have hb : ¬ (-4194304 ≤ x ∧ x ≤ 4194304 ∧ -4194304 ≤ y ∧ y ≤ 4194304) := by
      intro c
      apply hp
      unfold plcE
      rw [if_pos ⟨withinB_iff.2 ⟨c.1, c.2.1⟩, withinB_iff.2 ⟨c.2.2.1, c.2.2.2⟩⟩]
    omega
  generalize maxI (maxI (maxI x nx) y) ny = m3 at *
  generalize minI x y = mn at *
  clear v1 v2 v3 v4 v5 v6 v7 v8 v9 u1 u2 u3
  clear e hsd hp
  have TS := Lib.hid (fun w => tiles_bad X Y W H s w ht)
  have RS := Lib.hid (fun w => refTiles_bad X Y W H s w ht)
  have hE : (tilsE X Y W H s != 0) = true := by simpa using ht
  clear ht
  generalize tilsE X Y W H s = E at *
  rcases HH with mm | ⟨mm, mn2⟩
  all_goals
    go_enter Try.func13, Try.ntmps13
    go_wp2_with (first | (go_at_call 14; refine (landedR_any X Y W H _).mono ?_; rintro e w1 ⟨rfl, hr1, hb1⟩; have A1 := Lib.hid (TmAt.mk hr1 hb1); clear hr1 hb1; obtain ⟨cA, fA, zA⟩ := blkC A1.out.reg) | (go_at_call 67; refine (TL.out _).mono ?_; rintro e w2 ⟨rfl, hb2⟩; have A2 := Lib.hid (fun o => (A1.out.stay hb2).stay (show Below w2.heap.size w2 (w2.alloc o) from (Below.refl _ _).alloc (Nat.le_refl _) _)); have A20 := A1.out.stay hb2; clear hb2 cA fA zA; obtain ⟨cA, fA, zA⟩ := blkC A20.reg; clear A20) | (go_at_call 68; refine (TS.out _).mono ?_; rintro e w3 ⟨rfl, hb3⟩; have A3 := Lib.hid ((A2.out _).stay hb3); clear hb3 cA fA zA; obtain ⟨cA, fA, zA⟩ := blkC A3.out.reg) | (go_at_call 69; refine (RS.out _).mono ?_; rintro e w4 ⟨rfl, hb4⟩; have A4 := Lib.hid (A3.out.stay hb4); clear hb4 cA fA zA; obtain ⟨cA, fA, zA⟩ := blkC A4.out.reg) | (go_at_call 70; refine (equalRgn_nil _).mono ?_; rintro e w5 ⟨rfl, hb5⟩; have A5 := Lib.hid (A4.out.stay hb5); clear hb5 cA fA zA; obtain ⟨cA, fA, zA⟩ := blkC A5.out.reg))
    go_loopw [14, 112] (fun s14 s112 wr => s112 = .int .i64 0 ∧ s14 = .int .i64 0 ∧ TmAt w X Y W H wr) (fun _ _ _ => 0)
    case atStart => exact ⟨rfl, rfl, A5.out⟩
    case round =>
      obtain ⟨rfl, rfl, hA⟩ := hrel
      have HA := Lib.hid hA
      clear cA fA zA
      obtain ⟨cA, fA, zA⟩ := blkC hA.reg
      clear hA
      go_wp2
      go_ret
      exact ⟨rfl, HA.out.bel⟩
set_option maxRecDepth 100000 in
set_option maxHeartbeats 4000000 in
theorem tilesMatch_place_ok (X Y W H s x y : Int) (w : World) (hsd : sidB s = true) (hp : plcE x y ≠ 0) (ht : tilsE X Y W H s = 0) :
    Calls Try.prog 13 #[reg X Y W H, .int .i64 s, .int .i64 x, .int .i64 y] w fun e w' => e = .returned (.bool true) ∧ Below w.heap.size w w' := by
  have e : tileE s x y = 5 := by
    have := plcE_cases x y
    unfold tileE
    rw [if_neg (by simp [hsd])]
    omega
  have TL := Lib.hid (fun w => tile_bad s x y (by rw [e]; decide) w)
  rw [e] at TL
  obtain ⟨s1, s2⟩ := sid_iff.1 hsd
  obtain ⟨nx, hnx⟩ : ∃ nx, wrap64 (-x) = nx := ⟨_, rfl⟩
  obtain ⟨ny, hny⟩ : ∃ ny, wrap64 (-y) = ny := ⟨_, rfl⟩
  have hm3 := fun (W : World) (ts : Array TypeId) (t : TypeId) => run_max4 ts t x nx y ny W
  have hmn : (if y < x then y else x) = minI x y := rfl
  obtain ⟨v1, v2, v3⟩ := maxI_le x nx
  obtain ⟨v4, v5, v6⟩ := maxI_le (maxI x nx) y
  obtain ⟨v7, v8, v9⟩ := maxI_le (maxI (maxI x nx) y) ny
  obtain ⟨u1, u2, u3⟩ := minI_le x y
  have HH : 4194304 < maxI (maxI (maxI x nx) y) ny ∨ (maxI (maxI (maxI x nx) y) ny ≤ 4194304 ∧ minI x y < -4194304) := by
    have hb : ¬ (-4194304 ≤ x ∧ x ≤ 4194304 ∧ -4194304 ≤ y ∧ y ≤ 4194304) := by
      intro c
      apply hp
      unfold plcE
      rw [if_pos ⟨withinB_iff.2 ⟨c.1, c.2.1⟩, withinB_iff.2 ⟨c.2.2.1, c.2.2.2⟩⟩]
    omega
  generalize maxI (maxI (maxI x nx) y) ny = m3 at *
  generalize minI x y = mn at *
  clear v1 v2 v3 v4 v5 v6 v7 v8 v9 u1 u2 u3
  clear e hsd hp
  obtain ⟨h0, hs', hm⟩ := tilsE_parts ht
  have TS := Lib.hid (fun w => tiles_ok X Y W H s w h0 hs' hm)
  have RS := Lib.hid (fun w => refTiles_ok X Y W H s w h0 hs' hm)
  obtain ⟨tp, tot⟩ := tlS_parts ht
  obtain ⟨b1, b2, b3, b4, b5, _, _, _, _⟩ := checkR_zero h0
  have wt := wrap_side b1 b2 b3 b4
  have TP := Lib.hid tp
  have TOT := Lib.hid tot
  have hnm : tlN Y H s * tlN X W s ≤ 1024 := by rw [Nat.mul_comm]; exact hm
  clear h0 hs' hm tp tot
  have np : 1 ≤ tlN Y H s * tlN X W s := by
    obtain ⟨h0, hs', hm⟩ := tilsE_parts ht
    obtain ⟨b1, b2, b3, b4, _, _, _, _, _⟩ := checkR_zero h0
    obtain ⟨_, d2, _⟩ := tlN_parts (X := X) (sid_iff.1 hs').1 b1 b2
    obtain ⟨_, e2, _⟩ := tlN_parts (X := Y) (sid_iff.1 hs').1 b3 b4
    exact Nat.mul_pos e2 d2
  have EQ := Lib.hid (fun b1 b2 k1 k2 w h1 h2 => equalRgn_any b1 b2 (tlN Y H s * tlN X W s) k1 k2 (tlR X Y W H s (tlN X W s)) w hnm h1 h2)
  clear ht
  generalize tlN Y H s * tlN X W s = n at *
  generalize tlN X W s = c at *
  rcases HH with mm | ⟨mm, mn2⟩
  all_goals
    go_enter Try.func13, Try.ntmps13
    go_wp2_with (first | (go_at_call 14; refine (landedR_any X Y W H _).mono ?_; rintro e w1 ⟨rfl, hr1, hb1⟩; have A1 := Lib.hid (TmAt.mk hr1 hb1); clear hr1 hb1; obtain ⟨cA, fA, zA⟩ := blkC A1.out.reg) | (go_at_call 67; refine (TL.out _).mono ?_; rintro e w2 ⟨rfl, hb2⟩; have A2 := Lib.hid (fun o => (A1.out.stay hb2).stay (show Below w2.heap.size w2 (w2.alloc o) from (Below.refl _ _).alloc (Nat.le_refl _) _)); have A20 := A1.out.stay hb2; clear hb2 cA fA zA; obtain ⟨cA, fA, zA⟩ := blkC A20.reg; clear A20) | (go_at_call 68; refine (TS.out _).mono ?_; rintro e w3 ⟨g1, k1, rfl, lo1, R1, hb3⟩; have A3 := Lib.hid ((A2.out _).stay hb3); have R13 := Lib.hid R1; clear hb3 R1 lo1 cA fA zA; obtain ⟨cA, fA, zA⟩ := blkC A3.out.reg) | (go_at_call 69; refine (RS.out _).mono ?_; rintro e w4 ⟨g2, k2, rfl, lo2, R2, hb4⟩; have A4 := Lib.hid (A3.out.stay hb4); have R24 := Lib.hid R2; have R14 := Lib.hid (R13.out.stay hb4); clear hb4 R2 lo2 cA fA zA; obtain ⟨cA, fA, zA⟩ := blkC A4.out.reg) | (go_at_call 70; refine (EQ.out _ _ _ _ _ R14.out R24.out).mono ?_; rintro e w5 ⟨rfl, hb5⟩; have A5 := Lib.hid (A4.out.stay hb5); have R15 := Lib.hid (R14.out.stay hb5); clear hb5 cA fA zA; obtain ⟨cA, fA, zA⟩ := blkC A5.out.reg))
    have SB := Lib.hid (sumF_bd (tlS X Y W H s c) 65536 n (fun k hk => ⟨(TP.out k hk).2.2.2.2.1, (TP.out k hk).2.2.2.2.2⟩))
    go_loopw [14, 112] (fun s14 s112 wr => ∃ k : Nat, k ≤ n ∧ s112 = .int .i64 k ∧ s14 = .int .i64 (sumF (tlS X Y W H s c) k) ∧ TmAt w X Y W H wr ∧ TlRow wr g1 n (tlR X Y W H s c)) (fun _ s112 _ => n - (intOf s112).toNat)
    case atStart => exact ⟨0, Nat.zero_le _, rfl, rfl, A5.out, R15.out⟩
    case round =>
      obtain ⟨k, hk, rfl, rfl, hA, hR⟩ := hrel
      have HA := Lib.hid hA
      have HR := Lib.hid hR
      obtain ⟨cA, fA, zA⟩ := blkC hA.reg
      clear hA
      by_cases hlt : k < n
      · have HK := Lib.hid hlt
        obtain ⟨c0, c1, c2, c3, z1⟩ := tl_at hR hlt
        obtain ⟨p1, p2, p3, p4, p5, p6⟩ := TP.out k hlt
        obtain ⟨q1, q2⟩ := SB.out k hk
        have NX := Lib.hid (show ∀ f : Nat → Int, f = tlS X Y W H s c → sumF f (k + 1) = sumF (tlS X Y W H s c) k + tlS X Y W H s c k from fun f hf => by subst hf; rfl)
        have MU : wrap64 ((tlR X Y W H s c k).w * (tlR X Y W H s c k).h) = tlS X Y W H s c k := IntWalk.wrap64_in _ ⟨by unfold tlS at p5; omega, by unfold tlS at p6; omega⟩
        clear hR
        generalize sumF (tlS X Y W H s c) k = sk at *
        generalize tlS X Y W H s c k = ar at *
        generalize tlR X Y W H s c k = t at *
        obtain ⟨t1, t2, t3, t4⟩ := t
        simp only at c0 c1 c2 c3 p1 p2 p3 p4 MU
        have hq : sk ≤ 67108864 := by omega
        clear q2
        go_wp2
        go_roundw
        case rel => exact ⟨k + 1, HK.out, by go_num, by rw [NX.out _ rfl], HA.out.stay (by repeat (first | exact Below.refl _ _ | refine Below.alloc ?_ (by first | omega | (simp; done) | (simp; omega)) _ | refine Below.setCell ?_ (by first | omega | (simp; done) | (simp; omega)) _ | refine Below.drew ?_)), HR.out.stay (by repeat (first | exact Below.refl _ _ | refine Below.alloc ?_ (by first | omega | (simp; done) | (simp; omega)) _ | refine Below.setCell ?_ (by first | omega | (simp; done) | (simp; omega)) _ | refine Below.drew ?_))⟩
        case measure => have := HK.out; simp [intOf]; omega
      · have hkn : k = n := by omega
        have TT := TOT.out
        rw [← hkn] at TT
        rw [TT]
        clear hkn TT hR
        go_wp2
        go_ret
        exact ⟨rfl, HA.out.bel⟩
set_option maxRecDepth 100000 in
set_option maxHeartbeats 4000000 in
theorem tilesMatch_tile_bad (X Y W H s x y : Int) (w : World) (hsd : sidB s = true) (hp : plcE x y = 0) (ht : tilsE X Y W H s ≠ 0) :
    Calls Try.prog 13 #[reg X Y W H, .int .i64 s, .int .i64 x, .int .i64 y] w fun e w' => e = .returned (.bool true) ∧ Below w.heap.size w w' := by
  have e : tileE s x y = 0 := by
    unfold tileE
    rw [if_neg (by simp [hsd])]
    exact hp
  have TL := Lib.hid (fun w => tile_ok s x y e w)
  obtain ⟨s1, s2⟩ := sid_iff.1 hsd
  obtain ⟨x1, x2, y1, y2⟩ := plcE_zero hp
  obtain ⟨_, _, a1, a2⟩ := sq_bd s1 s2 x1 x2 (Int.le_refl (x / s)) (by omega)
  obtain ⟨_, _, a3, a4⟩ := sq_bd s1 s2 y1 y2 (Int.le_refl (y / s)) (by omega)
  have IS := Lib.hid (fun w => refInside_any x y 1 1 (x / s * s) (y / s * s) s s w (by omega) (by omega) (by omega) (by omega) (by omega) (by omega) (by omega) (by omega) (by omega) (by omega) (by omega) (by omega) (by omega) (by omega) (by omega) (by omega))
  rw [in_tile s1] at IS
  have md1 := tile_mod (s := s) (x := x)
  have md2 := tile_mod (s := s) (x := y)
  have s0 : ¬ s = 0 := by omega
  have hm3 := fun (W : World) (ts : Array TypeId) (t : TypeId) => run_max4 ts t x (-x) y (-y) W
  have hmn : (if y < x then y else x) = minI x y := rfl
  obtain ⟨v1, v2, v3⟩ := maxI_le x (-x)
  obtain ⟨v4, v5, v6⟩ := maxI_le (maxI x (-x)) y
  obtain ⟨v7, v8, v9⟩ := maxI_le (maxI (maxI x (-x)) y) (-y)
  obtain ⟨u1, u2, u3⟩ := minI_le x y
  have H1 : maxI (maxI (maxI x (-x)) y) (-y) ≤ 4194304 := by omega
  have H2 : -4194304 ≤ minI x y := by omega
  generalize maxI (maxI (maxI x (-x)) y) (-y) = m3 at *
  generalize minI x y = mn at *
  clear v1 v2 v3 v4 v5 v6 v7 v8 v9 u1 u2 u3
  clear e hsd hp a1 a2 a3 a4
  generalize x / s * s = p at *
  generalize y / s * s = q at *
  have TS := Lib.hid (fun w => tiles_bad X Y W H s w ht)
  have RS := Lib.hid (fun w => refTiles_bad X Y W H s w ht)
  have hE : (tilsE X Y W H s != 0) = true := by simpa using ht
  clear ht
  generalize tilsE X Y W H s = E at *
  go_enter Try.func13, Try.ntmps13
  go_wp2_with (first | (go_at_call 14; refine (landedR_any X Y W H _).mono ?_; rintro e w1 ⟨rfl, hr1, hb1⟩; have A1 := Lib.hid (TmAt.mk hr1 hb1); clear hr1 hb1; obtain ⟨cA, fA, zA⟩ := blkC A1.out.reg) | (go_at_call 67; refine (TL.out _).mono ?_; rintro e w2 ⟨rfl, hb2⟩; have A2 := Lib.hid (fun o => (A1.out.stay hb2).stay (show Below w2.heap.size w2 (w2.alloc o) from (Below.refl _ _).alloc (Nat.le_refl _) _)); have A20 := A1.out.stay hb2; clear hb2 cA fA zA; obtain ⟨cA, fA, zA⟩ := blkC A20.reg; clear A20) | (go_at_call 68; refine (TS.out _).mono ?_; rintro e w3 ⟨rfl, hb3⟩; have A3 := Lib.hid (A9.out.stay hb3); clear hb3 cA fA zA; obtain ⟨cA, fA, zA⟩ := blkC A3.out.reg) | (go_at_call 69; refine (RS.out _).mono ?_; rintro e w4 ⟨rfl, hb4⟩; have A4 := Lib.hid (A3.out.stay hb4); clear hb4 cA fA zA; obtain ⟨cA, fA, zA⟩ := blkC A4.out.reg) | (go_at_call 70; refine (equalRgn_nil _).mono ?_; rintro e w5 ⟨rfl, hb5⟩; have A5 := Lib.hid (A4.out.stay hb5); clear hb5 cA fA zA; obtain ⟨cA, fA, zA⟩ := blkC A5.out.reg) | (go_at_call 23; refine (IS.out _).mono ?_; rintro e w9 ⟨rfl, hb9⟩; have A9 := Lib.hid ((A2.out _).stay hb9); have HT9 := Lib.hid (blkStay (heap_alloc_new w2 (regObj p q s s)) hb9); obtain ⟨cT, fT, zT⟩ := blkC HT9.out; clear hb9 cA fA zA; obtain ⟨cA, fA, zA⟩ := blkC A9.out.reg))
  go_loopw [14, 112] (fun s14 s112 wr => s112 = .int .i64 0 ∧ s14 = .int .i64 0 ∧ TmAt w X Y W H wr) (fun _ _ _ => 0)
  case atStart => exact ⟨rfl, rfl, A5.out⟩
  case round =>
    obtain ⟨rfl, rfl, hA⟩ := hrel
    have HA := Lib.hid hA
    clear cA fA zA
    obtain ⟨cA, fA, zA⟩ := blkC hA.reg
    clear hA
    go_wp2
    go_ret
    exact ⟨rfl, HA.out.bel⟩
set_option maxRecDepth 100000 in
set_option maxHeartbeats 4000000 in
theorem tilesMatch_tile_ok (X Y W H s x y : Int) (w : World) (hsd : sidB s = true) (hp : plcE x y = 0) (ht : tilsE X Y W H s = 0) :
    Calls Try.prog 13 #[reg X Y W H, .int .i64 s, .int .i64 x, .int .i64 y] w fun e w' => e = .returned (.bool true) ∧ Below w.heap.size w w' := by
  have e : tileE s x y = 0 := by
    unfold tileE
    rw [if_neg (by simp [hsd])]
    exact hp
  have TL := Lib.hid (fun w => tile_ok s x y e w)
  obtain ⟨s1, s2⟩ := sid_iff.1 hsd
  obtain ⟨x1, x2, y1, y2⟩ := plcE_zero hp
  obtain ⟨_, _, a1, a2⟩ := sq_bd s1 s2 x1 x2 (Int.le_refl (x / s)) (by omega)
  obtain ⟨_, _, a3, a4⟩ := sq_bd s1 s2 y1 y2 (Int.le_refl (y / s)) (by omega)
  have IS := Lib.hid (fun w => refInside_any x y 1 1 (x / s * s) (y / s * s) s s w (by omega) (by omega) (by omega) (by omega) (by omega) (by omega) (by omega) (by omega) (by omega) (by omega) (by omega) (by omega) (by omega) (by omega) (by omega) (by omega))
  rw [in_tile s1] at IS
  have md1 := tile_mod (s := s) (x := x)
  have md2 := tile_mod (s := s) (x := y)
  have s0 : ¬ s = 0 := by omega
  have hm3 := fun (W : World) (ts : Array TypeId) (t : TypeId) => run_max4 ts t x (-x) y (-y) W
  have hmn : (if y < x then y else x) = minI x y := rfl
  obtain ⟨v1, v2, v3⟩ := maxI_le x (-x)
  obtain ⟨v4, v5, v6⟩ := maxI_le (maxI x (-x)) y
  obtain ⟨v7, v8, v9⟩ := maxI_le (maxI (maxI x (-x)) y) (-y)
  obtain ⟨u1, u2, u3⟩ := minI_le x y
  have H1 : maxI (maxI (maxI x (-x)) y) (-y) ≤ 4194304 := by omega
  have H2 : -4194304 ≤ minI x y := by omega
  generalize maxI (maxI (maxI x (-x)) y) (-y) = m3 at *
  generalize minI x y = mn at *
  clear v1 v2 v3 v4 v5 v6 v7 v8 v9 u1 u2 u3
  clear e hsd hp a1 a2 a3 a4
  generalize x / s * s = p at *
  generalize y / s * s = q at *
  obtain ⟨h0, hs', hm⟩ := tilsE_parts ht
  have TS := Lib.hid (fun w => tiles_ok X Y W H s w h0 hs' hm)
  have RS := Lib.hid (fun w => refTiles_ok X Y W H s w h0 hs' hm)
  obtain ⟨tp, tot⟩ := tlS_parts ht
  obtain ⟨b1, b2, b3, b4, b5, _, _, _, _⟩ := checkR_zero h0
  have wt := wrap_side b1 b2 b3 b4
  have TP := Lib.hid tp
  have TOT := Lib.hid tot
  have hnm : tlN Y H s * tlN X W s ≤ 1024 := by rw [Nat.mul_comm]; exact hm
  clear h0 hs' hm tp tot
  have np : 1 ≤ tlN Y H s * tlN X W s := by
    obtain ⟨h0, hs', hm⟩ := tilsE_parts ht
    obtain ⟨b1, b2, b3, b4, _, _, _, _, _⟩ := checkR_zero h0
    obtain ⟨_, d2, _⟩ := tlN_parts (X := X) (sid_iff.1 hs').1 b1 b2
    obtain ⟨_, e2, _⟩ := tlN_parts (X := Y) (sid_iff.1 hs').1 b3 b4
    exact Nat.mul_pos e2 d2
  have EQ := Lib.hid (fun b1 b2 k1 k2 w h1 h2 => equalRgn_any b1 b2 (tlN Y H s * tlN X W s) k1 k2 (tlR X Y W H s (tlN X W s)) w hnm h1 h2)
  clear ht
  generalize tlN Y H s * tlN X W s = n at *
  generalize tlN X W s = c at *
  go_enter Try.func13, Try.ntmps13
  go_wp2_with (first | (go_at_call 14; refine (landedR_any X Y W H _).mono ?_; rintro e w1 ⟨rfl, hr1, hb1⟩; have A1 := Lib.hid (TmAt.mk hr1 hb1); clear hr1 hb1; obtain ⟨cA, fA, zA⟩ := blkC A1.out.reg) | (go_at_call 67; refine (TL.out _).mono ?_; rintro e w2 ⟨rfl, hb2⟩; have A2 := Lib.hid (fun o => (A1.out.stay hb2).stay (show Below w2.heap.size w2 (w2.alloc o) from (Below.refl _ _).alloc (Nat.le_refl _) _)); have A20 := A1.out.stay hb2; clear hb2 cA fA zA; obtain ⟨cA, fA, zA⟩ := blkC A20.reg; clear A20) | (go_at_call 68; refine (TS.out _).mono ?_; rintro e w3 ⟨g1, k1, rfl, lo1, R1, hb3⟩; have A3 := Lib.hid (A9.out.stay hb3); have R13 := Lib.hid R1; clear hb3 R1 lo1 cA fA zA; obtain ⟨cA, fA, zA⟩ := blkC A3.out.reg) | (go_at_call 69; refine (RS.out _).mono ?_; rintro e w4 ⟨g2, k2, rfl, lo2, R2, hb4⟩; have A4 := Lib.hid (A3.out.stay hb4); have R24 := Lib.hid R2; have R14 := Lib.hid (R13.out.stay hb4); clear hb4 R2 lo2 cA fA zA; obtain ⟨cA, fA, zA⟩ := blkC A4.out.reg) | (go_at_call 70; refine (EQ.out _ _ _ _ _ R14.out R24.out).mono ?_; rintro e w5 ⟨rfl, hb5⟩; have A5 := Lib.hid (A4.out.stay hb5); have R15 := Lib.hid (R14.out.stay hb5); clear hb5 cA fA zA; obtain ⟨cA, fA, zA⟩ := blkC A5.out.reg) | (go_at_call 23; refine (IS.out _).mono ?_; rintro e w9 ⟨rfl, hb9⟩; have A9 := Lib.hid ((A2.out _).stay hb9); have HT9 := Lib.hid (blkStay (heap_alloc_new w2 (regObj p q s s)) hb9); obtain ⟨cT, fT, zT⟩ := blkC HT9.out; clear hb9 cA fA zA; obtain ⟨cA, fA, zA⟩ := blkC A9.out.reg))
  have SB := Lib.hid (sumF_bd (tlS X Y W H s c) 65536 n (fun k hk => ⟨(TP.out k hk).2.2.2.2.1, (TP.out k hk).2.2.2.2.2⟩))
  go_loopw [14, 112] (fun s14 s112 wr => ∃ k : Nat, k ≤ n ∧ s112 = .int .i64 k ∧ s14 = .int .i64 (sumF (tlS X Y W H s c) k) ∧ TmAt w X Y W H wr ∧ TlRow wr g1 n (tlR X Y W H s c)) (fun _ s112 _ => n - (intOf s112).toNat)
  case atStart => exact ⟨0, Nat.zero_le _, rfl, rfl, A5.out, R15.out⟩
  case round =>
    obtain ⟨k, hk, rfl, rfl, hA, hR⟩ := hrel
    have HA := Lib.hid hA
    have HR := Lib.hid hR
    obtain ⟨cA, fA, zA⟩ := blkC hA.reg
    clear hA
    by_cases hlt : k < n
    · have HK := Lib.hid hlt
      obtain ⟨c0, c1, c2, c3, z1⟩ := tl_at hR hlt
      obtain ⟨p1, p2, p3, p4, p5, p6⟩ := TP.out k hlt
      obtain ⟨q1, q2⟩ := SB.out k hk
      have NX := Lib.hid (show ∀ f : Nat → Int, f = tlS X Y W H s c → sumF f (k + 1) = sumF (tlS X Y W H s c) k + tlS X Y W H s c k from fun f hf => by subst hf; rfl)
      have MU : wrap64 ((tlR X Y W H s c k).w * (tlR X Y W H s c k).h) = tlS X Y W H s c k := IntWalk.wrap64_in _ ⟨by unfold tlS at p5; omega, by unfold tlS at p6; omega⟩
      clear hR
      generalize sumF (tlS X Y W H s c) k = sk at *
      generalize tlS X Y W H s c k = ar at *
      generalize tlR X Y W H s c k = t at *
      obtain ⟨t1, t2, t3, t4⟩ := t
      simp only at c0 c1 c2 c3 p1 p2 p3 p4 MU
      have hq : sk ≤ 67108864 := by omega
      clear q2
      go_wp2
      go_roundw
      case rel => exact ⟨k + 1, HK.out, by go_num, by rw [NX.out _ rfl], HA.out.stay (by repeat (first | exact Below.refl _ _ | refine Below.alloc ?_ (by first | omega | (simp; done) | (simp; omega)) _ | refine Below.setCell ?_ (by first | omega | (simp; done) | (simp; omega)) _ | refine Below.drew ?_)), HR.out.stay (by repeat (first | exact Below.refl _ _ | refine Below.alloc ?_ (by first | omega | (simp; done) | (simp; omega)) _ | refine Below.setCell ?_ (by first | omega | (simp; done) | (simp; omega)) _ | refine Below.drew ?_))⟩
      case measure => have := HK.out; simp [intOf]; omega
    · have hkn : k = n := by omega
      have TT := TOT.out
      rw [← hkn] at TT
      rw [TT]
      clear hkn TT hR
      go_wp2
      go_ret
      exact ⟨rfl, HA.out.bel⟩
theorem tilesMatch_any (X Y W H s x y : Int) (w : World) :
    Calls Try.prog 13 #[reg X Y W H, .int .i64 s, .int .i64 x, .int .i64 y] w fun e w' => e = .returned (.bool true) ∧ Below w.heap.size w w' := by
  cases hsd : sidB s with
  | false =>
    have hss := withinB_no.1 hsd
    refine tilesMatch_side X Y W H s x y w hsd (by omega) ?_
    unfold tilsE
    split
    · rename_i h; exact h
    · simp [hsd]
  | true =>
    by_cases hp : plcE x y = 0 <;> by_cases ht : tilsE X Y W H s = 0
    · exact tilesMatch_tile_ok X Y W H s x y w hsd hp ht
    · exact tilesMatch_tile_bad X Y W H s x y w hsd hp ht
    · exact tilesMatch_place_ok X Y W H s x y w hsd hp ht
    · exact tilesMatch_place_bad X Y W H s x y w hsd hp ht
end Go.Proofs.Ytihjemookgnafaa

/- TilesMatch, for every region, side and place: Tile is the square at multiples of side in which the place lies, Tiles are the reference's, and their cells are as many as the region's; errors as the document says. No condition. -/
namespace Go.Proofs.Ytihjemookgnafaa.tilesMatch
open Go.ChangeShapes Go.WideShapes Go.ChangeAt Go.RowKit Go.Joins
set_option linter.unusedVariables false

theorem own : ownKnob Try.prog.godebug = none := by kernel_rfl
theorem cellsR : Try.prog.cellsOf 23 = 4 := by kernel_rfl

set_option maxRecDepth 100000 in
theorem lifted (os : Os) (started : os.Started) (H : Type) (enc : TypeId × Value → H) :
    ReturnsInHanded {} Try.checked os 13 .any (Rows.tilesMatchSpec.pre6 enc Try.prog Try.f13 Rows.tilesMatchRow.domain false) (Rows.tilesMatchSpec.post enc Try.prog Try.f13 false true false false) := by
  refine returnsInHanded_of_change (C := Try.checked) own started (by kernel_rfl) Try.func13
    (ChangeSpec.witness6 (enc := enc) (C := Try.checked) false ⟨#[], #[reg 0 0 0 0, .int .i64 0, .int .i64 0, .int .i64 0], []⟩ 8 (by kernel_rfl) (by kernel_rfl) (by kernel_rfl) (by kernel_rfl)) ?_
  intro W base args ds gs before hval0 hW hcnd _
  have hval : ∀ (j : Nat) t v, Try.f13.params[j]? = some t → args[j]? = some v → Value.okWide Try.prog W .any base t v := hval0
  have hW' := hW
  obtain ⟨p, q, hA0, hV, rfl, hfz, hnd⟩ := hW
  have hA : DataW.TrodAll enc Try.prog W 0 (fun _ => true) true Try.f13.params.toList args.toList ds p := hA0
  rw [Try.params13] at hA hval
  obtain ⟨v0, vs0, d0, ds0, p0, q0, hargs, rfl, rfl, h0, r0⟩ := trodAll_cons hA
  obtain ⟨v1, vs1, d1, ds1, p1, q1, rfl, rfl, rfl, h1, r1⟩ := trodAll_cons r0
  obtain ⟨v2, vs2, d2, ds2, p2, q2, rfl, rfl, rfl, h2, r2⟩ := trodAll_cons r1
  obtain ⟨v3, vs3, d3, ds3, p3, q3, rfl, rfl, rfl, h3, r3⟩ := trodAll_cons r2
  obtain ⟨rfl, rfl, rfl⟩ := trodAll_nil r3
  obtain rfl : args = #[v0, v1, v2, v3] := by cases args; simp_all
  obtain ⟨rfl, rfl⟩ := trodVars_none hV
  obtain ⟨a0, a1, a2, a3, y0, y1, y2, y3, m0, rfl, rfl, rfl, g0, g1, g2, g3⟩ := open_agg4 Try.underlying23 (by kernel_rfl) cellsR (hval 0 23 v0 rfl rfl) h0
  obtain ⟨n1, rfl, rfl, rfl, wn1⟩ := open_int Try.underlying3 (hval 1 3 v1 rfl rfl) h1
  obtain ⟨n2, rfl, rfl, rfl, wn2⟩ := open_int Try.underlying3 (hval 2 3 v2 rfl rfl) h2
  obtain ⟨n3, rfl, rfl, rfl, wn3⟩ := open_int Try.underlying3 (hval 3 3 v3 rfl rfl) h3
  obtain ⟨x0, e0, rfl, w0⟩ := DataW.trod_int Try.underlying3 g0
  obtain ⟨x1, e1, rfl, w1⟩ := DataW.trod_int Try.underlying3 g1
  obtain ⟨x2, e2, rfl, w2⟩ := DataW.trod_int Try.underlying3 g2
  obtain ⟨x3, e3, rfl, w3⟩ := DataW.trod_int Try.underlying3 g3
  simp at e0 e1 e2 e3
  subst e0 e1 e2 e3
  clear hA0 hval0
  simp only [List.append_nil] at hW'
  have regReads : ∀ (W' : World) (sp : Nat → Bool) (x0 x1 x2 x3 : Int), (Lit.int .i64 x0).wf = true → (Lit.int .i64 x1).wf = true → (Lit.int .i64 x2).wf = true → (Lit.int .i64 x3).wf = true →
      DataW.Trod enc Try.prog W' 0 sp true 23 (reg x0 x1 x2 x3) (.agg [.lit (.int .i64 x0), .lit (.int .i64 x1), .lit (.int .i64 x2), .lit (.int .i64 x3)]) [] := fun W' sp x0 x1 x2 x3 w0 w1 w2 w3 =>
    shut_agg4 (y0 := (.lit (.int .i64 x0), [])) (y1 := (.lit (.int .i64 x1), [])) (y2 := (.lit (.int .i64 x2), [])) (y3 := (.lit (.int .i64 x3), [])) Try.underlying23 (by kernel_rfl) cellsR
      ⟨1, by simp [DataW.trod, Try.underlying3, w0]⟩ ⟨1, by simp [DataW.trod, Try.underlying3, w1]⟩ ⟨1, by simp [DataW.trod, Try.underlying3, w2]⟩ ⟨1, by simp [DataW.trod, Try.underlying3, w3]⟩
  refine (tilesMatch_any x0 x1 x2 x3 n1 n2 n3 W).mono fun e W' ⟨he, hb⟩ => ?_
  subst he
  exact ⟨_, rfl, _, _, _, [], [], [], hW', trodAll_cons_mk (shut_bool Try.underlying4 _) trodAll_mk0, trodAll_cons_mk (regReads _ _ _ _ _ _ w0 w1 w2 w3) (trodAll_cons_mk (shut_int Try.underlying3 wn1) (trodAll_cons_mk (shut_int Try.underlying3 wn2) (trodAll_cons_mk (shut_int Try.underlying3 wn3) trodAll_mk0))), rfl, hb.frame _, fun h => by cases h⟩

theorem over : Rows.tilesMatchRow.holds Try.pinned (OpenSpec.ofChange Rows.tilesMatchSpec) :=
  OpenClaim.holds_of_wide 13 Try.f13 rfl rfl rfl rfl rfl rfl rfl ⟨rfl, rfl, rfl, rfl, rfl⟩ rfl rfl rfl rfl rfl (by kernel_rfl) Try.func13 (by kernel_rfl)
    (of_decide_eq_true (by kernel_rfl)) (by unfold Func.isWrapper; rw [if_neg (of_decide_eq_false (by kernel_rfl))]; exact ⟨rfl, rfl⟩)
    (fun os started H enc _ => lifted os started H enc)

theorem proved : Rows.TilesMatchSaid :=
  over
#print axioms proved
end Go.Proofs.Ytihjemookgnafaa.tilesMatch
