/- The reference's closure of Shade; directions and their lengths. -/
import Derived.Test.YtjjhhnoeiglnhabSha6
namespace Go.Proofs.Ytjjhhnoeiglnhab
open Go.RowKit Fl
set_option linter.unusedVariables false

set_option maxHeartbeats 4000000 in
set_option maxRecDepth 100000 in
theorem rshade1_any (X Y : Int) (W H n b cap : Nat) (v : Nat → Nat) (p pm : Nat) (lx ly lz : Int) (M : Nat) (w : World) (K : ShCaps w X Y W H n b cap v p pm lx ly lz M) (h0 : checkR X Y W H = 0) (hn : n = H * W) (hh : allB n (fun i => hgtB (v i)) = true)
    (hW : 3 ≤ W) (hH : 3 ≤ H) (hM : LenOk M) (l1 : lx.natAbs ≤ 1000) (l2 : ly.natAbs ≤ 1000) (l3 : lz.natAbs ≤ 1000) :
    Clos2 103 #[.pointer (some ⟨p, 0, none⟩), .pointer (some ⟨p + 1, 0, none⟩), .pointer (some ⟨p + 1 + 1, 0, none⟩), .pointer (some ⟨p + 1 + 1 + 1, 0, none⟩), .pointer (some ⟨pm, 0, none⟩)] (X + 1) (Y + 1) ((W : Int) - 2) ((H : Int) - 2) (shaF M lx ly lz v W) w := by
  intro x y j w2 h1 h2 h3 h4 hj hb
  have n1 : 1 ≤ n := by rw [hn]; exact Nat.mul_pos (by omega) (by omega)
  have K2 := K.stay n1 hb
  have hi := rim_num hW h1 h2 h3 hj
  unfold shaF
  obtain ⟨i, hi'⟩ : ∃ i, rimI W j = i := ⟨_, rfl⟩
  rw [hi'] at hi ⊢
  have I := in_cell hn h1 (show x + 1 < X + W by omega) h3 (show y + 1 < Y + H by omega) hi
  obtain ⟨pp, q, u, m, a, X', Z, c, nx, ny, nz, e, f, s, d, t, r, S⟩ := sha_parts hh I hM l1 l2 l3
  rw [S.w]
  have zb : b < w2.heap.size := World.block_lt_of_cell? w2 _ (K2.row i I.a0)
  have NO := Lib.hid (fun W' (hb : Below w2.heap.size w2 W') => rnormal_any X Y W H n b cap i v x y W' h0 hn (flAt_congr K2.row (hb.block _ zb)) hh I S.nm S.lt.nx1 S.lt.nx2 S.lt.ny1 S.lt.ny2 S.lt.nz1 S.lt.nz2)
  have M1 := Lib.hid (fun w => refMul_any 45 _ _ e S.lt.a2 S.lt.a1 w)
  have M2 := Lib.hid (fun w => refMul_any 45 _ _ f S.lt.b2 S.lt.b1 w)
  have A1 := Lib.hid (fun w => refAdd_any 46 e f s S.lt.s2 S.lt.s1 w)
  have M3 := Lib.hid (fun w => refMul_any 24 _ _ d S.lt.d2 S.lt.d1 w)
  have A2 := Lib.hid (fun w => refAdd_any 47 s d t S.lt.t2 S.lt.t1 w)
  have DV := Lib.hid (fun w => refDiv_any 47 t M r S.lt.r2 S.lt.r1 w)
  obtain ⟨ar, hr⟩ := S.lt.v
  have GR := Lib.hid (fun w => rgreater_zero r hr w)
  have GF := Lib.hid K2.fld
  have G1 := Lib.hid K2.k1
  have G2 := Lib.hid K2.k2
  have G3 := Lib.hid K2.k3
  have GM := Lib.hid K2.km
  obtain ⟨cF, fF, zF⟩ := blkC GF.out
  clear S K K2 h0 hn hh hW hH hM l1 l2 l3 hb hi hi' I h1 h2 h3 h4 hj hr
  go_enter Try.func103, Try.ntmps103
  go_wp2_with (first | (go_at_call 95; refine (NO.out _ (by repeat (first | exact Below.refl _ _ | refine Below.alloc ?_ (by first | omega | (simp; done) | (simp; omega)) _ | refine Below.setCell ?_ (by first | omega | (simp; done) | (simp; omega)) _ | refine Below.drew ?_))).mono ?_; rintro e' w4 ⟨rfl, hb4⟩; have B4 := Lib.hid hb4; clear cF fF zF; obtain ⟨d1, f1, z1⟩ := blkC (blkStay G1.out B4.out); obtain ⟨d2, f2, z2⟩ := blkC (blkStay G2.out B4.out); obtain ⟨d3, f3, z3⟩ := blkC (blkStay G3.out B4.out); obtain ⟨dM, fM, zM⟩ := blkC (blkStay GM.out B4.out)))
  go_quiet (first | (go_at_call 102; exact Calls.quiet_of_same (Calls.mono (refConv_any _ _) fun _ _ h => ⟨h.1, h.2.symm⟩)) | (go_at_call 81; (with_reducible refine Calls.mono (M1.out _) ?_); exact fun _ _ h => ⟨h.1, _, h.2.symm⟩) | (go_at_call 81; (with_reducible refine Calls.mono (M2.out _) ?_); exact fun _ _ h => ⟨h.1, _, h.2.symm⟩) | (go_at_call 81; (with_reducible refine Calls.mono (M3.out _) ?_); exact fun _ _ h => ⟨h.1, _, h.2.symm⟩) | (go_at_call 80; (with_reducible refine Calls.mono (A1.out _) ?_); exact fun _ _ h => ⟨h.1, _, h.2.symm⟩) | (go_at_call 80; (with_reducible refine Calls.mono (A2.out _) ?_); exact fun _ _ h => ⟨h.1, _, h.2.symm⟩) | (go_at_call 105; exact Calls.quiet_of_same (Calls.mono (DV.out _) fun _ _ h => ⟨h.1, h.2.symm⟩)) | (go_at_call 104; exact Calls.quiet_of_same (Calls.mono (GR.out _) fun _ _ h => ⟨h.1, h.2.symm⟩)))
  go_wp2
  go_ret
  exact ⟨rfl, B4.out.trans ((below_drewN _ _).mono B4.out.size)⟩

/-- Three integers, as a list. -/
def zI (a b c : Int) (m : Nat) : Int := if m = 0 then a else if m = 1 then b else c
abbrev dirObj (a b c : Int) : Obj := .cells #[.int .i64 a, .int .i64 b, .int .i64 c] 3
theorem zI_cell {w : World} {k : Nat} {a b c : Int} (h : w.heap[k]? = some (dirObj a b c)) (j : Nat) (hj : j < 3) : w.cell? ⟨k, j, none⟩ = some (.int .i64 (zI a b c j)) := by
  rw [(blkC h).1 j]
  have : j = 0 ∨ j = 1 ∨ j = 2 := by omega
  rcases this with rfl | rfl | rfl <;> rfl
/-- The error of a direction. -/
def dirE (a b c : Int) : Int := if withinB a (-1000) 1000 = true ∧ withinB b (-1000) 1000 = true ∧ withinB c (-1000) 1000 = true then (if a = 0 ∧ b = 0 ∧ c = 0 then 12 else 0) else 3

set_option maxHeartbeats 1000000 in
theorem checkDir_any (a b c : Int) (k : Nat) (w : World) (h : w.heap[k]? = some (dirObj a b c)) :
    Calls Try.prog 97 #[.slice (some ⟨k, 0, none⟩) 3 3] w fun e w' => e = .returned (.int .i64 (dirE a b c)) ∧ w = w' := by
  have hz := zI_cell h
  have z0 : zI a b c 0 = a := rfl
  have z1 : zI a b c 1 = b := rfl
  have z2 : zI a b c 2 = c := rfl
  have D := Lib.hid (show (∀ m, m < 3 → withinB (zI a b c m) (-1000) 1000 = true) → dirE a b c = (if a = 0 ∧ b = 0 ∧ c = 0 then 12 else 0) from fun q => by
    unfold dirE; rw [if_pos ⟨q 0 (by omega), q 1 (by omega), q 2 (by omega)⟩])
  have D' := Lib.hid (show ∀ m, m < 3 → withinB (zI a b c m) (-1000) 1000 = false → dirE a b c = 3 from fun m hm q => by
    unfold dirE; rw [if_neg]
    rintro ⟨q0, q1, q2⟩
    have : m = 0 ∨ m = 1 ∨ m = 2 := by omega
    rcases this with rfl | rfl | rfl
    · rw [z0, q0] at q; cases q
    · rw [z1, q1] at q; cases q
    · rw [z2, q2] at q; cases q)
  have Z := Lib.hid (show (∀ m, m < 3 → zI a b c m = 0) → (a = 0 ∧ b = 0 ∧ c = 0) from fun q => ⟨q 0 (by omega), q 1 (by omega), q 2 (by omega)⟩)
  have Z' := Lib.hid (show ∀ m, m < 3 → zI a b c m ≠ 0 → ¬ (a = 0 ∧ b = 0 ∧ c = 0) from fun m hm q h => by
    have : m = 0 ∨ m = 1 ∨ m = 2 := by omega
    rcases this with rfl | rfl | rfl
    · exact q h.1
    · exact q h.2.1
    · exact q h.2.2)
  have WI := Lib.hid (fun x w => within_any x (-1000) 1000 w)
  generalize zI a b c = z at *
  clear z0 z1 z2 h
  go_enter Try.func97, Try.ntmps97
  go_wp2
  go_loop [3, 8] (fun s i => ∃ (j : Nat) (q : Bool), j ≤ 3 ∧ i = .int .i64 j ∧ s = .bool q ∧ (∀ m, m < j → withinB (z m) (-1000) 1000 = true) ∧ (q = true → ∃ m, m < j ∧ z m ≠ 0) ∧ (q = false → ∀ m, m < j → z m = 0)) (fun s i => 3 - (intOf i).toNat)
  case atStart => exact ⟨0, false, by omega, rfl, rfl, (fun m hm => by omega), (fun h => by cases h), (fun _ m hm => by omega)⟩
  case round =>
    obtain ⟨j, q, hj, rfl, rfl, hw, ht, hf⟩ := hrel
    have HW := Lib.hid hw
    have HT := Lib.hid ht
    have HF := Lib.hid hf
    clear hw ht hf
    by_cases c3 : j < 3
    · have hcell := hz j c3
      have nextw : withinB (z j) (-1000) 1000 = true → ∀ m, m < j + 1 → withinB (z m) (-1000) 1000 = true := fun hh m hm => by
        rcases Nat.lt_or_ge m j with l | l
        · exact HW.out m l
        · rw [show m = j by omega]; exact hh
      cases hwi : withinB (z j) (-1000) 1000 with
      | false =>
        have W1 := Lib.hid (fun w => within_any (z j) (-1000) 1000 w)
        rw [hwi] at W1
        have HD := Lib.hid (D'.out j c3 hwi)
        clear hwi nextw
        go_wp2_with (first | (go_at_call 122; refine (W1.out _).mono ?_; rintro e' w' ⟨rfl, rfl⟩))
        go_ret
        exact ⟨ret_int HD.out.symm, rfl⟩
      | true =>
        have W1 := Lib.hid (fun w => within_any (z j) (-1000) 1000 w)
        rw [hwi] at W1
        have NW := Lib.hid (nextw hwi)
        clear hwi nextw
        cases q with
        | true =>
          go_wp2_with (first | (go_at_call 122; refine (W1.out _).mono ?_; rintro e' w' ⟨rfl, rfl⟩))
          go_round
          case rel => exact ⟨j + 1, true, by omega, by go_num, rfl, NW.out, (fun _ => by obtain ⟨m, hm, hne⟩ := HT.out (by first | rfl | trivial); exact ⟨m, by omega, hne⟩), (fun h => by cases h)⟩
          case measure => simp [intOf]; omega
        | false =>
          by_cases z0 : z j = 0
          · have zb : (z j != 0) = false := by simp [z0]
            have Z0 := Lib.hid z0
            clear z0
            go_wp2_with (first | (go_at_call 122; refine (W1.out _).mono ?_; rintro e' w' ⟨rfl, rfl⟩))
            go_round
            case rel => exact ⟨j + 1, false, by omega, by go_num, rfl, NW.out, (fun h => by cases h), (fun _ m hm => by
              rcases Nat.lt_or_ge m j with l | l
              · exact HF.out (by first | rfl | trivial) m l
              · rw [show m = j by omega]; exact Z0.out)⟩
            case measure => simp [intOf]; omega
          · have zb : (z j != 0) = true := by simp [z0]
            have Z0 := Lib.hid z0
            clear z0
            go_wp2_with (first | (go_at_call 122; refine (W1.out _).mono ?_; rintro e' w' ⟨rfl, rfl⟩))
            go_round
            case rel => exact ⟨j + 1, true, by omega, by go_num, rfl, NW.out, (fun _ => ⟨j, by omega, Z0.out⟩), (fun h => by cases h)⟩
            case measure => simp [intOf]; omega
    · have : j = 3 := by omega
      subst this
      cases q with
      | true =>
        go_wp2
        go_ret
        obtain ⟨m, hm, hne⟩ := HT.out (by first | rfl | trivial)
        exact ⟨ret_int (by rw [D.out HW.out, if_neg (Z'.out m hm hne)]), rfl⟩
      | false =>
        go_wp2
        go_ret
        exact ⟨ret_int (by rw [D.out HW.out, if_pos (Z.out (HF.out (by first | rfl | trivial)))]), rfl⟩
end Go.Proofs.Ytjjhhnoeiglnhab
