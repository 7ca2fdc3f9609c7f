/- Lemmas and contracts for the proof that the last text of this claim holds. -/
import Derived.Test.YtmbiohopcfglcaaFolJC
import Derived.Test.YtmbiohopcfglcaaRows

/- The reference's closure of Shade; directions and their lengths. -/
namespace Go.Proofs.Ytmbiohopcfglcaa
open Go.RowKit Fl
set_option linter.unusedVariables false

set_option maxHeartbeats 4000000 in
set_option maxRecDepth 100000 in
theorem rshade1_any (X Y : Int) (W H n b cap : Nat) (v : Nat → Nat) (p pm : Nat) (lx ly lz : Int) (M : Nat) (w : World) (K : ShCaps w X Y W H n b cap v p pm lx ly lz M) (h0 : checkR X Y W H = 0) (hn : n = H * W) (hh : allB n (fun i => hgtB (v i)) = true)
    (hW : 3 ≤ W) (hH : 3 ≤ H) (hM : LenOk M) (l1 : lx.natAbs ≤ 1000) (l2 : ly.natAbs ≤ 1000) (l3 : lz.natAbs ≤ 1000) :
    Clos2 124 #[.pointer (some ⟨p, 0, none⟩), .pointer (some ⟨p + 1, 0, none⟩), .pointer (some ⟨p + 1 + 1, 0, none⟩), .pointer (some ⟨p + 1 + 1 + 1, 0, none⟩), .pointer (some ⟨pm, 0, none⟩)] (X + 1) (Y + 1) ((W : Int) - 2) ((H : Int) - 2) (shaF M lx ly lz v W) w := by
  intro x y j w2 h1 h2 h3 h4 hj hb
  have n1 : 1 ≤ n := by rw [hn]; exact Nat.mul_pos (by omega) (by omega)
  have K2 := K.stay n1 hb
  have hi := rim_num hW h1 h2 h3 hj
  unfold shaF
  obtain ⟨i, hi'⟩ : ∃ i, rimI W j = i := ⟨_, rfl⟩
  rw [hi'] at hi ⊢
  have I := in_cell hn h1 (show x + 1 < X + W by omega) h3 (show y + 1 < Y + H by omega) hi
  obtain ⟨pp, q, u, m, a, X', Z, c, nx, ny, nz, e, f, s, d, t, r, S⟩ := sha_parts hh I hM l1 l2 l3
  rw [S.w]
  have zb : b < w2.heap.size := World.block_lt_of_cell? w2 _ (K2.row i I.a0)
  have NO := Lib.hid (fun W' (hb : Below w2.heap.size w2 W') => rnormal_any X Y W H n b cap i v x y W' h0 hn (flAt_congr K2.row (hb.block _ zb)) hh I S.nm S.lt.nx1 S.lt.nx2 S.lt.ny1 S.lt.ny2 S.lt.nz1 S.lt.nz2)
  have M1 := Lib.hid (fun w => refMul_any 45 _ _ e S.lt.a2 S.lt.a1 w)
  have M2 := Lib.hid (fun w => refMul_any 45 _ _ f S.lt.b2 S.lt.b1 w)
  have A1 := Lib.hid (fun w => refAdd_any 46 e f s S.lt.s2 S.lt.s1 w)
  have M3 := Lib.hid (fun w => refMul_any 24 _ _ d S.lt.d2 S.lt.d1 w)
  have A2 := Lib.hid (fun w => refAdd_any 47 s d t S.lt.t2 S.lt.t1 w)
  have DV := Lib.hid (fun w => refDiv_any 47 t M r S.lt.r2 S.lt.r1 w)
  obtain ⟨ar, hr⟩ := S.lt.v
  have GR := Lib.hid (fun w => rgreater_zero r hr w)
  have GF := Lib.hid K2.fld
  have G1 := Lib.hid K2.k1
  have G2 := Lib.hid K2.k2
  have G3 := Lib.hid K2.k3
  have GM := Lib.hid K2.km
  obtain ⟨cF, fF, zF⟩ := blkC GF.out
  clear S K K2 h0 hn hh hW hH hM l1 l2 l3 hb hi hi' I h1 h2 h3 h4 hj hr
  go_enter Try.func124, Try.ntmps124
  go_wp2_with (first | (go_at_call 125; refine (NO.out _ (by repeat (first | exact Below.refl _ _ | refine Below.alloc ?_ (by first | omega | (simp; done) | (simp; omega)) _ | refine Below.setCell ?_ (by first | omega | (simp; done) | (simp; omega)) _ | refine Below.drew ?_))).mono ?_; rintro e' w4 ⟨rfl, hb4⟩; have B4 := Lib.hid hb4; clear cF fF zF; obtain ⟨d1, f1, z1⟩ := blkC (blkStay G1.out B4.out); obtain ⟨d2, f2, z2⟩ := blkC (blkStay G2.out B4.out); obtain ⟨d3, f3, z3⟩ := blkC (blkStay G3.out B4.out); obtain ⟨dM, fM, zM⟩ := blkC (blkStay GM.out B4.out)))
  go_quiet (first | (go_at_call 104; exact Calls.quiet_of_same (Calls.mono (refConv_any _ _) fun _ _ h => ⟨h.1, h.2.symm⟩)) | (go_at_call 97; (with_reducible refine Calls.mono (M1.out _) ?_); exact fun _ _ h => ⟨h.1, _, h.2.symm⟩) | (go_at_call 97; (with_reducible refine Calls.mono (M2.out _) ?_); exact fun _ _ h => ⟨h.1, _, h.2.symm⟩) | (go_at_call 97; (with_reducible refine Calls.mono (M3.out _) ?_); exact fun _ _ h => ⟨h.1, _, h.2.symm⟩) | (go_at_call 95; (with_reducible refine Calls.mono (A1.out _) ?_); exact fun _ _ h => ⟨h.1, _, h.2.symm⟩) | (go_at_call 95; (with_reducible refine Calls.mono (A2.out _) ?_); exact fun _ _ h => ⟨h.1, _, h.2.symm⟩) | (go_at_call 102; exact Calls.quiet_of_same (Calls.mono (DV.out _) fun _ _ h => ⟨h.1, h.2.symm⟩)) | (go_at_call 126; exact Calls.quiet_of_same (Calls.mono (GR.out _) fun _ _ h => ⟨h.1, h.2.symm⟩)))
  go_wp2
  go_ret
  exact ⟨rfl, B4.out.trans ((below_drewN _ _).mono B4.out.size)⟩

/-- Three integers, as a list. -/
def zI (a b c : Int) (m : Nat) : Int := if m = 0 then a else if m = 1 then b else c
abbrev dirObj (a b c : Int) : Obj := .cells #[.int .i64 a, .int .i64 b, .int .i64 c] 3
theorem zI_cell {w : World} {k : Nat} {a b c : Int} (h : w.heap[k]? = some (dirObj a b c)) (j : Nat) (hj : j < 3) : w.cell? ⟨k, j, none⟩ = some (.int .i64 (zI a b c j)) := by
  rw [(blkC h).1 j]
  have : j = 0 ∨ j = 1 ∨ j = 2 := by omega
  rcases this with rfl | rfl | rfl <;> rfl
/-- The error of a direction. -/
def dirE (a b c : Int) : Int := if withinB a (-1000) 1000 = true ∧ withinB b (-1000) 1000 = true ∧ withinB c (-1000) 1000 = true then (if a = 0 ∧ b = 0 ∧ c = 0 then 12 else 0) else 3

set_option maxHeartbeats 1000000 in
theorem checkDir_any (a b c : Int) (k : Nat) (w : World) (h : w.heap[k]? = some (dirObj a b c)) :
    Calls Try.prog 116 #[.slice (some ⟨k, 0, none⟩) 3 3] w fun e w' => e = .returned (.int .i64 (dirE a b c)) ∧ w = w' := by
  have hz := zI_cell h
  have z0 : zI a b c 0 = a := rfl
  have z1 : zI a b c 1 = b := rfl
  have z2 : zI a b c 2 = c := rfl
  have D := Lib.hid (show (∀ m, m < 3 → withinB (zI a b c m) (-1000) 1000 = true) → dirE a b c = (if a = 0 ∧ b = 0 ∧ c = 0 then 12 else 0) from fun q => by
    unfold dirE; rw [if_pos ⟨q 0 (by omega), q 1 (by omega), q 2 (by omega)⟩])
  have D' := Lib.hid (show ∀ m, m < 3 → withinB (zI a b c m) (-1000) 1000 = false → dirE a b c = 3 from fun m hm q => by
    unfold dirE; rw [if_neg]
    rintro ⟨q0, q1, q2⟩
    have : m = 0 ∨ m = 1 ∨ m = 2 := by omega
    rcases this with rfl | rfl | rfl
    · rw [z0, q0] at q; cases q
    · rw [z1, q1] at q; cases q
    · rw [z2, q2] at q; cases q)
  have Z := Lib.hid (show (∀ m, m < 3 → zI a b c m = 0) → (a = 0 ∧ b = 0 ∧ c = 0) from fun q => ⟨q 0 (by omega), q 1 (by omega), q 2 (by omega)⟩)
  have Z' := Lib.hid (show ∀ m, m < 3 → zI a b c m ≠ 0 → ¬ (a = 0 ∧ b = 0 ∧ c = 0) from fun m hm q h => by
    have : m = 0 ∨ m = 1 ∨ m = 2 := by omega
    rcases this with rfl | rfl | rfl
    · exact q h.1
    · exact q h.2.1
    · exact q h.2.2)
  have WI := Lib.hid (fun x w => within_any x (-1000) 1000 w)
  generalize zI a b c = z at *
  clear z0 z1 z2 h
  go_enter Try.func116, Try.ntmps116
  go_wp2
  go_loop [3, 8] (fun s i => ∃ (j : Nat) (q : Bool), j ≤ 3 ∧ i = .int .i64 j ∧ s = .bool q ∧ (∀ m, m < j → withinB (z m) (-1000) 1000 = true) ∧ (q = true → ∃ m, m < j ∧ z m ≠ 0) ∧ (q = false → ∀ m, m < j → z m = 0)) (fun s i => 3 - (intOf i).toNat)
  case atStart => exact ⟨0, false, by omega, rfl, rfl, (fun m hm => by omega), (fun h => by cases h), (fun _ m hm => by omega)⟩
  case round =>
    obtain ⟨j, q, hj, rfl, rfl, hw, ht, hf⟩ := hrel
    have HW := Lib.hid hw
    have HT := Lib.hid ht
    have HF := Lib.hid hf
    clear hw ht hf
    by_cases c3 : j < 3
    · have hcell := hz j c3
      have nextw : withinB (z j) (-1000) 1000 = true → ∀ m, m < j + 1 → withinB (z m) (-1000) 1000 = true := fun hh m hm => by
        rcases Nat.lt_or_ge m j with l | l
        · exact HW.out m l
        · rw [show m = j by omega]; exact hh
      cases hwi : withinB (z j) (-1000) 1000 with
      | false =>
        have W1 := Lib.hid (fun w => within_any (z j) (-1000) 1000 w)
        rw [hwi] at W1
        have HD := Lib.hid (D'.out j c3 hwi)
        clear hwi nextw
        go_wp2_with (first | (go_at_call 87; refine (W1.out _).mono ?_; rintro e' w' ⟨rfl, rfl⟩))
        go_ret
        exact ⟨ret_int HD.out.symm, rfl⟩
      | true =>
        have W1 := Lib.hid (fun w => within_any (z j) (-1000) 1000 w)
        rw [hwi] at W1
        have NW := Lib.hid (nextw hwi)
        clear hwi nextw
        cases q with
        | true =>
          go_wp2_with (first | (go_at_call 87; refine (W1.out _).mono ?_; rintro e' w' ⟨rfl, rfl⟩))
          go_round
          case rel => exact ⟨j + 1, true, by omega, by go_num, rfl, NW.out, (fun _ => by obtain ⟨m, hm, hne⟩ := HT.out (by first | rfl | trivial); exact ⟨m, by omega, hne⟩), (fun h => by cases h)⟩
          case measure => simp [intOf]; omega
        | false =>
          by_cases z0 : z j = 0
          · have zb : (z j != 0) = false := by simp [z0]
            have Z0 := Lib.hid z0
            clear z0
            go_wp2_with (first | (go_at_call 87; refine (W1.out _).mono ?_; rintro e' w' ⟨rfl, rfl⟩))
            go_round
            case rel => exact ⟨j + 1, false, by omega, by go_num, rfl, NW.out, (fun h => by cases h), (fun _ m hm => by
              rcases Nat.lt_or_ge m j with l | l
              · exact HF.out (by first | rfl | trivial) m l
              · rw [show m = j by omega]; exact Z0.out)⟩
            case measure => simp [intOf]; omega
          · have zb : (z j != 0) = true := by simp [z0]
            have Z0 := Lib.hid z0
            clear z0
            go_wp2_with (first | (go_at_call 87; refine (W1.out _).mono ?_; rintro e' w' ⟨rfl, rfl⟩))
            go_round
            case rel => exact ⟨j + 1, true, by omega, by go_num, rfl, NW.out, (fun _ => ⟨j, by omega, Z0.out⟩), (fun h => by cases h)⟩
            case measure => simp [intOf]; omega
    · have : j = 3 := by omega
      subst this
      cases q with
      | true =>
        go_wp2
        go_ret
        obtain ⟨m, hm, hne⟩ := HT.out (by first | rfl | trivial)
        exact ⟨ret_int (by rw [D.out HW.out, if_neg (Z'.out m hm hne)]), rfl⟩
      | false =>
        go_wp2
        go_ret
        exact ⟨ret_int (by rw [D.out HW.out, if_pos (Z.out (HF.out (by first | rfl | trivial)))]), rfl⟩
end Go.Proofs.Ytmbiohopcfglcaa

/- The length of a direction; the reference's error of a direction. -/
namespace Go.Proofs.Ytmbiohopcfglcaa
open Go.RowKit Fl
set_option linter.unusedVariables false

def sq3 (a b c : Int) : Int := a * a + b * b + c * c
def lenW (a b c : Int) : Nat := rootW (floatOfInt .f32 (sq3 a b c))
theorem sq_small {d : Int} (h : d.natAbs ≤ 1000) : 0 ≤ d * d ∧ d * d ≤ 1000000 := by
  rw [← Int.natAbs_mul_self' d]
  have l : d.natAbs * d.natAbs ≤ 1000 * 1000 := Nat.mul_le_mul h h
  have e : ((d.natAbs : Int) * (d.natAbs : Int)) = ((d.natAbs * d.natAbs : Nat) : Int) := by simp
  rw [e]; omega
theorem sq_pos {d : Int} (h : d ≠ 0) : 1 ≤ d * d := by
  rw [← Int.natAbs_mul_self' d]
  have : 0 < d.natAbs * d.natAbs := Nat.mul_pos (by omega) (by omega)
  have e : ((d.natAbs : Int) * (d.natAbs : Int)) = ((d.natAbs * d.natAbs : Nat) : Int) := by simp
  rw [e]; omega

theorem dir_ok {a b c : Int} (h : dirE a b c = 0) : a.natAbs ≤ 1000 ∧ b.natAbs ≤ 1000 ∧ c.natAbs ≤ 1000 ∧ 1 ≤ sq3 a b c := by
  unfold dirE at h
  split at h
  · rename_i q
    obtain ⟨q1, q2, q3⟩ := q
    have w1 := withinB_iff.1 q1
    have w2 := withinB_iff.1 q2
    have w3 := withinB_iff.1 q3
    have l1 : a.natAbs ≤ 1000 := by omega
    have l2 : b.natAbs ≤ 1000 := by omega
    have l3 : c.natAbs ≤ 1000 := by omega
    have s1 := sq_small l1
    have s2 := sq_small l2
    have s3 := sq_small l3
    refine ⟨l1, l2, l3, ?_⟩
    unfold sq3
    split at h
    · cases h
    · rename_i nz
      by_cases za : a = 0
      · by_cases zb : b = 0
        · have := sq_pos (show c ≠ 0 from fun z => nz ⟨za, zb, z⟩); omega
        · have := sq_pos zb; omega
      · have := sq_pos za; omega
  · cases h

theorem dir_len {a b c : Int} (l1 : a.natAbs ≤ 1000) (l2 : b.natAbs ≤ 1000) (l3 : c.natAbs ≤ 1000) (p : 1 ≤ sq3 a b c) : (∃ X Z cc, RootAt (floatOfInt .f32 (sq3 a b c)) (sq3 a b c * (one : Int)) X Z cc) ∧ LenOk (lenW a b c) := by
  have s1 := sq_small l1
  have s2 := sq_small l2
  have s3 := sq_small l3
  have hs : sq3 a b c ≤ 3000000 := by unfold sq3; omega
  have hp : (0 : Int) < (one : Int) := Int.natCast_pos.2 one_pos
  obtain ⟨vn, bn⟩ := int_val (n := sq3 a b c) (by omega)
  obtain ⟨X, Z, cc, RT⟩ := root_parts vn (Int.mul_nonneg (by omega) (by omega)) bn (by omega)
  refine ⟨⟨X, Z, cc, RT⟩, cc, RT.val, ?_⟩
  have := RT.lo 1 (by omega) (by
    have := Int.mul_le_mul_of_nonneg_right p (show (0 : Int) ≤ (one : Int) by omega)
    simpa using this)
  simpa using this

set_option maxHeartbeats 2000000 in
theorem length_any (a b c : Int) (k : Nat) (w : World) (h : w.heap[k]? = some (dirObj a b c)) (l1 : a.natAbs ≤ 1000) (l2 : b.natAbs ≤ 1000) (l3 : c.natAbs ≤ 1000) (p : 1 ≤ sq3 a b c) :
    Calls Try.prog 117 #[.slice (some ⟨k, 0, none⟩) 3 3] w fun e w' => e = .returned (.float .f32 (lenW a b c)) ∧ w = w' := by
  obtain ⟨⟨X, Z, cc, RT⟩, _⟩ := dir_len l1 l2 l3 p
  have s1 := sq_small l1
  have s2 := sq_small l2
  have s3 := sq_small l3
  have RO := Lib.hid (fun w => root_any RT w)
  unfold lenW
  generalize rootW (floatOfInt .f32 (sq3 a b c)) = M at *
  obtain ⟨A, hA⟩ : ∃ A, a * a = A := ⟨_, rfl⟩
  obtain ⟨B, hB⟩ : ∃ B, b * b = B := ⟨_, rfl⟩
  obtain ⟨C, hC⟩ : ∃ C, c * c = C := ⟨_, rfl⟩
  have u1 : wrap64 (a * a) = A := by rw [← hA]; exact IntWalk.wrap64_in _ ⟨by omega, by omega⟩
  have u2 : wrap64 (b * b) = B := by rw [← hB]; exact IntWalk.wrap64_in _ ⟨by omega, by omega⟩
  have u3 : wrap64 (c * c) = C := by rw [← hC]; exact IntWalk.wrap64_in _ ⟨by omega, by omega⟩
  have e : sq3 a b c = A + B + C := by unfold sq3; rw [hA, hB, hC]
  rw [e] at RO
  rw [hA] at s1
  rw [hB] at s2
  rw [hC] at s3
  obtain ⟨cB, fB, zB⟩ := blkC h
  clear hA hB hC e p l1 l2 l3 RT h
  go_enter Try.func117, Try.ntmps117
  go_wp2
  go_loop [3, 8] (fun s i => (i = .int .i64 0 ∧ s = .int .i64 0) ∨ (i = .int .i64 1 ∧ s = .int .i64 A) ∨ (i = .int .i64 2 ∧ s = .int .i64 (A + B)) ∨ (i = .int .i64 3 ∧ s = .int .i64 (A + B + C))) (fun s i => 3 - (intOf i).toNat)
  case atStart => exact .inl ⟨rfl, rfl⟩
  case round =>
    rcases hrel with ⟨rfl, rfl⟩ | ⟨rfl, rfl⟩ | ⟨rfl, rfl⟩ | ⟨rfl, rfl⟩
    · go_wp2
      go_round
      case rel => exact .inr (.inl ⟨rfl, by simp⟩)
      case measure => simp [intOf]
    · go_wp2
      go_round
      case rel => exact .inr (.inr (.inl ⟨rfl, rfl⟩))
      case measure => simp [intOf]
    · go_wp2
      go_round
      case rel => exact .inr (.inr (.inr ⟨rfl, rfl⟩))
      case measure => simp [intOf]
    · go_wp2_with (first | (go_at_call 181; refine (RO.out _).mono ?_; rintro e' w' ⟨rfl, rfl⟩))
      go_ret
      exact ⟨rfl, rfl⟩

set_option maxHeartbeats 400000 in
theorem lightIn_any (x : Int) (w : World) :
    Calls Try.prog 197 #[.int .i64 x] w fun e w' => e = .returned (.bool (withinB x (-1000) 1000)) ∧ w = w' := by
  go_enter Try.func197, Try.ntmps197
  go_wp2
  all_goals go_ret
  all_goals exact ⟨ret_bool (by rw [Bool.eq_iff_iff, withinB_iff]; simp; omega), rfl⟩

theorem enters_LightError1 : Enters 197 := by intro args W; simp [callFunc, Try.func197, Try.f197]

set_option maxHeartbeats 1000000 in
theorem lightError_any (a b c : Int) (w : World) :
    Calls Try.prog 123 #[.int .i64 a, .int .i64 b, .int .i64 c] w fun e w' => e = .returned (.int .i64 (dirE a b c)) ∧ w = w' := by
  have IA := Lib.hid (fun w => lightIn_any a w)
  have IB := Lib.hid (fun w => lightIn_any b w)
  have IC := Lib.hid (fun w => lightIn_any c w)
  have hcall := enters_LightError1
  unfold Enters at hcall
  unfold dirE
  generalize withinB a (-1000) 1000 = p at *
  generalize withinB b (-1000) 1000 = q at *
  generalize withinB c (-1000) 1000 = r at *
  cases p with
  | false =>
    rw [if_neg (by simp)]
    go_enter Try.func123, Try.ntmps123
    go_wp2_with (first | (with_reducible refine Calls.mono (IA.out _) ?_; rintro e' w' ⟨rfl, rfl⟩))
    go_ret
    exact ⟨rfl, rfl⟩
  | true =>
    cases q with
    | false =>
      rw [if_neg (by simp)]
      go_enter Try.func123, Try.ntmps123
      go_wp2_with (first | (with_reducible refine Calls.mono (IA.out _) ?_; rintro e' w' ⟨rfl, rfl⟩) | (with_reducible refine Calls.mono (IB.out _) ?_; rintro e' w' ⟨rfl, rfl⟩))
      go_ret
      exact ⟨rfl, rfl⟩
    | true =>
      cases r with
      | false =>
        rw [if_neg (by simp)]
        go_enter Try.func123, Try.ntmps123
        go_wp2_with (first | (with_reducible refine Calls.mono (IA.out _) ?_; rintro e' w' ⟨rfl, rfl⟩) | (with_reducible refine Calls.mono (IB.out _) ?_; rintro e' w' ⟨rfl, rfl⟩) | (with_reducible refine Calls.mono (IC.out _) ?_; rintro e' w' ⟨rfl, rfl⟩))
        go_ret
        exact ⟨rfl, rfl⟩
      | true =>
        rw [if_pos (by simp)]
        go_enter Try.func123, Try.ntmps123
        go_wp2_with (first | (with_reducible refine Calls.mono (IA.out _) ?_; rintro e' w' ⟨rfl, rfl⟩) | (with_reducible refine Calls.mono (IB.out _) ?_; rintro e' w' ⟨rfl, rfl⟩) | (with_reducible refine Calls.mono (IC.out _) ?_; rintro e' w' ⟨rfl, rfl⟩))
        all_goals go_ret
        all_goals exact ⟨ret_int (by first | rfl | omega | (split <;> first | rfl | omega) | simp_all), rfl⟩
end Go.Proofs.Ytmbiohopcfglcaa

/- Contracts: checkDirection and length of two parts. -/
namespace Go.Proofs.Ytmbiohopcfglcaa
open Go.RowKit Fl
set_option linter.unusedVariables false

abbrev dir2Obj (a b : Int) : Obj := .cells #[.int .i64 a, .int .i64 b] 3
theorem zI2_cell {w : World} {k : Nat} {a b : Int} (h : w.heap[k]? = some (dir2Obj a b)) (j : Nat) (hj : j < 2) : w.cell? ⟨k, j, none⟩ = some (.int .i64 (zI a b 0 j)) := by
  rw [(blkC h).1 j]
  have : j = 0 ∨ j = 1 := by omega
  rcases this with rfl | rfl <;> rfl

set_option maxHeartbeats 1000000 in
theorem checkDir2_any (a b : Int) (k : Nat) (w : World) (h : w.heap[k]? = some (dir2Obj a b)) :
    Calls Try.prog 116 #[.slice (some ⟨k, 0, none⟩) 2 2] w fun e w' => e = .returned (.int .i64 (dirE a b 0)) ∧ w = w' := by
  have hz := zI2_cell h
  have z0 : zI a b 0 0 = a := rfl
  have z1 : zI a b 0 1 = b := rfl
  have z2 : zI a b 0 2 = 0 := rfl
  have w2 : withinB 0 (-1000) 1000 = true := rfl
  have D := Lib.hid (show (∀ m, m < 2 → withinB (zI a b 0 m) (-1000) 1000 = true) → dirE a b 0 = (if a = 0 ∧ b = 0 ∧ (0 : Int) = 0 then 12 else 0) from fun q => by
    unfold dirE; rw [if_pos ⟨q 0 (by omega), q 1 (by omega), w2⟩])
  have D' := Lib.hid (show ∀ m, m < 2 → withinB (zI a b 0 m) (-1000) 1000 = false → dirE a b 0 = 3 from fun m hm q => by
    unfold dirE; rw [if_neg]
    rintro ⟨q0, q1, q2⟩
    have : m = 0 ∨ m = 1 := by omega
    rcases this with rfl | rfl
    · rw [z0, q0] at q; cases q
    · rw [z1, q1] at q; cases q
    )
  have Z := Lib.hid (show (∀ m, m < 2 → zI a b 0 m = 0) → (a = 0 ∧ b = 0 ∧ (0 : Int) = 0) from fun q => ⟨q 0 (by omega), q 1 (by omega), rfl⟩)
  have Z' := Lib.hid (show ∀ m, m < 2 → zI a b 0 m ≠ 0 → ¬ (a = 0 ∧ b = 0 ∧ (0 : Int) = 0) from fun m hm q h => by
    have : m = 0 ∨ m = 1 := by omega
    rcases this with rfl | rfl
    · exact q h.1
    · exact q h.2.1
    )
  have WI := Lib.hid (fun x w => within_any x (-1000) 1000 w)
  generalize zI a b 0 = z at *
  clear z0 z1 z2 w2 h
  go_enter Try.func116, Try.ntmps116
  go_wp2
  go_loop [3, 8] (fun s i => ∃ (j : Nat) (q : Bool), j ≤ 2 ∧ i = .int .i64 j ∧ s = .bool q ∧ (∀ m, m < j → withinB (z m) (-1000) 1000 = true) ∧ (q = true → ∃ m, m < j ∧ z m ≠ 0) ∧ (q = false → ∀ m, m < j → z m = 0)) (fun s i => 2 - (intOf i).toNat)
  case atStart => exact ⟨0, false, by omega, rfl, rfl, (fun m hm => by omega), (fun h => by cases h), (fun _ m hm => by omega)⟩
  case round =>
    obtain ⟨j, q, hj, rfl, rfl, hw, ht, hf⟩ := hrel
    have HW := Lib.hid hw
    have HT := Lib.hid ht
    have HF := Lib.hid hf
    clear hw ht hf
    by_cases c3 : j < 2
    · have hcell := hz j c3
      have nextw : withinB (z j) (-1000) 1000 = true → ∀ m, m < j + 1 → withinB (z m) (-1000) 1000 = true := fun hh m hm => by
        rcases Nat.lt_or_ge m j with l | l
        · exact HW.out m l
        · rw [show m = j by omega]; exact hh
      cases hwi : withinB (z j) (-1000) 1000 with
      | false =>
        have W1 := Lib.hid (fun w => within_any (z j) (-1000) 1000 w)
        rw [hwi] at W1
        have HD := Lib.hid (D'.out j c3 hwi)
        clear hwi nextw
        go_wp2_with (first | (go_at_call 87; refine (W1.out _).mono ?_; rintro e' w' ⟨rfl, rfl⟩))
        go_ret
        exact ⟨ret_int HD.out.symm, rfl⟩
      | true =>
        have W1 := Lib.hid (fun w => within_any (z j) (-1000) 1000 w)
        rw [hwi] at W1
        have NW := Lib.hid (nextw hwi)
        clear hwi nextw
        cases q with
        | true =>
          go_wp2_with (first | (go_at_call 87; refine (W1.out _).mono ?_; rintro e' w' ⟨rfl, rfl⟩))
          go_round
          case rel => exact ⟨j + 1, true, by omega, by go_num, rfl, NW.out, (fun _ => by obtain ⟨m, hm, hne⟩ := HT.out (by first | rfl | trivial); exact ⟨m, by omega, hne⟩), (fun h => by cases h)⟩
          case measure => simp [intOf]; omega
        | false =>
          by_cases z0 : z j = 0
          · have zb : (z j != 0) = false := by simp [z0]
            have Z0 := Lib.hid z0
            clear z0
            go_wp2_with (first | (go_at_call 87; refine (W1.out _).mono ?_; rintro e' w' ⟨rfl, rfl⟩))
            go_round
            case rel => exact ⟨j + 1, false, by omega, by go_num, rfl, NW.out, (fun h => by cases h), (fun _ m hm => by
              rcases Nat.lt_or_ge m j with l | l
              · exact HF.out (by first | rfl | trivial) m l
              · rw [show m = j by omega]; exact Z0.out)⟩
            case measure => simp [intOf]; omega
          · have zb : (z j != 0) = true := by simp [z0]
            have Z0 := Lib.hid z0
            clear z0
            go_wp2_with (first | (go_at_call 87; refine (W1.out _).mono ?_; rintro e' w' ⟨rfl, rfl⟩))
            go_round
            case rel => exact ⟨j + 1, true, by omega, by go_num, rfl, NW.out, (fun _ => ⟨j, by omega, Z0.out⟩), (fun h => by cases h)⟩
            case measure => simp [intOf]; omega
    · have : j = 2 := by omega
      subst this
      cases q with
      | true =>
        go_wp2
        go_ret
        obtain ⟨m, hm, hne⟩ := HT.out (by first | rfl | trivial)
        exact ⟨ret_int (by rw [D.out HW.out, if_neg (Z'.out m hm hne)]), rfl⟩
      | false =>
        go_wp2
        go_ret
        exact ⟨ret_int (by rw [D.out HW.out, if_pos (Z.out (HF.out (by first | rfl | trivial)))]), rfl⟩


set_option maxHeartbeats 2000000 in
theorem length2_any (a b : Int) (k : Nat) (w : World) (h : w.heap[k]? = some (dir2Obj a b)) (l1 : a.natAbs ≤ 1000) (l2 : b.natAbs ≤ 1000) (p : 1 ≤ sq3 a b 0) :
    Calls Try.prog 117 #[.slice (some ⟨k, 0, none⟩) 2 2] w fun e w' => e = .returned (.float .f32 (lenW a b 0)) ∧ w = w' := by
  obtain ⟨⟨X, Z, cc, RT⟩, _⟩ := dir_len l1 l2 (by decide : (0 : Int).natAbs ≤ 1000) p
  have s1 := sq_small l1
  have s2 := sq_small l2
  have RO := Lib.hid (fun w => root_any RT w)
  unfold lenW
  generalize rootW (floatOfInt .f32 (sq3 a b 0)) = M at *
  obtain ⟨A, hA⟩ : ∃ A, a * a = A := ⟨_, rfl⟩
  obtain ⟨B, hB⟩ : ∃ B, b * b = B := ⟨_, rfl⟩
  have u1 : wrap64 (a * a) = A := by rw [← hA]; exact IntWalk.wrap64_in _ ⟨by omega, by omega⟩
  have u2 : wrap64 (b * b) = B := by rw [← hB]; exact IntWalk.wrap64_in _ ⟨by omega, by omega⟩
  have e : sq3 a b 0 = A + B := by unfold sq3; rw [hA, hB]; simp
  rw [e] at RO
  rw [hA] at s1
  rw [hB] at s2
  obtain ⟨cB, fB, zB⟩ := blkC h
  clear hA hB e p l1 l2 RT h
  go_enter Try.func117, Try.ntmps117
  go_wp2
  go_loop [3, 8] (fun s i => (i = .int .i64 0 ∧ s = .int .i64 0) ∨ (i = .int .i64 1 ∧ s = .int .i64 A) ∨ (i = .int .i64 2 ∧ s = .int .i64 (A + B))) (fun s i => 2 - (intOf i).toNat)
  case atStart => exact .inl ⟨rfl, rfl⟩
  case round =>
    rcases hrel with ⟨rfl, rfl⟩ | ⟨rfl, rfl⟩ | ⟨rfl, rfl⟩
    · go_wp2
      go_round
      case rel => exact .inr (.inl ⟨rfl, by simp⟩)
      case measure => simp [intOf]
    · go_wp2
      go_round
      case rel => exact .inr (.inr ⟨rfl, rfl⟩)
      case measure => simp [intOf]
    · go_wp2_with (first | (go_at_call 181; refine (RO.out _).mono ?_; rintro e' w' ⟨rfl, rfl⟩))
      go_ret
      exact ⟨rfl, rfl⟩

end Go.Proofs.Ytmbiohopcfglcaa

/- What a fold lifts a cell by: words and bounds. -/
namespace Go.Proofs.Ytmbiohopcfglcaa
open Go.RowKit Fl
set_option linter.unusedVariables false

/-- Twice the share of k of P. -/
def twiW (k P : Int) : Nat := mulW (shW k P) 1073741824
def tenW (t : Nat) : Nat := if (FloatKind.f32.format.order t 1065353216 == some .gt) = true then subW 1073741824 t else t
/-- What a fold of the height h lifts by, k of P places behind its beginning. -/
def lifW (k P : Int) (h : Nat) : Nat := mulW h (easeW (tenW (twiW k P)))

structure LifAt (k P : Int) (h q x2 t0 : Nat) (c : Bool) (t1 p q' r' e r : Nat) : Prop where
  q1 : floatBits .quo .f32 (floatOfInt .f32 k) (floatOfInt .f32 P) = some q
  qw : shW k P = q
  m1 : floatBits .mul .f32 q 1073741824 = some t0
  x1 : floatBits .mul .f32 (floatOfInt .f32 k) 1073741824 = some x2
  x2' : Same2 .mul 26 (floatOfInt .f32 k) 1073741824
  d1 : floatBits .quo .f32 x2 (floatOfInt .f32 P) = some t0
  d2 : Same2 .quo 1 x2 (floatOfInt .f32 P)
  cg : (FloatKind.f32.format.order t0 1065353216 == some .gt) = c
  s1 : c = true → floatBits .sub .f32 1073741824 t0 = some t1
  s2 : c = true → Same2 .sub 3 1073741824 t0
  s0 : c = false → t1 = t0
  ea : EaseAt t1 p q' r' e
  wi : wiE t1 0 1065353216 = 0
  r1 : floatBits .mul .f32 h e = some r
  r2 : Same2 .mul 20 h e
  bd : Bd 20 r
  lt : r < 4294967296
  w : lifW k P h = r

theorem quo_zero {y : Nat} {B : Int} (hy : vS y = some B) (b0 : 0 < B) : floatBits .quo .f32 0 y = some 0 := by
  obtain ⟨t, n, j, e2, rfl⟩ := vS_some hy
  have p2 := Nat.two_pow_pos (j + 1074).toNat
  rw [vOf_mag] at b0
  have ht : t = false := by
    cases t with
    | false => rfl
    | true =>
      rw [if_pos rfl] at b0
      have : (0 : Int) ≤ ((n * 2 ^ (j + 1074).toNat : Nat) : Int) := Int.natCast_nonneg _
      omega
  subst ht
  have hn : 0 < n := by
    rcases Nat.eq_zero_or_pos n with z | z
    · subst z; simp at b0
    · exact z
  show ((Ieee.single.read 0).quotient (Ieee.single.fractionBits + 2) (Ieee.single.read y)).map Ieee.single.write = some 0
  rw [e2, show Ieee.single.read 0 = .number false 0 (-149) by decide]
  unfold Ieee.Datum.quotient
  simp only
  rw [if_neg (by omega)]
  simp only [Nat.zero_shiftLeft, Nat.zero_div, Nat.zero_mod, bne_self_eq_false, Bool.toNat_false, Nat.mul_zero, Nat.add_zero, Option.map_some]
  show some (Ieee.single.nearest (false ^^ false) 0 _) = some 0
  rw [nearest_zero]
  rfl

/-- A product of a height and of a share is as great as the height at most. -/
theorem hgt_share {h e : Nat} {d : Int} (hh : hgtB h = true) (he : vS e = some d) (d0 : 0 ≤ d) (d1 : d ≤ (one : Int)) : ∃ r, floatBits .mul .f32 h e = some r ∧ Same2 .mul 20 h e ∧ Bd 20 r ∧ r < 4294967296 := by
  have s : Same2 .mul (20 + 0) h e := mul_same (by omega) (hgt_bd hh) (bd_unit he (by have := one_pos; omega) d1)
  obtain ⟨r, r1, b⟩ := same_ex s
  exact ⟨r, r1, s, b, mul_lt r1⟩

theorem lif_parts {k P : Int} {h : Nat} (k0 : 0 ≤ k) (k1 : k < P) (P2 : P ≤ 16777216) (hh : hgtB h = true) : ∃ q x2 t0 c t1 p q' r' e r, LifAt k P h q x2 t0 c t1 p q' r' e r := by
  have op := one_pos
  obtain ⟨vk, bk⟩ := int_val (n := k) (by omega)
  have vP := int_val' (n := P) (by omega)
  obtain ⟨q1, qs, _⟩ := sh_parts k0 k1 P2
  obtain ⟨q, hq⟩ : ∃ q, shW k P = q := ⟨_, rfl⟩
  rw [hq] at q1
  obtain ⟨q'', eq'', bq⟩ := same_ex qs
  rw [q1] at eq''
  have := Option.some.inj eq''
  subst this
  obtain ⟨c, hc, hcb⟩ := val_bd bq
  have kk : (0 : Int) ≤ k * (one : Int) := Int.mul_nonneg k0 (by omega)
  have Pp : (0 : Int) < P * (one : Int) := Int.mul_pos (by omega) (by omega)
  have c0 := quo_sign q1 vk vP hc kk Pp
  obtain ⟨J, hJ⟩ : ∃ J : Nat, J = 1074 := ⟨_, rfl⟩
  have c1 : c ≤ (one : Int) := by
    rw [one_pow hJ]; rw [Nat.add_zero, ← hJ] at hcb; omega
  have m2 : Same2 .mul (0 + 2) q 1073741824 := mul_same (by omega) bq bd_two
  obtain ⟨t0, m1, _⟩ := same_ex m2
  have x2s : Same2 .mul (24 + 2) (floatOfInt .f32 k) 1073741824 := mul_same (by omega) bk bd_two
  obtain ⟨x2, x1, _⟩ := same_ex x2s
  obtain ⟨B, hB⟩ : ∃ B : Nat, B = 1150 := ⟨_, rfl⟩
  have vx2 : vS x2 = some (2 * (k * (one : Int))) := by
    have v := vS_mul (B := B) x1 vk vS_two (show k * (one : Int) * (2 * (one : Int)) = 2 * (k * (one : Int)) * (one : Int) by rw [← Int.mul_assoc, Int.mul_comm _ 2]) (small_of (n := 26) (by omega) (by
      rw [show ((2 ^ 26 : Nat) : Int) = 67108864 by decide, ← Int.mul_assoc]
      exact Int.mul_le_mul_of_nonneg_right (by omega) (by omega)) (by omega)) (by omega)
    rwa [rdS_dbl vk] at v
  have vt0 : vS t0 = some (2 * c) := by
    have v := vS_mul (B := B) m1 hc vS_two (show c * (2 * (one : Int)) = 2 * c * (one : Int) by rw [← Int.mul_assoc, Int.mul_comm _ 2]) (small_of (n := 1) (by omega) (by
      rw [show ((2 ^ 1 : Nat) : Int) = 2 by decide]; omega) (by omega)) (by omega)
    rwa [rdS_dbl hc] at v
  have d2 : Same2 .quo 1 x2 (floatOfInt .f32 P) := by
    refine div_val vx2 vP (by omega) (by omega) ?_
    rw [Int.natAbs_mul, Int.natAbs_mul, Int.natAbs_mul, Int.natAbs_natCast, Nat.pow_one, Nat.mul_comm _ 2]
    exact Nat.mul_le_mul_left 2 (Nat.mul_le_mul_right _ (by omega))
  have d1 : floatBits .quo .f32 x2 (floatOfInt .f32 P) = some t0 := by
    rcases Int.lt_or_le 0 k with z | z
    · obtain ⟨r, e, _⟩ := same_ex d2
      obtain ⟨a, ha⟩ : ∃ a : Nat, k = (a : Int) := ⟨k.toNat, by omega⟩
      obtain ⟨b, hb⟩ : ∃ b : Nat, P = (b : Int) := ⟨P.toNat, by omega⟩
      subst ha hb
      have : t0 = r := by
        refine quo_dbl (A := a * one) (B := b * one) (by rw [vk]; simp) (by rw [vx2]; simp) (by rw [vP]; simp) (Nat.mul_pos (by omega) op) (Nat.mul_pos (by omega) op) (Nat.mul_le_mul_right _ (by omega)) ?_ q1 m1 e (mul_lt m1) (quo_lt e)
        rw [Nat.mul_right_comm]
        exact Nat.mul_le_mul_right _ (by omega)
      rw [this]; exact e
    · have : k = 0 := by omega
      subst this
      have f0 : floatOfInt .f32 0 = 0 := by decide
      rw [f0] at x1 q1
      have z1 : floatBits .mul .f32 0 1073741824 = some 0 := by decide
      rw [z1] at x1
      rw [← Option.some.inj x1]
      have z2 := quo_zero vP Pp
      rw [z2] at q1
      rw [← Option.some.inj q1, z1] at m1
      rw [z2, ← Option.some.inj m1]
  have bt0 : Bd 2 t0 := by
    refine bd_val' (j := J + 2) vt0 (by omega) ?_
    rw [Nat.pow_add, ← one_pow hJ]; omega
  obtain ⟨c', hc'⟩ : ∃ c', (FloatKind.f32.format.order t0 1065353216 == some .gt) = c' := ⟨_, rfl⟩
  have hg := hc'
  rw [f32f, gtr_val vt0 vS_one] at hg
  have s2 : Same2 .sub (2 + 1) 1073741824 t0 := sub_same (k := 2) (by omega) bd_two bt0
  obtain ⟨s, s1, _⟩ := same_ex s2
  have fin : ∀ t1, (c' = true → t1 = s) → (c' = false → t1 = t0) → (∃ a, vS t1 = some a ∧ 0 ≤ a ∧ a ≤ (one : Int)) → ∃ p q' r' e r, LifAt k P h q x2 t0 c' t1 p q' r' e r := by
    intro t1 ht hf ⟨a, ha, a0, a1⟩
    obtain ⟨p, q', r', e, E⟩ := ease_parts (bd_unit ha (by omega) a1)
    obtain ⟨d, hd, d0, dd1⟩ := ease_in ha a0 a1
    rw [E.w] at hd
    obtain ⟨r, r1, r2, br, lr⟩ := hgt_share hh hd d0 dd1
    refine ⟨p, q', r', e, r, q1, hq, m1, x1, x2s, d1, d2, hc', (fun z => by rw [ht z]; exact s1), (fun _ => s2), hf, E, wi_unit ha a0 a1, r1, r2, br, lr, ?_⟩
    have et : twiW k P = t0 := by unfold twiW; rw [hq]; unfold mulW; rw [m1]; rfl
    have en : tenW t0 = t1 := by
      unfold tenW
      rw [hc']
      cases c' with
      | true => rw [if_pos rfl, ht rfl]; unfold subW; rw [s1]; rfl
      | false => rw [if_neg (by simp), hf rfl]
    unfold lifW
    rw [et, en, E.w]; unfold mulW; rw [r1]; rfl
  cases c' with
  | true =>
    have h' : (one : Int) < 2 * c := by simpa using hg
    have vs : vS s = some (rdS (2 * (one : Int) - 2 * c)) := vS_sub (B := B) s1 vS_two vt0 (small_of (n := 1) (by omega) (by rw [show ((2 ^ 1 : Nat) : Int) = 2 by decide]; omega) (by omega)) (by omega)
    obtain ⟨p, q', r', e, r, L⟩ := fin s (fun _ => rfl) (fun z => by cases z) ⟨_, vs, rdS_nonneg (by omega), by
      have := rdS_mono (show 2 * (one : Int) - 2 * c ≤ (one : Int) by omega)
      rwa [rdS_self vS_one] at this⟩
    exact ⟨q, x2, t0, true, s, p, q', r', e, r, L⟩
  | false =>
    have h' : ¬ (one : Int) < 2 * c := by simpa using hg
    obtain ⟨p, q', r', e, r, L⟩ := fin t0 (fun z => by cases z) (fun _ => rfl) ⟨_, vt0, by omega, by omega⟩
    exact ⟨q, x2, t0, false, t0, p, q', r', e, r, L⟩
end Go.Proofs.Ytmbiohopcfglcaa

/- The weight of a brush, as a word; what its steps come to; it lies from 0 to 1. -/
namespace Go.Proofs.Ytmbiohopcfglcaa
open Go.RowKit Fl
set_option linter.unusedVariables false

/-- The square of the distance of two places. -/
def sqD (x y X Y : Int) : Int := (x - X) * (x - X) + (y - Y) * (y - Y)
def coneW (n R : Int) : Nat := subW 1065353216 (quoW (rootW (floatOfInt .f32 n)) (floatOfInt .f32 R))
def bellT (n F : Int) : Nat := subW 1065353216 (quoW (floatOfInt .f32 n) (floatOfInt .f32 F))
/-- The weight, by the square of the distance. -/
def weiW (k n R : Int) : Nat := if R * R ≤ n then 0 else if k = 2 then coneW n R else if k = 3 then mulW (bellT n (R * R)) (bellT n (R * R)) else 1065353216

theorem one_minus {q : Nat} {c : Int} (hb : Bd 0 q) (hc : vS q = some c) (c0 : 0 ≤ c) : ∃ r, floatBits .sub .f32 1065353216 q = some r ∧ Same2 .sub 1 1065353216 q ∧ ∃ d, vS r = some d ∧ 0 ≤ d ∧ d ≤ (one : Int) := by
  obtain ⟨a, ha, hab⟩ := val_bd hb
  rw [hc] at ha
  have ha' := Option.some.inj ha
  subst ha'
  obtain ⟨J, hJ⟩ : ∃ J : Nat, J = 1074 := ⟨_, rfl⟩
  have c1 : c ≤ (one : Int) := by
    rw [one_pow hJ]; rw [Nat.add_zero, ← hJ] at hab; omega
  have s : Same2 .sub 1 1065353216 q := sub_same (k := 0) (by omega) (bd_one 0) hb
  obtain ⟨r, e, _⟩ := same_ex s
  obtain ⟨B, hB⟩ : ∃ B : Nat, B = 1100 := ⟨_, rfl⟩
  have lt : one < 2 ^ B := one_lt (by omega)
  have v : vS r = some (rdS ((one : Int) - c)) := vS_sub (B := B) e vS_one hc (by omega) (by omega)
  refine ⟨r, e, s, _, v, rdS_nonneg (by omega), ?_⟩
  have := rdS_mono (show (one : Int) - c ≤ (one : Int) by omega)
  rwa [rdS_self vS_one] at this

structure ConeAt (n R : Int) (X Z : Nat) (c : Int) (q r : Nat) : Prop where
  rt : RootAt (floatOfInt .f32 n) (n * (one : Int)) X Z c
  q1 : floatBits .quo .f32 (rootW (floatOfInt .f32 n)) (floatOfInt .f32 R) = some q
  q2 : Same2 .quo 0 (rootW (floatOfInt .f32 n)) (floatOfInt .f32 R)
  r1 : floatBits .sub .f32 1065353216 q = some r
  r2 : Same2 .sub 1 1065353216 q
  w : coneW n R = r
  v : ∃ d, vS r = some d ∧ 0 ≤ d ∧ d ≤ (one : Int)

theorem cone_parts {n R : Int} (n0 : 0 ≤ n) (r1 : 1 ≤ R) (r2 : R ≤ 256) (h : n < R * R) : ∃ X Z c q r, ConeAt n R X Z c q r := by
  have hR : R * R ≤ 65536 := by
    have := Int.mul_le_mul r2 r2 (by omega) (by omega); omega
  obtain ⟨vn, bn⟩ := int_val (n := n) (by omega)
  obtain ⟨vr, _⟩ := int_val (n := R) (by omega)
  have hp : (0 : Int) < (one : Int) := Int.natCast_pos.2 one_pos
  obtain ⟨X, Z, c, RT⟩ := root_parts vn (Int.mul_nonneg n0 (by omega)) bn (by omega)
  obtain ⟨g, hg⟩ : ∃ g : Nat, R = g := ⟨R.toNat, by omega⟩
  have cR : c ≤ R * (one : Int) := by
    rw [hg]
    refine RT.hi g (by omega) ?_
    rw [Int.natCast_mul, ← hg]
    exact Int.mul_le_mul_of_nonneg_right (by omega) (by omega)
  have c0 := RT.nn
  have Rp : 0 < R * (one : Int) := Int.mul_pos (by omega) hp
  have q2 : Same2 .quo 0 (rootW (floatOfInt .f32 n)) (floatOfInt .f32 R) := div_val RT.val vr (by omega) (by omega) (by rw [Nat.pow_zero, Nat.mul_one]; omega)
  obtain ⟨q, q1, bq⟩ := same_ex q2
  obtain ⟨cq, hcq, _⟩ := val_bd bq
  obtain ⟨r, e1, e2, v⟩ := one_minus bq hcq (quo_sign q1 RT.val vr hcq c0 Rp)
  exact ⟨X, Z, c, q, r, RT, q1, q2, e1, e2, by unfold coneW quoW subW; rw [q1]; show (floatBits .sub .f32 1065353216 q).getD 0 = r; rw [e1]; rfl, v⟩

structure BellAt (n F : Int) (q t r : Nat) : Prop where
  q1 : floatBits .quo .f32 (floatOfInt .f32 n) (floatOfInt .f32 F) = some q
  q2 : Same2 .quo 0 (floatOfInt .f32 n) (floatOfInt .f32 F)
  t1 : floatBits .sub .f32 1065353216 q = some t
  t2 : Same2 .sub 1 1065353216 q
  r1 : floatBits .mul .f32 t t = some r
  r2 : Same2 .mul 0 t t
  w : mulW (bellT n F) (bellT n F) = r
  v : ∃ d, vS r = some d ∧ 0 ≤ d ∧ d ≤ (one : Int)

theorem unit_square {t : Nat} {a : Int} (h : vS t = some a) (a0 : 0 ≤ a) (a1 : a ≤ (one : Int)) : ∃ r, floatBits .mul .f32 t t = some r ∧ Same2 .mul 0 t t ∧ ∃ d, vS r = some d ∧ 0 ≤ d ∧ d ≤ (one : Int) := by
  have bt := bd_unit h (by omega) a1
  have s : Same2 .mul 0 t t := mul_same (a := 0) (b := 0) (by omega) bt bt
  obtain ⟨r, e, _⟩ := same_ex s
  obtain ⟨P, hP⟩ := mul_unit h h
  have hone : (0 : Int) < (one : Int) := Int.natCast_pos.2 one_pos
  have P0 : 0 ≤ P := by
    have := Int.mul_nonneg a0 a0
    rw [hP] at this
    exact Int.le_of_mul_le_mul_right (by rw [Int.zero_mul]; exact this) hone
  have P1 : P ≤ (one : Int) := by
    have := Int.mul_le_mul a1 a1 a0 (Int.le_of_lt hone)
    rw [hP] at this
    exact Int.le_of_mul_le_mul_right this hone
  obtain ⟨B, hB⟩ : ∃ B : Nat, B = 1100 := ⟨_, rfl⟩
  have lt : one < 2 ^ B := one_lt (by omega)
  have v := vS_mul (B := B) e h h hP (by omega) (by omega)
  refine ⟨r, e, s, _, v, rdS_nonneg P0, ?_⟩
  have := rdS_mono P1
  rwa [rdS_self vS_one] at this

theorem bell_parts {n F : Int} (n0 : 0 ≤ n) (f2 : F ≤ 65536) (h : n < F) : ∃ q t r, BellAt n F q t r := by
  obtain ⟨vn, bn⟩ := int_val (n := n) (by omega)
  obtain ⟨vf, _⟩ := int_val (n := F) (by omega)
  have hp : (0 : Int) < (one : Int) := Int.natCast_pos.2 one_pos
  have Fp : 0 < F * (one : Int) := Int.mul_pos (by omega) hp
  have N0 : 0 ≤ n * (one : Int) := Int.mul_nonneg n0 (by omega)
  have NF : n * (one : Int) ≤ F * (one : Int) := Int.mul_le_mul_of_nonneg_right (by omega) (by omega)
  have q2 : Same2 .quo 0 (floatOfInt .f32 n) (floatOfInt .f32 F) := div_val vn vf (by omega) (by omega) (by rw [Nat.pow_zero, Nat.mul_one]; omega)
  obtain ⟨q, q1, bq⟩ := same_ex q2
  obtain ⟨cq, hcq, _⟩ := val_bd bq
  obtain ⟨t, t1, t2, d, vd, d0, d1⟩ := one_minus bq hcq (quo_sign q1 vn vf hcq N0 Fp)
  obtain ⟨r, r1, r2, v⟩ := unit_square vd d0 d1
  have et : bellT n F = t := by unfold bellT quoW subW; rw [q1]; show (floatBits .sub .f32 1065353216 q).getD 0 = t; rw [t1]; rfl
  exact ⟨q, t, r, q1, q2, t1, t2, r1, r2, by rw [et]; unfold mulW; rw [r1]; rfl, v⟩

/-- A weight lies from 0 to 1. -/
theorem wei_in {k n R : Int} (n0 : 0 ≤ n) (r1 : 1 ≤ R) (r2 : R ≤ 256) : ∃ d, vS (weiW k n R) = some d ∧ 0 ≤ d ∧ d ≤ (one : Int) := by
  have hp := one_pos
  have hR : R * R ≤ 65536 := by
    have := Int.mul_le_mul r2 r2 (by omega) (by omega); omega
  unfold weiW
  split
  · exact ⟨0, vS_zero, by omega, by omega⟩
  · rename_i h
    split
    · obtain ⟨X, Z, c, q, r, C⟩ := cone_parts n0 r1 r2 (by omega)
      rw [C.w]; exact C.v
    · split
      · obtain ⟨q, t, r, C⟩ := bell_parts n0 hR (by omega)
        rw [C.w]; exact C.v
      · exact ⟨_, vS_one, by omega, by omega⟩
end Go.Proofs.Ytmbiohopcfglcaa

/- Contracts of the regions' functions, continued: the reference's Grow; Common, Inside. -/
namespace Go.Proofs.Ytmbiohopcfglcaa
open Go.RowKit

set_option maxHeartbeats 1000000 in
theorem landed_any (w : World) : Calls Try.prog 14 #[] w fun e w' => e = .returned (.bool true) ∧ Below w.heap.size w w' := by
  go_enter Try.func14, Try.ntmps14
  go_wp2
  go_ret
  exact ⟨rfl, (by repeat (first | exact Below.refl _ _ | refine Below.alloc ?_ (by first | omega | (simp; done) | (simp; omega)) _ | refine Below.setCell ?_ (by first | omega | (simp; done) | (simp; omega)) _ | refine Below.drew ?_))⟩

def insideB (x y w h x' y' w' h' : Int) : Bool := decide (x' ≤ x) && decide (y' ≤ y) && decide (x + w ≤ x' + w') && decide (y + h ≤ y' + h')
theorem insideB_iff {x y w h x' y' w' h' : Int} : insideB x y w h x' y' w' h' = true ↔ x' ≤ x ∧ y' ≤ y ∧ x + w ≤ x' + w' ∧ y + h ≤ y' + h' := by simp [insideB]; omega

end Go.Proofs.Ytmbiohopcfglcaa

/- Contracts: slices.Contains of the three kinds, CheckPlace, CheckBrush of both sides, the boxes. -/
namespace Go.Proofs.Ytmbiohopcfglcaa
open Go.RowKit Fl
set_option linter.unusedVariables false

abbrev kindsObj : Obj := .cells #[.int .i64 1, .int .i64 2, .int .i64 3] 3

set_option maxHeartbeats 1000000 in
theorem kindIndex_any (b : Nat) (k : Int) (w : World) (h : w.heap[b]? = some kindsObj) :
    Calls Try.prog 177 #[.slice (some ⟨b, 0, none⟩) 3 3, .int .i64 k] w fun e w' => e = .returned (.int .i64 (if 1 ≤ k ∧ k ≤ 3 then k - 1 else -1)) ∧ w = w' := by
  obtain ⟨cB, fB, zB⟩ := blkC h
  clear h
  go_enter Try.func177, Try.ntmps177
  go_wp2
  go_loop [8] (fun i => ∃ j : Nat, j ≤ 3 ∧ i = .int .i64 j ∧ ∀ m : Nat, m < j → k ≠ (m : Int) + 1) (fun i => 3 - (intOf i).toNat)
  case atStart => exact ⟨0, by omega, rfl, fun m hm => by omega⟩
  case round =>
    obtain ⟨j, hj, rfl, hall⟩ := hrel
    have HA := Lib.hid hall
    clear hall
    have : j = 0 ∨ j = 1 ∨ j = 2 ∨ j = 3 := by omega
    rcases this with rfl | rfl | rfl | rfl
    · by_cases c : k = 1
      · subst c
        go_wp2
        go_ret
        exact ⟨rfl, rfl⟩
      · go_wp2
        go_round
        case rel => exact ⟨1, by omega, by go_num, fun m hm => by have : m = 0 := by omega
                                                                  subst this; simpa using c⟩
        case measure => simp [intOf]
    · by_cases c : k = 2
      · subst c
        go_wp2
        go_ret
        exact ⟨rfl, rfl⟩
      · go_wp2
        go_round
        case rel => exact ⟨2, by omega, by go_num, fun m hm => by
                      have : m < 1 ∨ m = 1 := by omega
                      rcases this with q | rfl
                      · exact HA.out m q
                      · simpa using c⟩
        case measure => simp [intOf]
    · by_cases c : k = 3
      · subst c
        go_wp2
        go_ret
        exact ⟨rfl, rfl⟩
      · go_wp2
        go_round
        case rel => exact ⟨3, by omega, by go_num, fun m hm => by
                      have : m < 2 ∨ m = 2 := by omega
                      rcases this with q | rfl
                      · exact HA.out m q
                      · simpa using c⟩
        case measure => simp [intOf]
    · go_wp2
      all_goals go_ret
      all_goals exact ⟨ret_int (by
        have h0 := HA.out 0 (by omega)
        have h1 := HA.out 1 (by omega)
        have h2 := HA.out 2 (by omega)
        first | omega | (split <;> omega)), rfl⟩

set_option maxHeartbeats 1000000 in
theorem kindIn_any (b : Nat) (k : Int) (w : World) (h : w.heap[b]? = some kindsObj) :
    Calls Try.prog 85 #[.slice (some ⟨b, 0, none⟩) 3 3, .int .i64 k] w fun e w' => e = .returned (.bool (withinB k 1 3)) ∧ w = w' := by
  have IX := Lib.hid (kindIndex_any b k w h)
  clear h
  cases c : withinB k 1 3 with
  | true =>
    have hk := withinB_iff.1 c
    rw [if_pos hk] at IX
    clear c
    go_enter Try.func85, Try.ntmps85
    go_wp2_with (first | (go_at_call 177; refine (IX.out).mono ?_; rintro e w' ⟨rfl, rfl⟩))
    go_ret
    exact ⟨ret_bool (by first | (simp; done) | (simp; omega)), rfl⟩
  | false =>
    have hk := withinB_no.1 c
    rw [if_neg (by omega)] at IX
    clear c
    go_enter Try.func85, Try.ntmps85
    go_wp2_with (first | (go_at_call 177; refine (IX.out).mono ?_; rintro e w' ⟨rfl, rfl⟩))
    go_ret
    exact ⟨rfl, rfl⟩

/-- The error of a place. -/
def plcE (x y : Int) : Int := if withinB x (-4194304) 4194304 = true ∧ withinB y (-4194304) 4194304 = true then 0 else 5

set_option maxHeartbeats 400000 in
theorem isPlace_any (x : Int) (w : World) :
    Calls Try.prog 178 #[.int .i64 x] w fun e w' => e = .returned (.bool (withinB x (-4194304) 4194304)) ∧ w = w' := by
  go_enter Try.func178, Try.ntmps178
  go_wp2_with (go_at_call 87; refine (within_any _ _ _ _).mono ?_; rintro e w' ⟨rfl, rfl⟩)
  go_ret
  exact ⟨rfl, rfl⟩

set_option maxHeartbeats 400000 in
theorem checkPlace_any (x y : Int) (w : World) :
    Calls Try.prog 86 #[.int .i64 x, .int .i64 y] w fun e w' => e = .returned (.int .i64 (plcE x y)) ∧ w = w' := by
  have PX := Lib.hid (fun w => isPlace_any x w)
  have PY := Lib.hid (fun w => isPlace_any y w)
  unfold plcE
  generalize withinB x (-4194304) 4194304 = c at *
  generalize withinB y (-4194304) 4194304 = d at *
  cases c <;> cases d
  all_goals go_enter Try.func86, Try.ntmps86
  all_goals go_wp2_with (first | (go_at_call 178; (with_reducible refine (PX.out _).mono ?_); rintro e w' ⟨rfl, rfl⟩) | (go_at_call 178; (with_reducible refine (PY.out _).mono ?_); rintro e w' ⟨rfl, rfl⟩))
  all_goals go_ret
  all_goals exact ⟨rfl, rfl⟩

/-- A brush as a value; its cells. -/
abbrev bru (k X Y R : Int) (h : Nat) : Value := .agg #[.int .i64 k, .int .i64 X, .int .i64 Y, .int .i64 R, .float .f32 h]
abbrev bruObj (k X Y R : Int) (h : Nat) : Obj := .cells #[.int .i64 k, .int .i64 X, .int .i64 Y, .int .i64 R, .float .f32 h] 24
/-- The error of a brush. -/
def bruE (k X Y R : Int) (h : Nat) : Int := if withinB k 1 3 = false then 1 else if plcE X Y ≠ 0 then plcE X Y else if withinB R 1 256 = false then 3 else fldE 1 (fun _ => h)

theorem plcE_cases (x y : Int) : plcE x y = 0 ∨ plcE x y = 5 := by unfold plcE; split <;> simp

set_option maxHeartbeats 1000000 in
set_option maxRecDepth 100000 in
theorem checkBrush_any (k X Y R : Int) (h : Nat) (w : World) :
    Calls Try.prog 16 #[bru k X Y R h] w fun e w' => e = .returned (.int .i64 (bruE k X Y R h)) ∧ Below w.heap.size w w' := by
  have KI := Lib.hid (fun bb w (hb : w.heap[bb]? = some kindsObj) => kindIn_any bb k w hb)
  have CP := Lib.hid (fun w => checkPlace_any X Y w)
  have WR := Lib.hid (fun w => within_any R 1 256 w)
  have CH := Lib.hid (fun bb w (hb : w.heap[bb]? = some (flObj h)) => CheckHeights_row bb 0 1 1 (fun _ => h) (by omega) w (flAt_one_of hb))
  have hp := plcE_cases X Y
  unfold bruE
  generalize plcE X Y = pe at *
  generalize withinB k 1 3 = c1 at *
  generalize withinB R 1 256 = c2 at *
  generalize fldE 1 (fun _ => h) = er at *
  cases c1 with
  | false =>
    rw [if_pos rfl]
    go_enter Try.func16, Try.ntmps16
    go_wp2_with (first | (go_at_call 85; refine (KI.out _ _ (by ((simp only [heap_alloc_get, heap_size_alloc, if_true]) <;> ((repeat' split) <;> first | rfl | omega)))).mono ?_; rintro e w' ⟨rfl, rfl⟩))
    go_ret
    exact ⟨rfl, (by repeat (first | exact Below.refl _ _ | refine Below.alloc ?_ (by first | omega | (simp; done) | (simp; omega)) _ | refine Below.setCell ?_ (by first | omega | (simp; done) | (simp; omega)) _ | refine Below.drew ?_))⟩
  | true =>
    rw [if_neg (by simp)]
    rcases hp with rfl | rfl
    · rw [if_neg (by simp)]
      cases c2 with
      | false =>
        rw [if_pos rfl]
        go_enter Try.func16, Try.ntmps16
        go_wp2_with (first | (go_at_call 85; refine (KI.out _ _ (by ((simp only [heap_alloc_get, heap_size_alloc, if_true]) <;> ((repeat' split) <;> first | rfl | omega)))).mono ?_; rintro e w' ⟨rfl, rfl⟩) | (go_at_call 86; refine (CP.out _).mono ?_; rintro e w' ⟨rfl, rfl⟩) | (go_at_call 87; refine (WR.out _).mono ?_; rintro e w' ⟨rfl, rfl⟩))
        go_ret
        exact ⟨rfl, (by repeat (first | exact Below.refl _ _ | refine Below.alloc ?_ (by first | omega | (simp; done) | (simp; omega)) _ | refine Below.setCell ?_ (by first | omega | (simp; done) | (simp; omega)) _ | refine Below.drew ?_))⟩
      | true =>
        rw [if_neg (by simp)]
        go_enter Try.func16, Try.ntmps16
        go_wp2_with (first | (go_at_call 85; refine (KI.out _ _ (by ((simp only [heap_alloc_get, heap_size_alloc, if_true]) <;> ((repeat' split) <;> first | rfl | omega)))).mono ?_; rintro e w' ⟨rfl, rfl⟩) | (go_at_call 86; refine (CP.out _).mono ?_; rintro e w' ⟨rfl, rfl⟩) | (go_at_call 87; refine (WR.out _).mono ?_; rintro e w' ⟨rfl, rfl⟩) | (go_at_call 88; refine (CH.out _ _ (by ((simp only [heap_alloc_get, heap_size_alloc, if_true]) <;> ((repeat' split) <;> first | rfl | omega)))).mono ?_; rintro e w' ⟨rfl, rfl⟩))
        go_ret
        exact ⟨rfl, (by repeat (first | exact Below.refl _ _ | refine Below.alloc ?_ (by first | omega | (simp; done) | (simp; omega)) _ | refine Below.setCell ?_ (by first | omega | (simp; done) | (simp; omega)) _ | refine Below.drew ?_))⟩
    · rw [if_pos (by simp)]
      go_enter Try.func16, Try.ntmps16
      go_wp2_with (first | (go_at_call 85; refine (KI.out _ _ (by ((simp only [heap_alloc_get, heap_size_alloc, if_true]) <;> ((repeat' split) <;> first | rfl | omega)))).mono ?_; rintro e w' ⟨rfl, rfl⟩) | (go_at_call 86; refine (CP.out _).mono ?_; rintro e w' ⟨rfl, rfl⟩))
      go_ret
      exact ⟨rfl, (by repeat (first | exact Below.refl _ _ | refine Below.alloc ?_ (by first | omega | (simp; done) | (simp; omega)) _ | refine Below.setCell ?_ (by first | omega | (simp; done) | (simp; omega)) _ | refine Below.drew ?_))⟩

set_option maxHeartbeats 1000000 in
set_option maxRecDepth 100000 in
theorem refCheckBrush_any (k X Y R : Int) (h : Nat) (hh : h < 4294967296) (w : World) :
    Calls Try.prog 15 #[bru k X Y R h] w fun e w' => e = .returned (.int .i64 (bruE k X Y R h)) ∧ Below w.heap.size w w' := by
  have HT := Lib.hid (fun bb w (hb : w.heap[bb]? = some (flObj h)) => refHeight_of h hh bb w hb)
  obtain ⟨er, her⟩ : ∃ er, fldE 1 (fun _ => h) = er := ⟨_, rfl⟩
  rw [her] at HT
  have HE := Lib.hid her
  clear her hh
  go_enter Try.func15, Try.ntmps15
  go_wp2_with (first | (go_at_call 84; refine (HT.out _ _ (by ((simp only [heap_alloc_get, heap_size_alloc, if_true]) <;> ((repeat' split) <;> first | rfl | omega)))).mono ?_; rintro e w' ⟨rfl, rfl⟩))
  all_goals go_ret
  all_goals refine ⟨ret_int (Eq.symm ?_), (by repeat (first | exact Below.refl _ _ | refine Below.alloc ?_ (by first | omega | (simp; done) | (simp; omega)) _ | refine Below.setCell ?_ (by first | omega | (simp; done) | (simp; omega)) _ | refine Below.drew ?_))⟩
  all_goals unfold bruE plcE
  all_goals simp only [HE.out]
  all_goals first
    | (rw [if_pos (by rw [withinB_no]; omega)])
    | (rw [if_neg (by rw [Bool.not_eq_false, withinB_iff]; omega), if_pos (by rw [if_neg (by rw [withinB_iff, withinB_iff]; omega)]; decide), if_neg (by rw [withinB_iff, withinB_iff]; omega)])
    | (rw [if_neg (by rw [Bool.not_eq_false, withinB_iff]; omega), if_neg (by rw [if_pos (by rw [withinB_iff, withinB_iff]; omega)]; decide), if_pos (by rw [withinB_no]; omega)])
    | (rw [if_neg (by rw [Bool.not_eq_false, withinB_iff]; omega), if_neg (by rw [if_pos (by rw [withinB_iff, withinB_iff]; omega)]; decide), if_neg (by rw [Bool.not_eq_false, withinB_iff]; omega)])
end Go.Proofs.Ytmbiohopcfglcaa

/- Contracts: weight of the program; square and Weight of the reference. -/
namespace Go.Proofs.Ytmbiohopcfglcaa
open Go.RowKit Fl
set_option linter.unusedVariables false

theorem side_sq {d : Int} (a : -8388608 ≤ d) (b : d ≤ 8388608) : 0 ≤ d * d ∧ d * d ≤ 70368744177664 := by
  have := Int.natAbs_mul d d
  have h : d * d = ((d.natAbs * d.natAbs : Nat) : Int) := by rw [Int.natCast_mul]; exact (Int.natAbs_mul_self' d).symm
  have l : d.natAbs * d.natAbs ≤ 8388608 * 8388608 := Nat.mul_le_mul (by omega) (by omega)
  omega
theorem rad_sq {R : Int} (r1 : 1 ≤ R) (r2 : R ≤ 256) : 1 ≤ R * R ∧ R * R ≤ 65536 := by
  have a := Int.mul_le_mul r2 r2 (by omega) (by omega)
  have b := Int.mul_le_mul r1 r1 (by omega) (by omega)
  omega

theorem drewBox (w : World) (o : Obj) (k : Nat) {w' : World} (h : w' = (w.alloc o).drewN k) : Below w.heap.size w w' := by
  rw [h]
  exact ((Below.refl _ _).alloc (Nat.le_refl _) _).trans ((below_drewN _ _).mono (by simp))
theorem drewBox2 (w : World) (o : Obj) (j k : Nat) {w' : World} (h : w' = ((w.alloc o).drewN j).drewN k) : Below w.heap.size w w' := by
  rw [h, World.drewN_drewN]; exact drewBox w o _ rfl

set_option maxHeartbeats 4000000 in
set_option maxRecDepth 100000 in
theorem weight_any (k X Y R : Int) (h : Nat) (x y : Int) (w : World) (k1 : 1 ≤ k) (k3 : k ≤ 3) (X1 : -4194304 ≤ X) (X2 : X ≤ 4194304) (Y1 : -4194304 ≤ Y) (Y2 : Y ≤ 4194304) (r1 : 1 ≤ R) (r2 : R ≤ 256)
    (x1 : -4194304 ≤ x) (x2 : x ≤ 4194304) (y1 : -4194304 ≤ y) (y2 : y ≤ 4194304) :
    Calls Try.prog 89 #[bru k X Y R h, .int .i64 x, .int .i64 y] w fun e w' => e = .returned (.float .f32 (weiW k (sqD x y X Y) R)) ∧ Below w.heap.size w w' := by
  obtain ⟨a0, a1⟩ := side_sq (d := x - X) (by omega) (by omega)
  obtain ⟨b0, b1⟩ := side_sq (d := y - Y) (by omega) (by omega)
  obtain ⟨f0, f1⟩ := rad_sq r1 r2
  obtain ⟨A, hA⟩ : ∃ A, (x - X) * (x - X) = A := ⟨_, rfl⟩
  obtain ⟨B, hB⟩ : ∃ B, (y - Y) * (y - Y) = B := ⟨_, rfl⟩
  obtain ⟨F, hF⟩ : ∃ F, R * R = F := ⟨_, rfl⟩
  have hS : sqD x y X Y = A + B := by unfold sqD; rw [hA, hB]
  rw [hA] at a0 a1
  rw [hB] at b0 b1
  rw [hF] at f0 f1
  have n0 : 0 ≤ A + B := by omega
  have wei : ∀ v, (if F ≤ A + B then 0 else if k = 2 then coneW (A + B) R else if k = 3 then mulW (bellT (A + B) F) (bellT (A + B) F) else 1065353216) = v → weiW k (sqD x y X Y) R = v := fun v h => by rw [hS]; unfold weiW; rw [hF]; exact h
  have u1 : wrap64 ((x - X) * (x - X)) = A := by rw [hA]; exact IntWalk.wrap64_in _ ⟨by omega, by omega⟩
  have u2 : wrap64 ((y - Y) * (y - Y)) = B := by rw [hB]; exact IntWalk.wrap64_in _ ⟨by omega, by omega⟩
  have u3 : wrap64 (R * R) = F := by rw [hF]; exact IntWalk.wrap64_in _ ⟨by omega, by omega⟩
  have v6 : wrap64 (A + B) = A + B := IntWalk.wrap64_in _ ⟨by omega, by omega⟩
  by_cases c : F ≤ A + B
  · rw [wei 0 (if_pos c)]
    clear wei hS n0 hA hB hF
    go_enter Try.func89, Try.ntmps89
    go_wp2
    go_quiet (fail)
    go_wp2
    go_quiet (fail)
    go_wp2
    go_ret
    exact ⟨rfl, by first | exact drewBox w _ _ rfl | exact drewBox2 w _ _ _ rfl⟩
  · rcases (show k = 1 ∨ k = 2 ∨ k = 3 by omega) with rfl | rfl | rfl
    · rw [wei 1065353216 (by rw [if_neg c, if_neg (by decide), if_neg (by decide)])]
      clear wei hS n0 hA hB hF
      go_enter Try.func89, Try.ntmps89
      go_wp2
      go_quiet (fail)
      go_wp2
      go_quiet (fail)
      go_wp2
      go_ret
      exact ⟨rfl, by first | exact drewBox w _ _ rfl | exact drewBox2 w _ _ _ rfl⟩
    · obtain ⟨XX, Z, cc, q, r, C⟩ := cone_parts n0 r1 r2 (by rw [hF]; omega)
      rw [wei r (by rw [if_neg c, if_pos rfl]; exact C.w)]
      have RT := Lib.hid (fun w => root_any C.rt w)
      have a2 := fun (W : World) => run_float_arith (P := Try.prog) W .quo 22 .f32 _ _ q C.q1
      have a3 := fun (W : World) => run_float_arith (P := Try.prog) W .sub 22 .f32 1065353216 q r C.r1
      clear C
      generalize rootW (floatOfInt .f32 (A + B)) = rt at *
      clear wei hS n0 hA hB hF
      go_enter Try.func89, Try.ntmps89
      go_wp2
      go_quiet (fail)
      go_wp2
      go_quiet (fail)
      go_wp2
      go_quiet ((go_at_call 181; exact (RT.out _).mono fun _ _ h => ⟨h.1, _, h.2.symm⟩))
      go_wp2
      go_ret
      exact ⟨rfl, by first | exact drewBox w _ _ rfl | exact drewBox2 w _ _ _ rfl⟩
    · obtain ⟨q, t, r, C⟩ := bell_parts n0 f1 (by omega)
      rw [wei r (by rw [if_neg c, if_neg (by decide), if_pos rfl]; exact C.w)]
      have a2 := fun (W : World) => run_float_arith (P := Try.prog) W .quo 22 .f32 _ _ q C.q1
      have a3 := fun (W : World) => run_float_arith (P := Try.prog) W .sub 22 .f32 1065353216 q t C.t1
      have a4 := fun (W : World) => run_float_arith (P := Try.prog) W .mul 22 .f32 t t r C.r1
      clear C
      clear wei hS n0 hA hB hF
      go_enter Try.func89, Try.ntmps89
      go_wp2
      go_quiet (fail)
      go_wp2
      go_quiet (fail)
      go_wp2
      go_ret
      exact ⟨rfl, by first | exact drewBox w _ _ rfl | exact drewBox2 w _ _ _ rfl⟩
end Go.Proofs.Ytmbiohopcfglcaa

/- Contracts: a fold's check, and what it lifts, of both sides. -/
namespace Go.Proofs.Ytmbiohopcfglcaa
open Go.RowKit Fl
set_option linter.unusedVariables false

/-- A fold as a value; its cells. -/
abbrev fol (A B P : Int) (h : Nat) : Value := .agg #[.int .i64 A, .int .i64 B, .int .i64 P, .float .f32 h]
abbrev folObj (A B P : Int) (h : Nat) : Obj := .cells #[.int .i64 A, .int .i64 B, .int .i64 P, .float .f32 h] 64
/-- The error of a fold. -/
def folE (A B P : Int) (h : Nat) : Int := if withinB P 2 16777216 = false then 3 else if dirE A B 0 ≠ 0 then dirE A B 0 else fldE 1 (fun _ => h)

structure FolOk (A B P : Int) (h : Nat) : Prop where
  a1 : A.natAbs ≤ 1000
  b1 : B.natAbs ≤ 1000
  p1 : 2 ≤ P
  p2 : P ≤ 16777216
  hh : hgtB h = true

theorem fol_ok {A B P : Int} {h : Nat} (e : folE A B P h = 0) : FolOk A B P h := by
  unfold folE at e
  split at e
  · cases e
  · rename_i c
    split at e
    · rename_i d; exact absurd e d
    · rename_i d
      have d' : dirE A B 0 = 0 := by omega
      obtain ⟨l1, l2, _, _⟩ := dir_ok d'
      have c' : withinB P 2 16777216 = true := by simpa using c
      obtain ⟨p1, p2⟩ := withinB_iff.1 c'
      exact ⟨l1, l2, p1, p2, allB_iff.1 (fldE_zero.1 e) 0 (by omega)⟩

set_option maxHeartbeats 1000000 in
set_option maxRecDepth 100000 in
theorem checkFold_any (A B P : Int) (h : Nat) (w : World) :
    Calls Try.prog 46 #[fol A B P h] w fun e w' => e = .returned (.int .i64 (folE A B P h)) ∧ Below w.heap.size w w' := by
  have CD := Lib.hid (fun bb w (hb : w.heap[bb]? = some (dir2Obj A B)) => checkDir2_any A B bb w hb)
  have WR := Lib.hid (fun w => within_any P 2 16777216 w)
  have CH := Lib.hid (fun bb w (hb : w.heap[bb]? = some (flObj h)) => CheckHeights_row bb 0 1 1 (fun _ => h) (by omega) w (flAt_one_of hb))
  unfold folE
  obtain ⟨de, hde⟩ : ∃ de, dirE A B 0 = de := ⟨_, rfl⟩
  rw [hde] at CD ⊢
  clear hde
  generalize withinB P 2 16777216 = c2 at *
  generalize fldE 1 (fun _ => h) = er at *
  cases c2 with
  | false =>
    rw [if_pos rfl]
    go_enter Try.func46, Try.ntmps46
    go_wp2_with (first | (go_at_call 87; refine (WR.out _).mono ?_; rintro e w' ⟨rfl, rfl⟩))
    go_ret
    exact ⟨rfl, (by repeat (first | exact Below.refl _ _ | refine Below.alloc ?_ (by first | omega | (simp; done) | (simp; omega)) _ | refine Below.setCell ?_ (by first | omega | (simp; done) | (simp; omega)) _ | refine Below.drew ?_))⟩
  | true =>
    rw [if_neg (by simp)]
    by_cases d : de = 0
    · subst d
      rw [if_neg (by simp)]
      go_enter Try.func46, Try.ntmps46
      go_wp2_with (first | (go_at_call 87; refine (WR.out _).mono ?_; rintro e w' ⟨rfl, rfl⟩) | (go_at_call 116; refine (CD.out _ _ (by (first | (rw [heap_alloc_get, if_pos rfl]; done) | ((simp only [heap_alloc_get, heap_size_alloc, if_true]) <;> ((repeat' split) <;> first | rfl | omega))))).mono ?_; rintro e w' ⟨rfl, rfl⟩) | (go_at_call 88; refine (CH.out _ _ (by (first | (rw [heap_alloc_get, if_pos rfl]; done) | ((simp only [heap_alloc_get, heap_size_alloc, if_true]) <;> ((repeat' split) <;> first | rfl | omega))))).mono ?_; rintro e w' ⟨rfl, rfl⟩))
      go_ret
      exact ⟨rfl, (by repeat (first | exact Below.refl _ _ | refine Below.alloc ?_ (by first | omega | (simp; done) | (simp; omega)) _ | refine Below.setCell ?_ (by first | omega | (simp; done) | (simp; omega)) _ | refine Below.drew ?_))⟩
    · rw [if_pos d]
      have dn : (de == 0) = false := by simpa using d
      go_enter Try.func46, Try.ntmps46
      go_wp2_with (first | (go_at_call 87; refine (WR.out _).mono ?_; rintro e w' ⟨rfl, rfl⟩) | (go_at_call 116; refine (CD.out _ _ (by (first | (rw [heap_alloc_get, if_pos rfl]; done) | ((simp only [heap_alloc_get, heap_size_alloc, if_true]) <;> ((repeat' split) <;> first | rfl | omega))))).mono ?_; rintro e w' ⟨rfl, rfl⟩))
      go_ret
      exact ⟨rfl, (by repeat (first | exact Below.refl _ _ | refine Below.alloc ?_ (by first | omega | (simp; done) | (simp; omega)) _ | refine Below.setCell ?_ (by first | omega | (simp; done) | (simp; omega)) _ | refine Below.drew ?_))⟩

set_option maxHeartbeats 400000 in
theorem rfoldIn_any (x : Int) (w : World) :
    Calls Try.prog 138 #[.int .i64 x] w fun e w' => e = .returned (.bool (withinB x (-1000) 1000)) ∧ w = w' := by
  go_enter Try.func138, Try.ntmps138
  go_wp2
  all_goals go_ret
  all_goals refine ⟨ret_bool (Eq.symm ?_), rfl⟩
  all_goals first
    | (rw [withinB_iff]; omega)
    | (rw [withinB_no]; omega)
    | (rw [Bool.eq_iff_iff, withinB_iff, decide_eq_true_eq]; omega)

theorem fol_e {A B P : Int} {h : Nat} {er : Int} (her : fldE 1 (fun _ => h) = er) : folE A B P h =
    if P < 2 ∨ 16777216 < P then 3 else if withinB A (-1000) 1000 = false ∨ withinB B (-1000) 1000 = false then 3 else if A = 0 ∧ B = 0 then 12 else er := by
  unfold folE dirE
  rw [her]
  have z : withinB (0 : Int) (-1000) 1000 = true := rfl
  by_cases p : P < 2 ∨ 16777216 < P
  · rw [if_pos p, if_pos (by rw [withinB_no]; omega)]
  · rw [if_neg p, if_neg (by rw [Bool.not_eq_false, withinB_iff]; omega)]
    cases a : withinB A (-1000) 1000 <;> cases b : withinB B (-1000) 1000 <;> simp [z]
    split <;> simp_all

set_option maxHeartbeats 1000000 in
set_option maxRecDepth 100000 in
theorem refCheckFold_any (A B P : Int) (h : Nat) (hh : h < 4294967296) (w : World) :
    Calls Try.prog 47 #[fol A B P h] w fun e w' => e = .returned (.int .i64 (folE A B P h)) ∧ Below w.heap.size w w' := by
  have HT := Lib.hid (fun bb w (hb : w.heap[bb]? = some (flObj h)) => refHeight_of h hh bb w hb)
  have IA := Lib.hid (fun w => rfoldIn_any A w)
  have IB := Lib.hid (fun w => rfoldIn_any B w)
  obtain ⟨er, her⟩ : ∃ er, fldE 1 (fun _ => h) = er := ⟨_, rfl⟩
  rw [her] at HT
  rw [fol_e her]
  clear her hh
  generalize withinB A (-1000) 1000 = ca at *
  generalize withinB B (-1000) 1000 = cb at *
  cases ca <;> cases cb
  all_goals go_enter Try.func47, Try.ntmps47
  all_goals go_wp2_with (first | (go_at_call 138; (with_reducible refine (IA.out _).mono ?_); rintro e w' ⟨rfl, rfl⟩) | (go_at_call 138; (with_reducible refine (IB.out _).mono ?_); rintro e w' ⟨rfl, rfl⟩) | (go_at_call 84; refine (HT.out _ _ (by (first | (rw [heap_alloc_get, if_pos rfl]; done) | ((simp only [heap_alloc_get, heap_size_alloc, if_true]) <;> ((repeat' split) <;> first | rfl | omega))))).mono ?_; rintro e w' ⟨rfl, rfl⟩))
  all_goals go_ret
  all_goals refine ⟨ret_int (Eq.symm ?_), (by repeat (first | exact Below.refl _ _ | refine Below.alloc ?_ (by first | omega | (simp; done) | (simp; omega)) _ | refine Below.setCell ?_ (by first | omega | (simp; done) | (simp; omega)) _ | refine Below.drew ?_))⟩
  all_goals (repeat' split)
  all_goals first | rfl | omega | (simp_all; done) | (simp_all; omega)
end Go.Proofs.Ytmbiohopcfglcaa

/- Contracts: what a fold lifts, of both sides. -/
namespace Go.Proofs.Ytmbiohopcfglcaa
open Go.RowKit Fl
set_option linter.unusedVariables false

/-- The product of a part of a direction and a coordinate. -/
theorem part_bd {A x : Int} (a : A.natAbs ≤ 1000) (x1 : -8388608 ≤ x) (x2 : x ≤ 8388608) : -8388608000 ≤ A * x ∧ A * x ≤ 8388608000 := by
  have h : (A * x).natAbs ≤ 1000 * 8388608 := by
    rw [Int.natAbs_mul]; exact Nat.mul_le_mul a (by omega)
  omega

/-- How far a place lies behind the beginning of its fold. -/
def folK (A B P x y : Int) : Int := (A * x + B * y) % P
theorem folK_in {A B P x y : Int} (p : 2 ≤ P) : 0 ≤ folK A B P x y ∧ folK A B P x y < P := ⟨Int.emod_nonneg _ (by omega), Int.emod_lt_of_pos _ (by omega)⟩

set_option maxHeartbeats 1000000 in
set_option maxRecDepth 100000 in
theorem lift_any (A B P : Int) (h : Nat) (x y : Int) (w : World) (K : FolOk A B P h) (x1 : -8388608 ≤ x) (x2 : x ≤ 8388608) (y1 : -8388608 ≤ y) (y2 : y ≤ 8388608) :
    Calls Try.prog 135 #[fol A B P h, .int .i64 x, .int .i64 y] w fun e w' => e = .returned (.float .f32 (lifW (folK A B P x y) P h)) ∧ Below w.heap.size w w' := by
  obtain ⟨k0, k1⟩ := folK_in (A := A) (B := B) (P := P) (x := x) (y := y) K.p1
  obtain ⟨q, X2, t0, c, t1, p, q', r', e, r, L⟩ := lif_parts k0 k1 K.p2 K.hh
  have u1 := part_bd K.a1 x1 x2
  have u2 := part_bd K.b1 y1 y2
  obtain ⟨a, ha⟩ : ∃ a, A * x = a := ⟨_, rfl⟩
  obtain ⟨b, hb⟩ : ∃ b, B * y = b := ⟨_, rfl⟩
  have w1 : wrap64 (A * x) = a := by rw [← ha]; exact IntWalk.wrap64_in _ ⟨by omega, by omega⟩
  have w2 : wrap64 (B * y) = b := by rw [← hb]; exact IntWalk.wrap64_in _ ⟨by omega, by omega⟩
  rw [ha] at u1
  rw [hb] at u2
  obtain ⟨n, hn⟩ : ∃ n, a + b = n := ⟨_, rfl⟩
  have w3 : wrap64 (a + b) = n := by rw [← hn]; exact IntWalk.wrap64_in _ ⟨by omega, by omega⟩
  have hk : folK A B P x y = n % P := by unfold folK; rw [ha, hb, hn]
  have DV := Lib.hid (fun w => divide_any n P w (by have := K.p1; omega) K.p2 (by omega) (by omega))
  rw [L.w]
  rw [hk] at L
  rw [L.qw] at DV
  have e1 := fun (W : World) => run_float_arith (P := Try.prog) W .mul 22 .f32 q 1073741824 t0 L.m1
  have e2 := fun (W : World) => run_float_arith (P := Try.prog) W .mul 22 .f32 h e r L.r1
  have SE := Lib.hid (fun w => sease_any t1 p q' r' e L.ea L.wi w)
  rw [L.ea.w] at SE
  have cg := L.cg
  have s1 := L.s1
  have s0 := L.s0
  clear L ha hb hn hk K k0 k1 x1 x2 y1 y2 u1 u2
  cases c with
  | true =>
    have e3 := fun (W : World) => run_float_arith (P := Try.prog) W .sub 22 .f32 1073741824 t0 t1 (s1 rfl)
    clear s1 s0
    go_enter Try.func135, Try.ntmps135
    go_wp2_with (first | (go_at_call 200; refine (DV.out _).mono ?_; rintro e' w4 ⟨rfl, hb4⟩; have hc4 := blkStay (b := w.heap.size) (o := folObj A B P h) (by (first | (rw [heap_alloc_get, if_pos rfl]; done) | ((simp only [heap_alloc_get, heap_size_alloc, if_true]) <;> ((repeat' split) <;> first | rfl | omega)))) hb4; have hB4 : Below w.heap.size w w4 := Below.trans (by repeat (first | exact Below.refl _ _ | refine Below.alloc ?_ (by first | omega | (simp; done) | (simp; omega)) _ | refine Below.setCell ?_ (by first | omega | (simp; done) | (simp; omega)) _ | refine Below.drew ?_)) (Below.mono hb4 (by simp)); clear hb4; obtain ⟨cB, fB, zB⟩ := blkC hc4; clear hc4))
    go_quiet (first | (go_at_call 188; exact Calls.quiet_of_same (Calls.mono (SE.out _) fun _ _ h => ⟨h.1, h.2.symm⟩)))
    go_wp2
    go_ret
    exact ⟨rfl, hB4.trans ((below_drewN _ _).mono hB4.size)⟩
  | false =>
    have s0' := s0 rfl
    subst s0'
    clear s1 s0
    go_enter Try.func135, Try.ntmps135
    go_wp2_with (first | (go_at_call 200; refine (DV.out _).mono ?_; rintro e' w4 ⟨rfl, hb4⟩; have hc4 := blkStay (b := w.heap.size) (o := folObj A B P h) (by (first | (rw [heap_alloc_get, if_pos rfl]; done) | ((simp only [heap_alloc_get, heap_size_alloc, if_true]) <;> ((repeat' split) <;> first | rfl | omega)))) hb4; have hB4 : Below w.heap.size w w4 := Below.trans (by repeat (first | exact Below.refl _ _ | refine Below.alloc ?_ (by first | omega | (simp; done) | (simp; omega)) _ | refine Below.setCell ?_ (by first | omega | (simp; done) | (simp; omega)) _ | refine Below.drew ?_)) (Below.mono hb4 (by simp)); clear hb4; obtain ⟨cB, fB, zB⟩ := blkC hc4; clear hc4))
    go_quiet (first | (go_at_call 188; exact Calls.quiet_of_same (Calls.mono (SE.out _) fun _ _ h => ⟨h.1, h.2.symm⟩)))
    go_wp2
    go_ret
    exact ⟨rfl, hB4.trans ((below_drewN _ _).mono hB4.size)⟩

set_option maxHeartbeats 1000000 in
set_option maxRecDepth 100000 in
theorem rlift_any (A B P : Int) (h : Nat) (x y : Int) (w : World) (K : FolOk A B P h) (x1 : -8388608 ≤ x) (x2 : x ≤ 8388608) (y1 : -8388608 ≤ y) (y2 : y ≤ 8388608) :
    Calls Try.prog 137 #[fol A B P h, .int .i64 x, .int .i64 y] w fun e w' => e = .returned (.float .f32 (lifW (folK A B P x y) P h)) ∧ Below w.heap.size w w' := by
  obtain ⟨k0, k1⟩ := folK_in (A := A) (B := B) (P := P) (x := x) (y := y) K.p1
  obtain ⟨q, X2, t0, c, t1, p, q', r', e, r, L⟩ := lif_parts k0 k1 K.p2 K.hh
  have u1 := part_bd K.a1 x1 x2
  have u2 := part_bd K.b1 y1 y2
  obtain ⟨a, ha⟩ : ∃ a, A * x = a := ⟨_, rfl⟩
  obtain ⟨b, hb⟩ : ∃ b, B * y = b := ⟨_, rfl⟩
  have w1 : wrap64 (A * x) = a := by rw [← ha]; exact IntWalk.wrap64_in _ ⟨by omega, by omega⟩
  have w2 : wrap64 (B * y) = b := by rw [← hb]; exact IntWalk.wrap64_in _ ⟨by omega, by omega⟩
  rw [ha] at u1
  rw [hb] at u2
  obtain ⟨n, hn⟩ : ∃ n, a + b = n := ⟨_, rfl⟩
  have w3 : wrap64 (a + b) = n := by rw [← hn]; exact IntWalk.wrap64_in _ ⟨by omega, by omega⟩
  have QU := Lib.hid (fun w => quotient2_any n 1 P w (by have := K.p1; omega) K.p2 (by omega) (by omega))
  rw [Int.mul_one] at QU
  have hk : folK A B P x y = n % P := by unfold folK; rw [ha, hb, hn]
  rw [L.w]
  rw [hk] at L
  obtain ⟨k, hk2⟩ : ∃ k, n % P = k := ⟨_, rfl⟩
  rw [hk2] at L QU
  have M1 := Lib.hid (fun w => refMul_any 26 _ _ X2 L.x2' L.x1 w)
  have DV := Lib.hid (fun w => refDiv_any 1 _ _ t0 L.d2 L.d1 w)
  have M2 := Lib.hid (fun w => refMul_any 20 _ _ r L.r2 L.r1 w)
  have SE := Lib.hid (fun w => refEase_any t1 p q' r' e L.ea w)
  rw [L.ea.w] at SE
  have cg := L.cg
  have s1 := L.s1
  have s2 := L.s2
  have s0 := L.s0
  clear L ha hb hn hk hk2 K k0 k1 x1 x2 y1 y2 u1 u2
  cases c with
  | true =>
    have S1 := Lib.hid (fun w => refSub_any 3 _ _ t1 (s2 rfl) (s1 rfl) w)
    clear s1 s2 s0
    go_enter Try.func137, Try.ntmps137
    go_wp2_with (first | (go_at_call 201; refine (QU.out _).mono ?_; rintro e' w' ⟨rfl, rfl⟩))
    go_quiet (first | (go_at_call 104; exact Calls.quiet_of_same (Calls.mono (refConv_any _ _) fun _ _ h => ⟨h.1, h.2.symm⟩)) | (go_at_call 97; exact Calls.quiet_of_same (Calls.mono (M1.out _) fun _ _ h => ⟨h.1, h.2.symm⟩)) | (go_at_call 102; exact Calls.quiet_of_same (Calls.mono (DV.out _) fun _ _ h => ⟨h.1, h.2.symm⟩)))
    go_wp2_with (first | (go_at_call 101; refine (S1.out _).mono ?_; rintro e' w' ⟨rfl, rfl⟩))
    go_quiet (first | (go_at_call 189; exact (SE.out _).mono fun _ _ h => ⟨h.1, _, h.2.symm⟩) | (go_at_call 97; exact (M2.out _).mono fun _ _ h => ⟨h.1, _, h.2.symm⟩))
    go_wp2
    go_ret
    exact ⟨rfl, drewBox2 _ _ _ _ rfl⟩
  | false =>
    have s0' := s0 rfl
    subst s0'
    clear s1 s2 s0
    go_enter Try.func137, Try.ntmps137
    go_wp2_with (first | (go_at_call 201; refine (QU.out _).mono ?_; rintro e' w' ⟨rfl, rfl⟩))
    go_quiet (first | (go_at_call 104; exact Calls.quiet_of_same (Calls.mono (refConv_any _ _) fun _ _ h => ⟨h.1, h.2.symm⟩)) | (go_at_call 97; exact Calls.quiet_of_same (Calls.mono (M1.out _) fun _ _ h => ⟨h.1, h.2.symm⟩)) | (go_at_call 102; exact Calls.quiet_of_same (Calls.mono (DV.out _) fun _ _ h => ⟨h.1, h.2.symm⟩)))
    go_wp2
    go_quiet (first | (go_at_call 189; exact (SE.out _).mono fun _ _ h => ⟨h.1, _, h.2.symm⟩) | (go_at_call 97; exact (M2.out _).mono fun _ _ h => ⟨h.1, _, h.2.symm⟩))
    go_wp2
    go_ret
    exact ⟨rfl, drewBox2 _ _ _ _ rfl⟩
end Go.Proofs.Ytmbiohopcfglcaa

/- Contracts: remade, whatever function of a value and its place it is given. -/
namespace Go.Proofs.Ytmbiohopcfglcaa
open Go.RowKit Fl
set_option linter.unusedVariables false

theorem enters_remade1 : Enters 182 := by intro args W; simp [callFunc, Try.func182, Try.f182]

/-- A function of a value and its place, as a closure: over the cells of a field with the values v it answers f. -/
def Clos3 (g : Nat) (caps : Array Value) (X Y W H : Int) (v f : Nat → Nat) (w : World) : Prop :=
  ∀ (x y : Int) (i : Nat) (W' : World), X ≤ x → x < X + W → Y ≤ y → y < Y + H → (i : Int) = (y - Y) * W + (x - X) → Below w.heap.size w W' →
    Calls Try.prog g (#[.float .f32 (v i), .int .i64 x, .int .i64 y] ++ caps) W' fun e W'' => e = .returned (.float .f32 (f i)) ∧ Below W'.heap.size W' W''
theorem Clos3.stay {g : Nat} {caps : Array Value} {X Y W H : Int} {v f : Nat → Nat} {w w' : World} (h : Clos3 g caps X Y W H v f w) (hb : Below w.heap.size w w') : Clos3 g caps X Y W H v f w' :=
  fun x y i W' h1 h2 h3 h4 h5 hb' => h x y i W' h1 h2 h3 h4 h5 (hb.trans (hb'.mono hb.size))

/-- Such a function value in a box. -/
abbrev fn3Obj (g : Nat) (caps : Array Value) : Obj := .cells #[.func (.func g) #[] caps] 122

set_option maxHeartbeats 4000000 in
set_option maxRecDepth 100000 in
theorem remade1_any (X Y : Int) (W H n b cap : Nat) (v f : Nat → Nat) (g : Nat) (caps : Array Value) (p q : Nat) (w : World) (hcall : Enters g) (hcl : Clos3 g caps X Y W H v f w)
    (hp : w.heap[p]? = some (fldO X Y W H (.slice (some ⟨b, 0, none⟩) n cap))) (hq : w.heap[q]? = some (fn3Obj g caps)) (hc : FlAt w b 0 n v) (hn : n ≤ 65536)
    (hX1 : -16777216 ≤ X) (hX2 : X ≤ 16777216) (hY1 : -16777216 ≤ Y) (hY2 : Y ≤ 16777216) (hW1 : 1 ≤ W) (hW2 : W ≤ 512) (hH2 : H ≤ 512) (hnn : n = H * W) :
    Clos2 182 #[.pointer (some ⟨q, 0, none⟩), .pointer (some ⟨p, 0, none⟩)] X Y W H f w := by
  intro x y i w2 h1 h2 h3 h4 h5 hb
  have hi : i < n := num_lt hW1 h1 h2 h4 h5 hnn
  have CC := Lib.hid (fun W' (hB : Below w2.heap.size w2 W') => hcl x y i W' h1 h2 h3 h4 h5 (hb.trans (hB.mono hb.size)))
  have IX := Lib.hid (fun w => index_any X Y W H i x y w hX1 hX2 hY1 hY2 hW1 hW2 hH2 h1 h2 h3 h4 h5 (by omega))
  have P := blkStay hp hb
  have Q := blkStay hq hb
  have hcell : w2.cell? ⟨b, i, none⟩ = some (.float .f32 (v i)) := by
    have := flAt_congr hc (hb.block b (World.block_lt_of_cell? w _ (hc i hi))) i hi
    rwa [Nat.zero_add] at this
  have zb : b < w2.heap.size := World.block_lt_of_cell? w2 _ hcell
  have HC := Lib.hid hcell
  have HP := Lib.hid P
  have HQ := Lib.hid Q
  obtain ⟨cP, fP, zP⟩ := blkC P
  obtain ⟨cQ, fQ, zQ⟩ := blkC Q
  unfold Enters at hcall
  have hi2 : (i : Int) < (n : Int) := by omega
  have hi3 : (0 : Int) ≤ (i : Int) := by omega
  clear hp hq P Q hb h1 h2 h3 h4 h5 hX1 hX2 hY1 hY2 hW1 hW2 hH2 hnn hcl hc hi hn
  go_enter Try.func182, Try.ntmps182
  go_wp2
  go_region_held3 (fun w' => (∀ o, w'.cell? ⟨p, o, none⟩ = #[.int .i64 X, .int .i64 Y, .int .i64 W, .int .i64 H, .slice (some ⟨b, 0, none⟩) n cap][o]?) ∧ (∀ o, w'.cell? ⟨q, o, none⟩ = #[.func (.func g) #[] caps][o]?) ∧ w'.cell? ⟨b, i, none⟩ = some (.float .f32 (v i)) ∧ Below w2.heap.size w2 w') (first | exact ⟨(blkC (blkStay HP.out hb9)).1, (blkC (blkStay HQ.out hb9)).1, (Below.cell (p := ⟨b, i, none⟩) (w := w2) (B := w2.heap.size) hb9 zb).trans HC.out, hb9⟩ | exact ⟨(blkC (blkStay HP.out (by repeat (first | exact Below.refl _ _ | refine Below.alloc ?_ (by first | omega | (simp; done) | (simp; omega)) _ | refine Below.setCell ?_ (by first | omega | (simp; done) | (simp; omega)) _ | refine Below.drew ?_)))).1, (blkC (blkStay HQ.out (by repeat (first | exact Below.refl _ _ | refine Below.alloc ?_ (by first | omega | (simp; done) | (simp; omega)) _ | refine Below.setCell ?_ (by first | omega | (simp; done) | (simp; omega)) _ | refine Below.drew ?_)))).1, (Below.cell (p := ⟨b, i, none⟩) (w := w2) (B := w2.heap.size) (by repeat (first | exact Below.refl _ _ | refine Below.alloc ?_ (by first | omega | (simp; done) | (simp; omega)) _ | refine Below.setCell ?_ (by first | omega | (simp; done) | (simp; omega)) _ | refine Below.drew ?_)) zb).trans HC.out, (by repeat (first | exact Below.refl _ _ | refine Below.alloc ?_ (by first | omega | (simp; done) | (simp; omega)) _ | refine Below.setCell ?_ (by first | omega | (simp; done) | (simp; omega)) _ | refine Below.drew ?_))⟩) (first | (go_at_call 183; (with_reducible refine Calls.mono (IX.out _) ?_); rintro e w' ⟨rfl, rfl⟩) | (go_simp; (with_reducible refine Calls.mono (CC.out _ ?_) ?_); exact (by repeat (first | exact Below.refl _ _ | refine Below.alloc ?_ (by first | omega | (simp; done) | (simp; omega)) _ | refine Below.setCell ?_ (by first | omega | (simp; done) | (simp; omega)) _ | refine Below.drew ?_)); rintro e w' ⟨rfl, hb8⟩; have hb9 : Below w2.heap.size w2 w' := Below.trans (by repeat (first | exact Below.refl _ _ | refine Below.alloc ?_ (by first | omega | (simp; done) | (simp; omega)) _ | refine Below.setCell ?_ (by first | omega | (simp; done) | (simp; omega)) _ | refine Below.drew ?_)) (Below.mono hb8 (by first | exact Nat.le_refl _ | (simp; done) | (simp; omega))); clear hb8))
  rename_i hHeld
  go_wp2
  go_ret
  exact ⟨rfl, hHeld.2.2.2⟩

set_option maxHeartbeats 2000000 in
theorem remade_any (X Y : Int) (W H n b cap : Nat) (v f : Nat → Nat) (g : Nat) (caps : Array Value) (w : World) (hcall : Enters g) (hcl : Clos3 g caps X Y W H v f w) (h0 : checkR X Y W H = 0) (hnn : n = H * W) (hc : FlAt w b 0 n v) :
    Calls Try.prog 91 #[fldV X Y W H (.slice (some ⟨b, 0, none⟩) n cap), .func (.func g) #[] caps] w (MadePost w X Y W H n f) := by
  obtain ⟨b1, b2, b3, b4, b5, b6, b7, b8, b9⟩ := checkR_zero h0
  have hn2 : n ≤ 65536 := by
    have : ((W : Int) * (H : Int)) = (n : Int) := by rw [hnn, Nat.mul_comm]; simp
    omega
  have n1 : 1 ≤ n := by rw [hnn]; exact Nat.mul_pos (by omega) (by omega)
  have hlt : b < w.heap.size := World.block_lt_of_cell? w _ (hc 0 n1)
  have hB : Below w.heap.size w (((w.alloc (fldO X Y W H (.slice (some ⟨b, 0, none⟩) n cap))).alloc (fn3Obj g caps)).alloc (fldO 0 0 0 0 (.slice none 0 0))) := (by repeat (first | exact Below.refl _ _ | refine Below.alloc ?_ (by first | omega | (simp; done) | (simp; omega)) _ | refine Below.setCell ?_ (by first | omega | (simp; done) | (simp; omega)) _ | refine Below.drew ?_))
  have MK := Lib.hid (make_ok X Y W H n 182 #[.pointer (some ⟨w.heap.size + 1, 0, none⟩), .pointer (some ⟨w.heap.size, 0, none⟩)] f (((w.alloc (fldO X Y W H (.slice (some ⟨b, 0, none⟩) n cap))).alloc (fn3Obj g caps)).alloc (fldO 0 0 0 0 (.slice none 0 0))) enters_remade1
    (remade1_any X Y W H n b cap v f g caps w.heap.size (w.heap.size + 1) _ hcall (hcl.stay hB) (by ((simp only [heap_alloc_get, heap_size_alloc, if_true]) <;> ((repeat' split) <;> first | rfl | omega))) (by ((simp only [heap_alloc_get, heap_size_alloc, if_true]) <;> ((repeat' split) <;> first | rfl | omega))) (flAt_congr hc (hB.block b hlt)) hn2 (by omega) (by omega) (by omega) (by omega) (by omega) (by omega) (by omega) hnn) h0 hnn)
  clear hcl hcall hc h0 b1 b2 b3 b4 b5 b6 b7 b8 b9 hnn hn2 n1 hlt hB
  go_enter Try.func91, Try.ntmps91
  go_wp2_with fail
  refine MK.out.mono ?_
  intro e w4 hmade
  rcases hmade with ⟨hall, b', cap', rfl, hb', hlt', hrow, hbel⟩ | ⟨hall, rfl, hbel⟩
  · have hS := Lib.hid (blkStay (b := w.heap.size + 1 + 1) (o := fldO 0 0 0 0 (.slice none 0 0)) (by ((simp only [heap_alloc_get, heap_size_alloc, if_true]) <;> ((repeat' split) <;> first | rfl | omega))) hbel)
    have hB : Below w.heap.size w w4 := Below.trans (by repeat (first | exact Below.refl _ _ | refine Below.alloc ?_ (by first | omega | (simp; done) | (simp; omega)) _ | refine Below.setCell ?_ (by first | omega | (simp; done) | (simp; omega)) _ | refine Below.drew ?_)) (Below.mono hbel (by simp; omega))
    obtain ⟨cS, fS, zS⟩ := blkC hS.out
    have HB := Lib.hid hb'
    clear hb'
    go_wp2
    refine bodyPost_ret (v := .tuple #[fldV X Y W H (.slice (some ⟨b', 0, none⟩) n cap'), .int .i64 0]) (by simp [results, Try.results91, go_sem, cS]) rfl ?_
    have hb' := HB.out
    simp only [heap_size_alloc] at hb'
    exact .inl ⟨hall, b', cap', rfl, by omega, by rw [set5_size]; exact hlt', flAt_congr hrow (set5_heap w4 _ _ _ _ _ _ _ (by omega)), set5_below hB _ _ _ _ _ _ (by omega)⟩
  · have hS := Lib.hid (blkStay (b := w.heap.size + 1 + 1) (o := fldO 0 0 0 0 (.slice none 0 0)) (by ((simp only [heap_alloc_get, heap_size_alloc, if_true]) <;> ((repeat' split) <;> first | rfl | omega))) hbel)
    have hB : Below w.heap.size w w4 := Below.trans (by repeat (first | exact Below.refl _ _ | refine Below.alloc ?_ (by first | omega | (simp; done) | (simp; omega)) _ | refine Below.setCell ?_ (by first | omega | (simp; done) | (simp; omega)) _ | refine Below.drew ?_)) (Below.mono hbel (by simp; omega))
    obtain ⟨cS, fS, zS⟩ := blkC hS.out
    go_wp2
    refine bodyPost_ret (v := .tuple #[fldV 0 0 0 0 (.slice none 0 0), .int .i64 3]) (by simp [results, Try.results91, go_sem, cS]) rfl ?_
    exact .inr ⟨hall, rfl, set5_below hB _ _ _ _ _ _ (by omega)⟩
end Go.Proofs.Ytmbiohopcfglcaa

/- A list of folds; what its folds make of a cell, of both sides. -/
namespace Go.Proofs.Ytmbiohopcfglcaa
open Go.RowKit Fl
set_option linter.unusedVariables false

/-- The cells of a list of folds. -/
def FolsAt (w : World) (b off n : Nat) (A B P : Nat → Int) (h : Nat → Nat) : Prop :=
  ∀ i, i < n → w.cell? ⟨b, off + i * 4, none⟩ = some (.int .i64 (A i)) ∧ w.cell? ⟨b, off + i * 4 + 1, none⟩ = some (.int .i64 (B i)) ∧ w.cell? ⟨b, off + i * 4 + 2, none⟩ = some (.int .i64 (P i)) ∧ w.cell? ⟨b, off + i * 4 + 3, none⟩ = some (.float .f32 (h i))
/-- A list of n folds: empty, or known cell by cell. -/
def FolL (w : World) (a : Option Addr) (n : Nat) (A B P : Nat → Int) (h : Nat → Nat) : Prop := n = 0 ∨ ∃ b off, a = some ⟨b, off, none⟩ ∧ FolsAt w b off n A B P h

theorem FolsAt.stay {w w' : World} {b off n : Nat} {A B P : Nat → Int} {h : Nat → Nat} (L : FolsAt w b off n A B P h) (hb : Below w.heap.size w w') : FolsAt w' b off n A B P h := fun i hi => by
  obtain ⟨l0, l1, l2, l3⟩ := L i hi
  have z : b < w.heap.size := World.block_lt_of_cell? w _ l0
  exact ⟨(Below.cell (p := ⟨b, off + i * 4, none⟩) hb z).trans l0, (Below.cell (p := ⟨b, off + i * 4 + 1, none⟩) hb z).trans l1, (Below.cell (p := ⟨b, off + i * 4 + 2, none⟩) hb z).trans l2, (Below.cell (p := ⟨b, off + i * 4 + 3, none⟩) hb z).trans l3⟩
theorem FolL.stay {w w' : World} {a : Option Addr} {n : Nat} {A B P : Nat → Int} {h : Nat → Nat} (L : FolL w a n A B P h) (hb : Below w.heap.size w w') : FolL w' a n A B P h :=
  L.imp id fun ⟨b, off, e, l⟩ => ⟨b, off, e, l.stay hb⟩

/-- v, and the first n of f added in order. -/
def accW (v : Nat) (f : Nat → Nat) : Nat → Nat
  | 0 => v
  | j + 1 => addW (accW v f j) (f j)

theorem acc_bd {v : Nat} {f : Nat → Nat} (hv : Bd 20 v) : ∀ n, n ≤ 100 → (∀ i, i < n → Bd 20 (f i)) → Bd (20 + n) (accW v f n)
  | 0, _, _ => hv
  | n + 1, hn, hf => by
    have ih := acc_bd hv n (by omega) (fun i hi => hf i (by omega))
    have s : Same2 .add (20 + n + 1) (accW v f n) (f n) := add_same (k := 20 + n) (by omega) ih (bd_up (hf n (by omega)) (by omega))
    obtain ⟨r, r1, b⟩ := same_ex s
    show Bd (20 + (n + 1)) (addW (accW v f n) (f n))
    unfold addW; rw [r1]; exact b

theorem acc_step {v : Nat} {f : Nat → Nat} {n j : Nat} (hv : Bd 20 v) (hn : n ≤ 100) (hj : j < n) (hf : ∀ i, i < n → Bd 20 (f i)) : ∃ r, floatBits .add .f32 (accW v f j) (f j) = some r ∧ Same2 .add (20 + j + 1) (accW v f j) (f j) ∧ accW v f (j + 1) = r ∧ r < 4294967296 := by
  have ih := acc_bd hv j (by omega) (fun i hi => hf i (by omega))
  have s : Same2 .add (20 + j + 1) (accW v f j) (f j) := add_same (k := 20 + j) (by omega) ih (bd_up (hf j hj) (by omega))
  obtain ⟨r, r1, b⟩ := same_ex s
  exact ⟨r, r1, s, by show addW (accW v f j) (f j) = r; unfold addW; rw [r1]; rfl, add_lt r1⟩
theorem acc_lt {v : Nat} {f : Nat → Nat} {n : Nat} (hv : Bd 20 v) (lv : v < 4294967296) (hn : n ≤ 100) (hf : ∀ i, i < n → Bd 20 (f i)) : accW v f n < 4294967296 := by
  cases n with
  | zero => exact lv
  | succ j =>
    obtain ⟨r, _, _, e, l⟩ := acc_step (j := j) hv hn (by omega) hf
    rw [e]; exact l

/-- What the folds of a list lift at a place. -/
def folF (A B P : Nat → Int) (h : Nat → Nat) (x y : Int) (i : Nat) : Nat := lifW (folK (A i) (B i) (P i) x y) (P i) (h i)
theorem folF_bd {A B P : Nat → Int} {h : Nat → Nat} {x y : Int} {n : Nat} (K : ∀ i, i < n → FolOk (A i) (B i) (P i) (h i)) : ∀ i, i < n → Bd 20 (folF A B P h x y i) := fun i hi => by
  obtain ⟨k0, k1⟩ := folK_in (A := A i) (B := B i) (P := P i) (x := x) (y := y) (K i hi).p1
  obtain ⟨q, X2, t0, c, t1, p, q', r', e, r, L⟩ := lif_parts k0 k1 (K i hi).p2 (K i hi).hh
  unfold folF; rw [L.w]; exact L.bd

abbrev folsV (a : Option Addr) (n cap : Nat) : Value := .slice a n cap
abbrev folsO (a : Option Addr) (n cap : Nat) : Obj := .cells #[.slice a n cap] 61
abbrev liftO : Obj := .cells #[.func (.func 135) #[] #[]] 152

theorem enters_bentFold1 : Enters 199 := by intro args W; simp [callFunc, Try.func199, Try.f199]

set_option maxHeartbeats 2000000 in
set_option maxRecDepth 100000 in
theorem bentFold1_any (a : Option Addr) (n cap : Nat) (A B P : Nat → Int) (h : Nat → Nat) (v : Nat) (x y : Int) (p q : Nat) (w : World) (hp : w.heap[p]? = some (folsO a n cap)) (hq : w.heap[q]? = some liftO) (L : FolL w a n A B P h) (hn : n ≤ 100)
    (K : ∀ i, i < n → FolOk (A i) (B i) (P i) (h i)) (hv : hgtB v = true) (x1 : -8388608 ≤ x) (x2 : x ≤ 8388608) (y1 : -8388608 ≤ y) (y2 : y ≤ 8388608) :
    Calls Try.prog 199 #[.float .f32 v, .int .i64 x, .int .i64 y, .pointer (some ⟨p, 0, none⟩), .pointer (some ⟨q, 0, none⟩)] w fun e w' => e = .returned (.float .f32 (accW v (folF A B P h x y) n)) ∧ Below w.heap.size w w' := by
  have hsf := fun (w : World) (a : Addr) (m : Mode) (k : FloatKind) (b : Nat) => run_store_float (P := Try.prog) (w := w) (a := a) (m := m) k b
  have LI := Lib.hid (fun i (hi : i < n) w => lift_any (A i) (B i) (P i) (h i) x y w (K i hi) x1 x2 y1 y2)
  have ST := Lib.hid (fun j (hj : j < n) => acc_step (hgt_bd hv) hn hj (folF_bd (x := x) (y := y) K))
  have HL := Lib.hid L
  have HQ := Lib.hid hq
  obtain ⟨cP, fP, zP⟩ := blkC hp
  have zQ := (blkC hq).2.2
  obtain ⟨F, hF⟩ : ∃ F, folF A B P h x y = F := ⟨_, rfl⟩
  have FF := Lib.hid (show ∀ i, lifW (folK (A i) (B i) (P i) x y) (P i) (h i) = F i from fun i => by rw [← hF]; rfl)
  rw [hF] at ST ⊢
  clear hp hq L K hv hF x1 x2 y1 y2
  go_enter Try.func199, Try.ntmps199
  go_wp2
  go_loopw [0, 13] (fun u i wr => ∃ j : Nat, j ≤ n ∧ u = .float .f32 (accW v F j) ∧ i = .int .i64 j ∧ Below w.heap.size w wr) (fun _ i _ => n - (intOf i).toNat)
  case atStart => exact ⟨0, by omega, rfl, rfl, Below.refl _ _⟩
  case round =>
    obtain ⟨j, hj, rfl, rfl, hb⟩ := hrel
    by_cases c : j < n
    · have HB := Lib.hid hb
      rcases HL.out.stay hb with z | ⟨b, off, rfl, l⟩
      · omega
      obtain ⟨l0, l1, l2, l3⟩ := l j c
      obtain ⟨r, r1, _, er, _⟩ := ST.out j c
      have e1 := fun (W : World) => run_float_arith (P := Try.prog) W .add 22 .f32 (accW v F j) (F j) r r1
      have L1 := Lib.hid (fun w => LI.out j c w)
      rw [FF.out j] at L1
      have ER := Lib.hid er
      obtain ⟨cQ, fQ, zQ2⟩ := blkC (blkStay HQ.out hb)
      generalize accW v F j = u at *
      clear l er hb r1
      go_wp2_with (first | (go_at_call 135; refine (L1.out _).mono ?_; rintro e' w4 ⟨rfl, hb4⟩; have hB4 : Below wr.heap.size wr w4 := Below.trans (by repeat (first | exact Below.refl _ _ | refine Below.alloc ?_ (by first | omega | (simp; done) | (simp; omega)) _ | refine Below.setCell ?_ (by first | omega | (simp; done) | (simp; omega)) _ | refine Below.drew ?_)) (Below.mono hb4 (by simp)); have HB4 := Lib.hid (HB.out.trans (hB4.mono HB.out.size)); clear hb4 hB4))
      go_roundw
      case rel => exact ⟨j + 1, by omega, by rw [ER.out], by go_num, HB4.out⟩
      case measure => simp [intOf]; omega
    · have : j = n := by omega
      subst this
      go_wp2
      go_ret
      exact ⟨rfl, hb⟩
end Go.Proofs.Ytmbiohopcfglcaa

/- The error of a list: the first one of its items. -/
namespace Go.Proofs.Ytmbiohopcfglcaa
set_option linter.unusedVariables false

/-- er is the first error of n. -/
def LstE (n : Nat) (e : Nat → Int) (er : Int) : Prop := (er = 0 ∧ ∀ i, i < n → e i = 0) ∨ (er ≠ 0 ∧ ∃ j, j < n ∧ (∀ i, i < j → e i = 0) ∧ e j = er)
theorem lstE_ex (e : Nat → Int) : ∀ n, ∃ er, LstE n e er
  | 0 => ⟨0, .inl ⟨rfl, fun i hi => by omega⟩⟩
  | n + 1 => by
    obtain ⟨er, h⟩ := lstE_ex e n
    rcases h with ⟨rfl, h⟩ | ⟨h0, j, hj, hi, he⟩
    · by_cases c : e n = 0
      · exact ⟨0, .inl ⟨rfl, fun i hi => by
          rcases Nat.lt_or_ge i n with l | l
          · exact h i l
          · rw [show i = n by omega]; exact c⟩⟩
      · exact ⟨e n, .inr ⟨c, n, by omega, h, rfl⟩⟩
    · exact ⟨er, .inr ⟨h0, j, by omega, hi, he⟩⟩
theorem LstE.zero {n : Nat} {e : Nat → Int} {er : Int} (h : LstE n e er) (a : ∀ i, i < n → e i = 0) : er = 0 := by
  rcases h with ⟨rfl, _⟩ | ⟨h0, j, hj, _, he⟩
  · rfl
  · rw [← he]; exact a j hj
theorem LstE.at {n j : Nat} {e : Nat → Int} {er : Int} (h : LstE n e er) (a : ∀ i, i < j → e i = 0) (hj : j < n) (he : e j ≠ 0) : e j = er := by
  rcases h with ⟨rfl, h⟩ | ⟨h0, k, hk, hi, hek⟩
  · exact absurd (h j hj) he
  · rcases Nat.lt_trichotomy j k with c | c | c
    · exact absurd (hi j c) he
    · rw [c]; exact hek
    · rw [a k c] at hek; exact absurd hek.symm h0
theorem LstE.all {n : Nat} {e : Nat → Int} (h : LstE n e 0) : ∀ i, i < n → e i = 0 := by
  rcases h with ⟨_, h⟩ | ⟨h0, _⟩
  · exact h
  · exact absurd rfl h0

end Go.Proofs.Ytmbiohopcfglcaa

/- Contracts: square and Weight of the reference; Weight and Box of the program; the reference's box. -/
namespace Go.Proofs.Ytmbiohopcfglcaa
open Go.RowKit Fl
set_option linter.unusedVariables false

abbrev pnt (x y : Int) : Value := .agg #[.int .i64 x, .int .i64 y]

set_option maxHeartbeats 1000000 in
theorem square_any (x y X Y : Int) (w : World) (X1 : -4194304 ≤ X) (X2 : X ≤ 4194304) (Y1 : -4194304 ≤ Y) (Y2 : Y ≤ 4194304) (x1 : -4194304 ≤ x) (x2 : x ≤ 4194304) (y1 : -4194304 ≤ y) (y2 : y ≤ 4194304) :
    Calls Try.prog 100 #[pnt x y, pnt X Y] w fun e w' => e = .returned (.int .i64 (sqD x y X Y)) ∧ Below w.heap.size w w' := by
  obtain ⟨a0, a1⟩ := side_sq (d := x - X) (by omega) (by omega)
  obtain ⟨b0, b1⟩ := side_sq (d := y - Y) (by omega) (by omega)
  unfold sqD
  obtain ⟨A, hA⟩ : ∃ A, (x - X) * (x - X) = A := ⟨_, rfl⟩
  obtain ⟨B, hB⟩ : ∃ B, (y - Y) * (y - Y) = B := ⟨_, rfl⟩
  rw [hA] at a0 a1 ⊢
  rw [hB] at b0 b1 ⊢
  have u1 : wrap64 ((x - X) * (x - X)) = A := by rw [hA]; exact IntWalk.wrap64_in _ ⟨by omega, by omega⟩
  have u2 : wrap64 ((y - Y) * (y - Y)) = B := by rw [hB]; exact IntWalk.wrap64_in _ ⟨by omega, by omega⟩
  clear hA hB
  go_enter Try.func100, Try.ntmps100
  go_wp2
  go_ret
  exact ⟨rfl, (by repeat (first | exact Below.refl _ _ | refine Below.alloc ?_ (by first | omega | (simp; done) | (simp; omega)) _ | refine Below.setCell ?_ (by first | omega | (simp; done) | (simp; omega)) _ | refine Below.drew ?_))⟩

set_option maxHeartbeats 4000000 in
set_option maxRecDepth 100000 in
theorem rweight_any (k X Y R : Int) (h : Nat) (x y : Int) (w : World) (k1 : 1 ≤ k) (k3 : k ≤ 3) (X1 : -4194304 ≤ X) (X2 : X ≤ 4194304) (Y1 : -4194304 ≤ Y) (Y2 : Y ≤ 4194304) (r1 : 1 ≤ R) (r2 : R ≤ 256)
    (x1 : -4194304 ≤ x) (x2 : x ≤ 4194304) (y1 : -4194304 ≤ y) (y2 : y ≤ 4194304) :
    Calls Try.prog 25 #[bru k X Y R h, .int .i64 x, .int .i64 y] w fun e w' => e = .returned (.float .f32 (weiW k (sqD x y X Y) R)) ∧ Below w.heap.size w w' := by
  have SQ := Lib.hid (fun w => square_any x y X Y w X1 X2 Y1 Y2 x1 x2 y1 y2)
  obtain ⟨f0, f1⟩ := rad_sq r1 r2
  obtain ⟨N, hN⟩ : ∃ N, sqD x y X Y = N := ⟨_, rfl⟩
  have n0 : 0 ≤ N := by
    obtain ⟨a0, a1⟩ := side_sq (d := x - X) (by omega) (by omega)
    obtain ⟨b0, b1⟩ := side_sq (d := y - Y) (by omega) (by omega)
    rw [← hN]; unfold sqD; omega
  rw [hN] at SQ ⊢
  obtain ⟨F, hF⟩ : ∃ F, R * R = F := ⟨_, rfl⟩
  rw [hF] at f0 f1
  have wei : ∀ v, (if F ≤ N then 0 else if k = 2 then coneW N R else if k = 3 then mulW (bellT N F) (bellT N F) else 1065353216) = v → weiW k N R = v := fun v h => by unfold weiW; rw [hF]; exact h
  have u3 : wrap64 (R * R) = F := by rw [hF]; exact IntWalk.wrap64_in _ ⟨by omega, by omega⟩
  have u4 : IntKind.i64.wrap (R * R) = F := by rw [hF]; exact IntWalk.i64_in _ (by omega)
  have GB := Lib.hid (show (w.alloc (bruObj k X Y R h)).heap[w.heap.size]? = some (bruObj k X Y R h) from heap_alloc_new _ _)
  have zB : w.heap.size < (w.alloc (bruObj k X Y R h)).heap.size := by simp
  by_cases c : F ≤ N
  · rw [wei 0 (if_pos c)]
    clear wei hN hF n0
    go_enter Try.func25, Try.ntmps25
    go_wp2
    go_region_held3 (fun w' => (∀ o, w'.cell? ⟨w.heap.size, o, none⟩ = #[.int .i64 k, .int .i64 X, .int .i64 Y, .int .i64 R, .float .f32 h][o]?) ∧ Below (w.alloc (bruObj k X Y R h)).heap.size (w.alloc (bruObj k X Y R h)) w') (first | exact ⟨(blkC (blkStay GB.out hb9)).1, hb9⟩ | exact ⟨(blkC (blkStay GB.out (by repeat (first | exact Below.refl _ _ | refine Below.alloc ?_ (by first | omega | (simp; done) | (simp; omega)) _ | refine Below.setCell ?_ (by first | omega | (simp; done) | (simp; omega)) _ | refine Below.drew ?_)))).1, (by repeat (first | exact Below.refl _ _ | refine Below.alloc ?_ (by first | omega | (simp; done) | (simp; omega)) _ | refine Below.setCell ?_ (by first | omega | (simp; done) | (simp; omega)) _ | refine Below.drew ?_))⟩) (first | (go_at_call 100; (with_reducible refine Calls.mono (SQ.out _) ?_); rintro e w' ⟨rfl, hb8⟩; have hb9 : Below (w.alloc (bruObj k X Y R h)).heap.size (w.alloc (bruObj k X Y R h)) w' := Below.trans (by repeat (first | exact Below.refl _ _ | refine Below.alloc ?_ (by first | omega | (simp; done) | (simp; omega)) _ | refine Below.setCell ?_ (by first | omega | (simp; done) | (simp; omega)) _ | refine Below.drew ?_)) (Below.mono hb8 (by first | exact Nat.le_refl _ | (simp; done) | (simp; omega))); clear hb8))
    rename_i wh hHeld
    go_wp2
    go_ret
    exact ⟨rfl, Below.trans (by repeat (first | exact Below.refl _ _ | refine Below.alloc ?_ (by first | omega | (simp; done) | (simp; omega)) _ | refine Below.setCell ?_ (by first | omega | (simp; done) | (simp; omega)) _ | refine Below.drew ?_)) (hHeld.2.mono (by simp))⟩
  · rcases (show k = 1 ∨ k = 2 ∨ k = 3 by omega) with rfl | rfl | rfl
    · rw [wei 1065353216 (by rw [if_neg c, if_neg (by decide), if_neg (by decide)])]
      clear wei hN hF n0
      go_enter Try.func25, Try.ntmps25
      go_wp2
      go_region_held3 (fun w' => (∀ o, w'.cell? ⟨w.heap.size, o, none⟩ = #[.int .i64 1, .int .i64 X, .int .i64 Y, .int .i64 R, .float .f32 h][o]?) ∧ Below (w.alloc (bruObj 1 X Y R h)).heap.size (w.alloc (bruObj 1 X Y R h)) w') (first | exact ⟨(blkC (blkStay GB.out hb9)).1, hb9⟩ | exact ⟨(blkC (blkStay GB.out (by repeat (first | exact Below.refl _ _ | refine Below.alloc ?_ (by first | omega | (simp; done) | (simp; omega)) _ | refine Below.setCell ?_ (by first | omega | (simp; done) | (simp; omega)) _ | refine Below.drew ?_)))).1, (by repeat (first | exact Below.refl _ _ | refine Below.alloc ?_ (by first | omega | (simp; done) | (simp; omega)) _ | refine Below.setCell ?_ (by first | omega | (simp; done) | (simp; omega)) _ | refine Below.drew ?_))⟩) (first | (go_at_call 100; (with_reducible refine Calls.mono (SQ.out _) ?_); rintro e w' ⟨rfl, hb8⟩; have hb9 : Below (w.alloc (bruObj 1 X Y R h)).heap.size (w.alloc (bruObj 1 X Y R h)) w' := Below.trans (by repeat (first | exact Below.refl _ _ | refine Below.alloc ?_ (by first | omega | (simp; done) | (simp; omega)) _ | refine Below.setCell ?_ (by first | omega | (simp; done) | (simp; omega)) _ | refine Below.drew ?_)) (Below.mono hb8 (by first | exact Nat.le_refl _ | (simp; done) | (simp; omega))); clear hb8))
      rename_i wh hHeld
      go_wp2
      go_ret
      exact ⟨rfl, Below.trans (by repeat (first | exact Below.refl _ _ | refine Below.alloc ?_ (by first | omega | (simp; done) | (simp; omega)) _ | refine Below.setCell ?_ (by first | omega | (simp; done) | (simp; omega)) _ | refine Below.drew ?_)) (hHeld.2.mono (by simp))⟩
    · obtain ⟨XX, Z, cc, q, r, C⟩ := cone_parts n0 r1 r2 (by rw [hF]; omega)
      rw [wei r (by rw [if_neg c, if_pos rfl]; exact C.w)]
      have RT := Lib.hid (fun w => refRoot_any C.rt w)
      have DV := Lib.hid (fun w => refDiv_any 0 _ _ q C.q2 C.q1 w)
      have SB := Lib.hid (fun w => refSub_any 1 1065353216 q r C.r2 C.r1 w)
      clear C wei hN hF n0
      generalize rootW (floatOfInt .f32 N) = rt at *
      go_enter Try.func25, Try.ntmps25
      go_wp2
      go_region_held3 (fun w' => (∀ o, w'.cell? ⟨w.heap.size, o, none⟩ = #[.int .i64 2, .int .i64 X, .int .i64 Y, .int .i64 R, .float .f32 h][o]?) ∧ Below (w.alloc (bruObj 2 X Y R h)).heap.size (w.alloc (bruObj 2 X Y R h)) w') (first | exact ⟨(blkC (blkStay GB.out hb9)).1, hb9⟩ | exact ⟨(blkC (blkStay GB.out (by repeat (first | exact Below.refl _ _ | refine Below.alloc ?_ (by first | omega | (simp; done) | (simp; omega)) _ | refine Below.setCell ?_ (by first | omega | (simp; done) | (simp; omega)) _ | refine Below.drew ?_)))).1, (by repeat (first | exact Below.refl _ _ | refine Below.alloc ?_ (by first | omega | (simp; done) | (simp; omega)) _ | refine Below.setCell ?_ (by first | omega | (simp; done) | (simp; omega)) _ | refine Below.drew ?_))⟩) (first | (go_at_call 100; (with_reducible refine Calls.mono (SQ.out _) ?_); rintro e w' ⟨rfl, hb8⟩; have hb9 : Below (w.alloc (bruObj 2 X Y R h)).heap.size (w.alloc (bruObj 2 X Y R h)) w' := Below.trans (by repeat (first | exact Below.refl _ _ | refine Below.alloc ?_ (by first | omega | (simp; done) | (simp; omega)) _ | refine Below.setCell ?_ (by first | omega | (simp; done) | (simp; omega)) _ | refine Below.drew ?_)) (Below.mono hb8 (by first | exact Nat.le_refl _ | (simp; done) | (simp; omega))); clear hb8))
      rename_i wh hHeld
      obtain ⟨cB, hbh⟩ := hHeld
      go_wp2
      go_quiet (first | (go_at_call 104; exact Calls.quiet_of_same ((refConv_any _ _).mono fun _ _ h => ⟨h.1, h.2.symm⟩)) | (go_at_call 103; exact Calls.quiet_of_same ((RT.out _).mono fun _ _ h => ⟨h.1, h.2.symm⟩)) | (go_at_call 102; exact Calls.quiet_of_same ((DV.out _).mono fun _ _ h => ⟨h.1, h.2.symm⟩)) | (go_at_call 101; exact Calls.quiet_of_same ((SB.out _).mono fun _ _ h => ⟨h.1, h.2.symm⟩)))
      go_wp2
      go_ret
      exact ⟨rfl, Below.trans (Below.trans (show Below w.heap.size w _ from (by repeat (first | exact Below.refl _ _ | refine Below.alloc ?_ (by first | omega | (simp; done) | (simp; omega)) _ | refine Below.setCell ?_ (by first | omega | (simp; done) | (simp; omega)) _ | refine Below.drew ?_))) (hbh.mono (by simp))) ((below_drewN _ _).mono (by have := hbh.size; simp at this; omega))⟩
    · obtain ⟨q, t, r, C⟩ := bell_parts n0 f1 (by omega)
      rw [wei r (by rw [if_neg c, if_neg (by decide), if_pos rfl]; exact C.w)]
      have DV := Lib.hid (fun w => refDiv_any 0 _ _ q C.q2 C.q1 w)
      have SB := Lib.hid (fun w => refSub_any 1 1065353216 q t C.t2 C.t1 w)
      have ML := Lib.hid (fun w => refMul_any 0 t t r C.r2 C.r1 w)
      clear C wei hN hF n0
      go_enter Try.func25, Try.ntmps25
      go_wp2
      go_region_held3 (fun w' => (∀ o, w'.cell? ⟨w.heap.size, o, none⟩ = #[.int .i64 3, .int .i64 X, .int .i64 Y, .int .i64 R, .float .f32 h][o]?) ∧ Below (w.alloc (bruObj 3 X Y R h)).heap.size (w.alloc (bruObj 3 X Y R h)) w') (first | exact ⟨(blkC (blkStay GB.out hb9)).1, hb9⟩ | exact ⟨(blkC (blkStay GB.out (by repeat (first | exact Below.refl _ _ | refine Below.alloc ?_ (by first | omega | (simp; done) | (simp; omega)) _ | refine Below.setCell ?_ (by first | omega | (simp; done) | (simp; omega)) _ | refine Below.drew ?_)))).1, (by repeat (first | exact Below.refl _ _ | refine Below.alloc ?_ (by first | omega | (simp; done) | (simp; omega)) _ | refine Below.setCell ?_ (by first | omega | (simp; done) | (simp; omega)) _ | refine Below.drew ?_))⟩) (first | (go_at_call 100; (with_reducible refine Calls.mono (SQ.out _) ?_); rintro e w' ⟨rfl, hb8⟩; have hb9 : Below (w.alloc (bruObj 3 X Y R h)).heap.size (w.alloc (bruObj 3 X Y R h)) w' := Below.trans (by repeat (first | exact Below.refl _ _ | refine Below.alloc ?_ (by first | omega | (simp; done) | (simp; omega)) _ | refine Below.setCell ?_ (by first | omega | (simp; done) | (simp; omega)) _ | refine Below.drew ?_)) (Below.mono hb8 (by first | exact Nat.le_refl _ | (simp; done) | (simp; omega))); clear hb8))
      rename_i wh hHeld
      obtain ⟨cB, hbh⟩ := hHeld
      go_wp2_with (first | (go_at_call 104; refine (refConv_any _ _).mono ?_; rintro e w' ⟨rfl, rfl⟩) | (go_at_call 102; refine (DV.out _).mono ?_; rintro e w' ⟨rfl, rfl⟩) | (go_at_call 101; refine (SB.out _).mono ?_; rintro e w' ⟨rfl, rfl⟩) | (go_at_call 97; refine (ML.out _).mono ?_; rintro e w' ⟨rfl, rfl⟩))
      go_ret
      exact ⟨rfl, Below.trans (by repeat (first | exact Below.refl _ _ | refine Below.alloc ?_ (by first | omega | (simp; done) | (simp; omega)) _ | refine Below.setCell ?_ (by first | omega | (simp; done) | (simp; omega)) _ | refine Below.drew ?_)) (hbh.mono (by simp))⟩
end Go.Proofs.Ytmbiohopcfglcaa

/- Contracts: Weight and Box of the program; the reference's box. -/
namespace Go.Proofs.Ytmbiohopcfglcaa
open Go.RowKit Fl
set_option linter.unusedVariables false

theorem plc_ok {x y : Int} (h : plcE x y = 0) : -4194304 ≤ x ∧ x ≤ 4194304 ∧ -4194304 ≤ y ∧ y ≤ 4194304 := by
  unfold plcE at h
  split at h
  · rename_i c
    obtain ⟨a, b⟩ := c
    have := withinB_iff.1 a
    have := withinB_iff.1 b
    omega
  · cases h

structure BruOk (k X Y R : Int) (h : Nat) : Prop where
  k1 : 1 ≤ k
  k3 : k ≤ 3
  X1 : -4194304 ≤ X
  X2 : X ≤ 4194304
  Y1 : -4194304 ≤ Y
  Y2 : Y ≤ 4194304
  r1 : 1 ≤ R
  r2 : R ≤ 256
  hg : hgtB h = true
theorem bru_ok {k X Y R : Int} {h : Nat} (e : bruE k X Y R h = 0) : BruOk k X Y R h := by
  unfold bruE at e
  split at e
  · cases e
  · rename_i c1
    split at e
    · rename_i c2; exact absurd e c2
    · rename_i c2
      split at e
      · cases e
      · rename_i c3
        have k := withinB_iff.1 (by simpa using c1)
        have r := withinB_iff.1 (by simpa using c3)
        obtain ⟨p1, p2, p3, p4⟩ := plc_ok (x := X) (y := Y) (by simpa using c2)
        exact ⟨k.1, k.2, p1, p2, p3, p4, r.1, r.2, by have := allB_iff.1 (fldE_zero.1 e) 0 (by omega); exact this⟩

/-- What Weight answers. -/
def weiE (k X Y R : Int) (h : Nat) (x y : Int) : Int := if bruE k X Y R h = 0 then plcE x y else bruE k X Y R h
def weiV (k X Y R : Int) (h : Nat) (x y : Int) : Nat := if weiE k X Y R h x y = 0 then weiW k (sqD x y X Y) R else 0

set_option maxHeartbeats 1000000 in
theorem weightX_any (k X Y R : Int) (h : Nat) (x y : Int) (w : World) :
    Calls Try.prog 17 #[bru k X Y R h, .int .i64 x, .int .i64 y] w fun e w' => e = .returned (.tuple #[.float .f32 (weiV k X Y R h x y), .int .i64 (weiE k X Y R h x y)]) ∧ Below w.heap.size w w' := by
  have CB := Lib.hid (fun w => checkBrush_any k X Y R h w)
  have CP := Lib.hid (fun w => checkPlace_any x y w)
  unfold weiV weiE
  by_cases c : bruE k X Y R h = 0
  · have K := bru_ok c
    rw [if_pos c]
    rw [c] at CB
    rcases plcE_cases x y with d | d
    · obtain ⟨p1, p2, p3, p4⟩ := plc_ok d
      rw [d] at CP ⊢
      rw [if_pos rfl]
      have WT := Lib.hid (fun w => weight_any k X Y R h x y w K.k1 K.k3 K.X1 K.X2 K.Y1 K.Y2 K.r1 K.r2 p1 p2 p3 p4)
      generalize weiW k (sqD x y X Y) R = r at *
      clear K c d p1 p2 p3 p4
      go_enter Try.func17, Try.ntmps17
      go_wp2_with (first | (go_at_call 16; refine (CB.out _).mono ?_; rintro e w2 ⟨rfl, hb2⟩; have HB2 := Lib.hid (blkStay (b := w.heap.size) (o := bruObj k X Y R h) (by ((simp only [heap_alloc_get, if_true]) <;> ((repeat' split) <;> first | rfl | omega))) hb2); have hB2 : Below w.heap.size w w2 := Below.trans (by repeat (first | exact Below.refl _ _ | refine Below.alloc ?_ (by first | omega | (simp; done) | (simp; omega)) _ | refine Below.setCell ?_ (by first | omega | (simp; done) | (simp; omega)) _ | refine Below.drew ?_)) (Below.mono hb2 (by first | omega | (simp; done) | (simp; omega))); obtain ⟨cB, fB, zB⟩ := blkC HB2.out; clear hb2) | (go_at_call 86; refine (CP.out _).mono ?_; rintro e w' ⟨rfl, rfl⟩) | (go_at_call 89; refine (WT.out _).mono ?_; rintro e w3 ⟨rfl, hb3⟩; have hB3 := hB2.trans (hb3.mono hB2.size); clear hb3))
      go_ret2
      exact ⟨rfl, hB3⟩
    · rw [d] at CP ⊢
      rw [if_neg (by decide)]
      clear K c d
      go_enter Try.func17, Try.ntmps17
      go_wp2_with (first | (go_at_call 16; refine (CB.out _).mono ?_; rintro e w2 ⟨rfl, hb2⟩; have HB2 := Lib.hid (blkStay (b := w.heap.size) (o := bruObj k X Y R h) (by ((simp only [heap_alloc_get, if_true]) <;> ((repeat' split) <;> first | rfl | omega))) hb2); have hB2 : Below w.heap.size w w2 := Below.trans (by repeat (first | exact Below.refl _ _ | refine Below.alloc ?_ (by first | omega | (simp; done) | (simp; omega)) _ | refine Below.setCell ?_ (by first | omega | (simp; done) | (simp; omega)) _ | refine Below.drew ?_)) (Below.mono hb2 (by first | omega | (simp; done) | (simp; omega))); obtain ⟨cB, fB, zB⟩ := blkC HB2.out; clear hb2) | (go_at_call 86; refine (CP.out _).mono ?_; rintro e w' ⟨rfl, rfl⟩))
      go_ret2
      exact ⟨rfl, hB2⟩
  · rw [if_neg c, if_neg c]
    have hzb : (bruE k X Y R h != 0) = true := by simp [c]
    generalize bruE k X Y R h = er at *
    clear c
    go_enter Try.func17, Try.ntmps17
    go_wp2_with (first | (go_at_call 16; refine (CB.out _).mono ?_; rintro e w2 ⟨rfl, hb2⟩; have HB2 := Lib.hid (blkStay (b := w.heap.size) (o := bruObj k X Y R h) (by ((simp only [heap_alloc_get, if_true]) <;> ((repeat' split) <;> first | rfl | omega))) hb2); have hB2 : Below w.heap.size w w2 := Below.trans (by repeat (first | exact Below.refl _ _ | refine Below.alloc ?_ (by first | omega | (simp; done) | (simp; omega)) _ | refine Below.setCell ?_ (by first | omega | (simp; done) | (simp; omega)) _ | refine Below.drew ?_)) (Below.mono hb2 (by first | omega | (simp; done) | (simp; omega))); obtain ⟨cB, fB, zB⟩ := blkC HB2.out; clear hb2))
    go_ret2
    exact ⟨rfl, hB2⟩

/-- The box of a brush; of a wrong one nothing. -/
def boxR (k X Y R : Int) (h : Nat) : Value := if bruE k X Y R h = 0 then reg (X - R + 1) (Y - R + 1) (2 * R - 1) (2 * R - 1) else reg 0 0 0 0

set_option maxHeartbeats 1000000 in
theorem box_any (k X Y R : Int) (h : Nat) (w : World) :
    Calls Try.prog 18 #[bru k X Y R h] w fun e w' => e = .returned (.tuple #[boxR k X Y R h, .int .i64 (bruE k X Y R h)]) ∧ Below w.heap.size w w' := by
  have CB := Lib.hid (fun w => checkBrush_any k X Y R h w)
  unfold boxR
  by_cases c : bruE k X Y R h = 0
  · obtain ⟨k1, k3, X1, X2, Y1, Y2, r1, r2, _⟩ := bru_ok c
    rw [if_pos c]
    rw [c] at CB ⊢
    clear c
    go_enter Try.func18, Try.ntmps18
    go_wp2_with (first | (go_at_call 16; refine (CB.out _).mono ?_; rintro e w2 ⟨rfl, hb2⟩; have HB2 := Lib.hid (blkStay (b := w.heap.size) (o := bruObj k X Y R h) (by ((simp only [heap_alloc_get, heap_size_alloc, if_true]) <;> ((repeat' split) <;> first | rfl | omega))) hb2); have HS2 := Lib.hid (blkStay (b := w.heap.size + 1) (o := regObj 0 0 0 0) (by ((simp only [heap_alloc_get, heap_size_alloc, if_true]) <;> ((repeat' split) <;> first | rfl | omega))) hb2); have hB2 : Below w.heap.size w w2 := Below.trans (by repeat (first | exact Below.refl _ _ | refine Below.alloc ?_ (by first | omega | (simp; done) | (simp; omega)) _ | refine Below.setCell ?_ (by first | omega | (simp; done) | (simp; omega)) _ | refine Below.drew ?_)) (Below.mono hb2 (by first | omega | (simp; done) | (simp; omega))); obtain ⟨cB, fB, zB⟩ := blkC HB2.out; obtain ⟨cS, fS, zS⟩ := blkC HS2.out; clear hb2))
    refine bodyPost_ret (v := .tuple #[reg (X - R + 1) (Y - R + 1) (2 * R - 1) (2 * R - 1), .int .i64 0]) (by simp [results, Try.results18, go_sem, cS]) rfl ?_
    exact ⟨rfl, ((((hB2.setCell (by simp) _).setCell (by simp) _).setCell (by simp) _).setCell (by simp) _)⟩
  · rw [if_neg c]
    have hzb : (bruE k X Y R h != 0) = true := by simp [c]
    generalize bruE k X Y R h = er at *
    clear c
    go_enter Try.func18, Try.ntmps18
    go_wp2_with (first | (go_at_call 16; refine (CB.out _).mono ?_; rintro e w2 ⟨rfl, hb2⟩; have HS2 := Lib.hid (blkStay (b := w.heap.size + 1) (o := regObj 0 0 0 0) (by ((simp only [heap_alloc_get, heap_size_alloc, if_true]) <;> ((repeat' split) <;> first | rfl | omega))) hb2); have hB2 : Below w.heap.size w w2 := Below.trans (by repeat (first | exact Below.refl _ _ | refine Below.alloc ?_ (by first | omega | (simp; done) | (simp; omega)) _ | refine Below.setCell ?_ (by first | omega | (simp; done) | (simp; omega)) _ | refine Below.drew ?_)) (Below.mono hb2 (by first | omega | (simp; done) | (simp; omega))); obtain ⟨cS, fS, zS⟩ := blkC HS2.out; clear hb2))
    refine bodyPost_ret (v := .tuple #[reg 0 0 0 0, .int .i64 er]) (by simp [results, Try.results18, go_sem, cS]) rfl ?_
    exact ⟨rfl, ((((hB2.setCell (by simp) _).setCell (by simp) _).setCell (by simp) _).setCell (by simp) _)⟩

set_option maxHeartbeats 1000000 in
theorem brushBox_any (k X Y R : Int) (h : Nat) (w : World) (K : BruOk k X Y R h) :
    Calls Try.prog 26 #[bru k X Y R h] w fun e w' => e = .returned (reg (X - R + 1) (Y - R + 1) (2 * R - 1) (2 * R - 1)) ∧ Below w.heap.size w w' := by
  obtain ⟨k1, k3, X1, X2, Y1, Y2, r1, r2, _⟩ := K
  go_enter Try.func26, Try.ntmps26
  go_wp2
  refine bodyPost_ret (v := reg (X - R + 1) (Y - R + 1) (2 * R - 1) (2 * R - 1)) (by simp [results, Try.results26, go_sem]) rfl ?_
  exact ⟨rfl, (by repeat (first | exact Below.refl _ _ | refine Below.alloc ?_ (by first | omega | (simp; done) | (simp; omega)) _ | refine Below.setCell ?_ (by first | omega | (simp; done) | (simp; omega)) _ | refine Below.drew ?_))⟩
end Go.Proofs.Ytmbiohopcfglcaa

/- Stamp of both sides, of a right field. -/
namespace Go.Proofs.Ytmbiohopcfglcaa
open Go.RowKit Fl
set_option linter.unusedVariables false

theorem enters_Stamp1 : Enters 92 := by intro args W; simp [callFunc, Try.func92, Try.f92]
theorem enters_rStamp1 : Enters 94 := by intro args W; simp [callFunc, Try.func94, Try.f94]

/-- Stamp of one value. -/
def staW (v h q : Nat) : Nat := addW v (mulW h q)
theorem sta_parts {v h q : Nat} {d : Int} (hv : hgtB v = true) (hh : hgtB h = true) (hq : vS q = some d) (d0 : 0 ≤ d) (d1 : d ≤ (one : Int)) :
    ∃ m r, floatBits .mul .f32 h q = some m ∧ Same2 .mul 20 h q ∧ floatBits .add .f32 v m = some r ∧ Same2 .add 21 v m ∧ staW v h q = r ∧ r < 4294967296 := by
  have s1 : Same2 .mul (20 + 0) h q := mul_same (by omega) (hgt_bd hh) (bd_unit hq (by omega) d1)
  obtain ⟨m, e1, b1⟩ := same_ex s1
  have s2 : Same2 .add 21 v m := add_same (k := 20) (by omega) (hgt_bd hv) b1
  obtain ⟨r, e2, _⟩ := same_ex s2
  exact ⟨m, r, e1, s1, e2, s2, by unfold staW mulW addW; rw [e1]; show (floatBits .add .f32 v m).getD 0 = r; rw [e2]; rfl, add_lt e2⟩

set_option maxHeartbeats 4000000 in
set_option maxRecDepth 100000 in
theorem stamp1_any (k X Y R : Int) (h v : Nat) (x y : Int) (p : Nat) (w : World) (kB : w.heap[p]? = some (bruObj k X Y R h)) (K : BruOk k X Y R h) (hv : hgtB v = true) (x1 : -4194304 ≤ x) (x2 : x ≤ 4194304) (y1 : -4194304 ≤ y) (y2 : y ≤ 4194304) :
    Calls Try.prog 92 #[.float .f32 v, .int .i64 x, .int .i64 y, .pointer (some ⟨p, 0, none⟩)] w fun e w' => e = .returned (.float .f32 (staW v h (weiW k (sqD x y X Y) R))) ∧ Below w.heap.size w w' := by
  have n0 : 0 ≤ sqD x y X Y := by
    obtain ⟨a0, a1⟩ := side_sq (d := x - X) (by have := K.X1; have := K.X2; omega) (by have := K.X1; have := K.X2; omega)
    obtain ⟨b0, b1⟩ := side_sq (d := y - Y) (by have := K.Y1; have := K.Y2; omega) (by have := K.Y1; have := K.Y2; omega)
    unfold sqD; omega
  obtain ⟨d, hd, d0, d1⟩ := wei_in (k := k) n0 K.r1 K.r2
  obtain ⟨m, r, e1, _, e2, _, e3, _⟩ := sta_parts hv K.hg hd d0 d1
  rw [e3]
  have WT := Lib.hid (fun w => weight_any k X Y R h x y w K.k1 K.k3 K.X1 K.X2 K.Y1 K.Y2 K.r1 K.r2 x1 x2 y1 y2)
  have a1 := fun (W : World) => run_float_arith (P := Try.prog) W .mul 22 .f32 h _ m e1
  have a2 := fun (W : World) => run_float_arith (P := Try.prog) W .add 22 .f32 v m r e2
  generalize weiW k (sqD x y X Y) R = q at *
  have GB := Lib.hid kB
  obtain ⟨cB, fB, zB⟩ := blkC kB
  clear K hv x1 x2 y1 y2 n0 hd d0 d1 e1 e2 e3 kB
  go_enter Try.func92, Try.ntmps92
  go_wp2
  go_region_held3 (fun w' => (∀ o, w'.cell? ⟨p, o, none⟩ = #[.int .i64 k, .int .i64 X, .int .i64 Y, .int .i64 R, .float .f32 h][o]?) ∧ Below w.heap.size w w') (first | exact ⟨(blkC (blkStay GB.out hb9)).1, hb9⟩ | exact ⟨(blkC (blkStay GB.out (by repeat (first | exact Below.refl _ _ | refine Below.alloc ?_ (by first | omega | (simp; done) | (simp; omega)) _ | refine Below.setCell ?_ (by first | omega | (simp; done) | (simp; omega)) _ | refine Below.drew ?_)))).1, (by repeat (first | exact Below.refl _ _ | refine Below.alloc ?_ (by first | omega | (simp; done) | (simp; omega)) _ | refine Below.setCell ?_ (by first | omega | (simp; done) | (simp; omega)) _ | refine Below.drew ?_))⟩) (first | (go_at_call 89; (with_reducible refine Calls.mono (WT.out _) ?_); rintro e w' ⟨rfl, hb8⟩; have hb9 : Below w.heap.size w w' := Below.trans (by repeat (first | exact Below.refl _ _ | refine Below.alloc ?_ (by first | omega | (simp; done) | (simp; omega)) _ | refine Below.setCell ?_ (by first | omega | (simp; done) | (simp; omega)) _ | refine Below.drew ?_)) (Below.mono hb8 (by first | exact Nat.le_refl _ | (simp; done) | (simp; omega))); clear hb8))
  rename_i wh hHeld
  go_wp2
  go_ret
  exact ⟨rfl, hHeld.2⟩

/-- What Stamp makes of the cell number i of a region that begins at (X', Y') and is W' wide. -/
def staF (v : Nat → Nat) (k X Y R : Int) (h : Nat) (X' Y' : Int) (W' : Nat) (i : Nat) : Nat := staW (v i) h (weiW k (sqD (X' + ((i % W' : Nat) : Int)) (Y' + ((i / W' : Nat) : Int)) X Y) R)

set_option maxHeartbeats 2000000 in
theorem stamp_any (X Y : Int) (W H n b cap : Nat) (v : Nat → Nat) (k X' Y' R : Int) (h : Nat) (w : World) (h0 : checkR X Y W H = 0) (hn : n = W * H) (hc : FlAt w b 0 n v) (hh : allB n (fun i => hgtB (v i)) = true) :
    Calls Try.prog 20 #[fldV X Y W H (.slice (some ⟨b, 0, none⟩) n cap), bru k X' Y' R h] w (ScPost w X Y W H n (staF v k X' Y' R h X Y W) (bruE k X' Y' R h)) := by
  obtain ⟨b1, b2, b3, b4, b5, b6, b7, b8, b9⟩ := checkR_zero h0
  have hnn : n = H * W := by rw [hn]; exact Nat.mul_comm _ _
  have h1 : 1 ≤ n := by rw [hn]; exact Nat.mul_pos (by omega) (by omega)
  have hlt : b < w.heap.size := World.block_lt_of_cell? w _ (hc 0 h1)
  have CK := Lib.hid (fun W' (hb : Below w.heap.size w W') => check_ok X Y W H n b cap v W' h0 hn (flAt_congr hc (hb.block _ hlt)) hh)
  have CB := Lib.hid (fun w => checkBrush_any k X' Y' R h w)
  by_cases hz : bruE k X' Y' R h = 0
  · have K := bru_ok hz
    rw [hz] at CB ⊢
    have HC := Lib.hid hc
    have RM := Lib.hid (fun W' p (k1 : W'.heap[p + 1]? = some (bruObj k X' Y' R h)) (hc' : FlAt W' b 0 n v) =>
      remade_any X Y W H n b cap v (staF v k X' Y' R h X Y W) 92 #[.pointer (some ⟨p + 1, 0, none⟩)] W' enters_Stamp1
        (fun x y i W'' h1 h2 h3 h4 h5 hb => by
          obtain ⟨ex, ey⟩ := place_of (show 1 ≤ W by omega) h1 h2 h3 h5
          unfold staF; rw [ex, ey]
          exact stamp1_any k X' Y' R h (v i) x y (p + 1) W'' (blkStay k1 hb) K (allB_iff.1 hh i (num_lt (by omega) h1 h2 h4 h5 hnn)) (by omega) (by omega) (by omega) (by omega)) h0 hnn hc')
    clear hc hn h0 hh hz b1 b2 b3 b4 b5 b6 b7 b8 b9 hnn K
    go_enter Try.func20, Try.ntmps20
    go_wp2_with (first | (go_at_call 90; refine (CK.out _ (by repeat (first | exact Below.refl _ _ | refine Below.alloc ?_ (by first | omega | (simp; done) | (simp; omega)) _ | refine Below.setCell ?_ (by first | omega | (simp; done) | (simp; omega)) _ | refine Below.drew ?_))).mono ?_; rintro e w2 ⟨rfl, hb2⟩; have HF2 := Lib.hid (blkStay (b := w.heap.size) (o := fldO X Y W H (.slice (some ⟨b, 0, none⟩) n cap)) (by ((simp only [heap_alloc_get, heap_size_alloc, if_true]) <;> ((repeat' split) <;> first | rfl | omega))) hb2); have HL2 := Lib.hid (blkStay (b := w.heap.size + 1) (o := bruObj k X' Y' R h) (by ((simp only [heap_alloc_get, heap_size_alloc, if_true]) <;> ((repeat' split) <;> first | rfl | omega))) hb2); have HS2 := Lib.hid (blkStay (b := w.heap.size + 1 + 1) (o := fldO 0 0 0 0 (.slice none 0 0)) (by ((simp only [heap_alloc_get, heap_size_alloc, if_true]) <;> ((repeat' split) <;> first | rfl | omega))) hb2); have hB2 : Below w.heap.size w w2 := Below.trans (by repeat (first | exact Below.refl _ _ | refine Below.alloc ?_ (by first | omega | (simp; done) | (simp; omega)) _ | refine Below.setCell ?_ (by first | omega | (simp; done) | (simp; omega)) _ | refine Below.drew ?_)) (Below.mono hb2 (by first | omega | (simp; done) | (simp; omega))); obtain ⟨cL, fL, zL⟩ := blkC HL2.out; clear hb2) | (go_at_call 16; refine (CB.out _).mono ?_; rintro e w3 ⟨rfl, hb23⟩; clear cL fL zL; have HF3 := Lib.hid (blkStay HF2.out hb23); have HL3 := Lib.hid (blkStay HL2.out hb23); have HS3 := Lib.hid (blkStay HS2.out hb23); have hB3 := hB2.trans (hb23.mono hB2.size); clear hb23 hB2 HF2 HL2 HS2; obtain ⟨cF, fF, zF⟩ := blkC HF3.out; obtain ⟨cL, fL, zL⟩ := blkC HL3.out; obtain ⟨cS, fS, zS⟩ := blkC HS3.out))
    clear cS fS cF fF zF
    refine (RM.out _ w.heap.size HL3.out (flAt_congr HC.out (hB3.block _ hlt))).mono ?_
    intro e w4 hmade
    rcases hmade with ⟨hall, b', cap', rfl, hb', hlt', hrow, hbel⟩ | ⟨hall, rfl, hbel⟩
    · obtain ⟨cS, fS, zS4⟩ := blkC (blkStay HS3.out hbel)
      have HB := Lib.hid hb'
      clear hb'
      go_wp2
      refine bodyPost_ret (v := .tuple #[fldV X Y W H (.slice (some ⟨b', 0, none⟩) n cap'), .int .i64 0]) (by simp [results, Try.results20, go_sem, cS]) rfl ?_
      have z3 := hB3.size
      have hb' := HB.out
      exact .inr ⟨rfl, .inl ⟨hall, b', cap', rfl, by omega, by rw [set5_size]; exact hlt', flAt_congr hrow (set5_heap w4 _ _ _ _ _ _ _ (by omega)), set5_below (hB3.trans (hbel.mono z3)) _ _ _ _ _ _ (by omega)⟩⟩
    · obtain ⟨cS, fS, zS4⟩ := blkC (blkStay HS3.out hbel)
      go_wp2
      refine bodyPost_ret (v := .tuple #[fldV 0 0 0 0 (.slice none 0 0), .int .i64 3]) (by simp [results, Try.results20, go_sem, cS]) rfl ?_
      have z3 := hB3.size
      exact .inr ⟨rfl, .inr ⟨hall, rfl, set5_below (hB3.trans (hbel.mono z3)) _ _ _ _ _ _ (by omega)⟩⟩
  · have hzb : (bruE k X' Y' R h != 0) = true := by simp [hz]
    have HZ := Lib.hid hz
    generalize bruE k X' Y' R h = er at *
    clear hc hn h0 hh hz b1 b2 b3 b4 b5 b6 b7 b8 b9 hnn
    go_enter Try.func20, Try.ntmps20
    go_wp2_with (first | (go_at_call 90; refine (CK.out _ (by repeat (first | exact Below.refl _ _ | refine Below.alloc ?_ (by first | omega | (simp; done) | (simp; omega)) _ | refine Below.setCell ?_ (by first | omega | (simp; done) | (simp; omega)) _ | refine Below.drew ?_))).mono ?_; rintro e w2 ⟨rfl, hb2⟩; have HF2 := Lib.hid (blkStay (b := w.heap.size) (o := fldO X Y W H (.slice (some ⟨b, 0, none⟩) n cap)) (by ((simp only [heap_alloc_get, heap_size_alloc, if_true]) <;> ((repeat' split) <;> first | rfl | omega))) hb2); have HL2 := Lib.hid (blkStay (b := w.heap.size + 1) (o := bruObj k X' Y' R h) (by ((simp only [heap_alloc_get, heap_size_alloc, if_true]) <;> ((repeat' split) <;> first | rfl | omega))) hb2); have HS2 := Lib.hid (blkStay (b := w.heap.size + 1 + 1) (o := fldO 0 0 0 0 (.slice none 0 0)) (by ((simp only [heap_alloc_get, heap_size_alloc, if_true]) <;> ((repeat' split) <;> first | rfl | omega))) hb2); have hB2 : Below w.heap.size w w2 := Below.trans (by repeat (first | exact Below.refl _ _ | refine Below.alloc ?_ (by first | omega | (simp; done) | (simp; omega)) _ | refine Below.setCell ?_ (by first | omega | (simp; done) | (simp; omega)) _ | refine Below.drew ?_)) (Below.mono hb2 (by first | omega | (simp; done) | (simp; omega))); obtain ⟨cL, fL, zL⟩ := blkC HL2.out; clear hb2) | (go_at_call 16; refine (CB.out _).mono ?_; rintro e w3 ⟨rfl, hb23⟩; clear cL fL zL; have HF3 := Lib.hid (blkStay HF2.out hb23); have HL3 := Lib.hid (blkStay HL2.out hb23); have HS3 := Lib.hid (blkStay HS2.out hb23); have hB3 := hB2.trans (hb23.mono hB2.size); clear hb23 hB2 HF2 HL2 HS2; obtain ⟨cF, fF, zF⟩ := blkC HF3.out; obtain ⟨cL, fL, zL⟩ := blkC HL3.out; obtain ⟨cS, fS, zS⟩ := blkC HS3.out))
    refine bodyPost_ret (v := .tuple #[fldV 0 0 0 0 (.slice none 0 0), .int .i64 er]) (by simp [results, Try.results20, go_sem, cS]) rfl ?_
    exact .inl ⟨HZ.out, rfl, set5_below hB3 _ _ _ _ _ _ (by omega)⟩
end Go.Proofs.Ytmbiohopcfglcaa

/- Stamp of the reference, of a right field. -/
namespace Go.Proofs.Ytmbiohopcfglcaa
open Go.RowKit Fl
set_option linter.unusedVariables false

set_option maxHeartbeats 4000000 in
set_option maxRecDepth 100000 in
theorem rstamp1_any (X Y : Int) (W H n b cap : Nat) (v : Nat → Nat) (p : Nat) (k X' Y' R : Int) (h : Nat) (w : World) (kF : w.heap[p]? = some (fldO X Y W H (.slice (some ⟨b, 0, none⟩) n cap))) (k1 : w.heap[p + 1]? = some (bruObj k X' Y' R h)) (hc : FlAt w b 0 n v)
    (hh : allB n (fun i => hgtB (v i)) = true) (K : BruOk k X' Y' R h) (h0 : checkR X Y W H = 0) (hnn : n = H * W) :
    Clos2 94 #[.pointer (some ⟨p, 0, none⟩), .pointer (some ⟨p + 1, 0, none⟩)] X Y W H (staF v k X' Y' R h X Y W) w := by
  intro x y i w2 h1 h2 h3 h4 h5 hb
  obtain ⟨b1, b2, b3, b4, b5, b6, b7, b8, b9⟩ := checkR_zero h0
  have hn : n ≤ 65536 := by
    have : ((W : Int) * (H : Int)) = (n : Int) := by rw [hnn, Nat.mul_comm]; simp
    omega
  have hi' : i < n := num_lt (by omega) h1 h2 h4 h5 hnn
  have hrow := flAt_congr hc (hb.block b (World.block_lt_of_cell? w _ (hc i hi')))
  have z1 := World.block_lt_of_cell? w2 _ (hrow i hi')
  have AT := Lib.hid (fun W' (hb : Below w2.heap.size w2 W') => refAt_any X Y W H n b cap i v x y W' (by omega) (by omega) (by omega) (by omega) (by omega) (by omega) (by omega) h1 h2 h3 h4 h5 hi' hn (flAt_congr hrow (hb.block _ z1)))
  have WT := Lib.hid (fun w => rweight_any k X' Y' R h x y w K.k1 K.k3 K.X1 K.X2 K.Y1 K.Y2 K.r1 K.r2 (by omega) (by omega) (by omega) (by omega))
  obtain ⟨ex, ey⟩ := place_of (show 1 ≤ W by omega) h1 h2 h3 h5
  unfold staF
  rw [ex, ey]
  have n0 : 0 ≤ sqD x y X' Y' := by
    obtain ⟨a0, a1⟩ := side_sq (d := x - X') (by have := K.X1; have := K.X2; omega) (by have := K.X1; have := K.X2; omega)
    obtain ⟨b0, b1⟩ := side_sq (d := y - Y') (by have := K.Y1; have := K.Y2; omega) (by have := K.Y1; have := K.Y2; omega)
    unfold sqD; omega
  obtain ⟨d, hd, d0, d1⟩ := wei_in (k := k) n0 K.r1 K.r2
  obtain ⟨m, r, e1, s1, e2, s2, e3, _⟩ := sta_parts (allB_iff.1 hh i hi') K.hg hd d0 d1
  rw [e3]
  have ML := Lib.hid (fun w => refMul_any 20 h _ m s1 e1 w)
  have AD := Lib.hid (fun w => refAdd_any 21 (v i) m r s2 e2 w)
  generalize weiW k (sqD x y X' Y') R = q at *
  have GF := Lib.hid (blkStay kF hb)
  have G1 := Lib.hid (blkStay k1 hb)
  obtain ⟨cF, fF, zF⟩ := blkC GF.out
  obtain ⟨c1, f1, z2⟩ := blkC G1.out
  clear hb h1 h2 h3 h4 h5 b1 b2 b3 b4 b5 b6 b7 b8 b9 hnn hh h0 hi' hn hrow kF k1 hc K n0 hd d0 d1 s1 e1 s2 e2 e3 ex ey
  go_enter Try.func94, Try.ntmps94
  go_wp2
  go_region_held3 (fun w' => (∀ o, w'.cell? ⟨p, o, none⟩ = #[.int .i64 X, .int .i64 Y, .int .i64 W, .int .i64 H, .slice (some ⟨b, 0, none⟩) n cap][o]?) ∧ (∀ o, w'.cell? ⟨p + 1, o, none⟩ = #[.int .i64 k, .int .i64 X', .int .i64 Y', .int .i64 R, .float .f32 h][o]?) ∧ Below w2.heap.size w2 w') (first | exact ⟨(blkC (blkStay GF.out hb9)).1, (blkC (blkStay G1.out hb9)).1, hb9⟩ | exact ⟨(blkC (blkStay GF.out (by repeat (first | exact Below.refl _ _ | refine Below.alloc ?_ (by first | omega | (simp; done) | (simp; omega)) _ | refine Below.setCell ?_ (by first | omega | (simp; done) | (simp; omega)) _ | refine Below.drew ?_)))).1, (blkC (blkStay G1.out (by repeat (first | exact Below.refl _ _ | refine Below.alloc ?_ (by first | omega | (simp; done) | (simp; omega)) _ | refine Below.setCell ?_ (by first | omega | (simp; done) | (simp; omega)) _ | refine Below.drew ?_)))).1, (by repeat (first | exact Below.refl _ _ | refine Below.alloc ?_ (by first | omega | (simp; done) | (simp; omega)) _ | refine Below.setCell ?_ (by first | omega | (simp; done) | (simp; omega)) _ | refine Below.drew ?_))⟩) (first | (go_at_call 96; (with_reducible refine Calls.mono (AT.out _ ?_) ?_); exact (by repeat (first | exact Below.refl _ _ | refine Below.alloc ?_ (by first | omega | (simp; done) | (simp; omega)) _ | refine Below.setCell ?_ (by first | omega | (simp; done) | (simp; omega)) _ | refine Below.drew ?_)); rintro e w' ⟨rfl, rfl⟩) | (go_at_call 25; (with_reducible refine Calls.mono (WT.out _) ?_); rintro e w' ⟨rfl, hb8⟩; have hb9 : Below w2.heap.size w2 w' := Below.trans (by repeat (first | exact Below.refl _ _ | refine Below.alloc ?_ (by first | omega | (simp; done) | (simp; omega)) _ | refine Below.setCell ?_ (by first | omega | (simp; done) | (simp; omega)) _ | refine Below.drew ?_)) (Below.mono hb8 (by first | exact Nat.le_refl _ | (simp; done) | (simp; omega))); clear hb8) | (go_at_call 97; refine (ML.out _).mono ?_; rintro e w' ⟨rfl, rfl⟩) | (go_at_call 95; refine (AD.out _).mono ?_; rintro e w' ⟨rfl, rfl⟩))
  rename_i wh hHeld
  go_wp2
  go_ret
  exact ⟨rfl, hHeld.2.2⟩

theorem sta_wf {n : Nat} {v : Nat → Nat} {k X Y R : Int} {h : Nat} {X' Y' : Int} {W' : Nat} (hh : allB n (fun i => hgtB (v i)) = true) (K : BruOk k X Y R h) : wf32 n (staF v k X Y R h X' Y' W') := by
  intro i hi
  unfold staF
  have n0 : 0 ≤ sqD (X' + ((i % W' : Nat) : Int)) (Y' + ((i / W' : Nat) : Int)) X Y := by
    unfold sqD
    have sq : ∀ d : Int, 0 ≤ d * d := fun d => by rw [← Int.natAbs_mul_self' d]; exact Int.mul_nonneg (Int.natCast_nonneg _) (Int.natCast_nonneg _)
    have := sq (X' + ((i % W' : Nat) : Int) - X)
    have := sq (Y' + ((i / W' : Nat) : Int) - Y)
    omega
  obtain ⟨d, hd, d0, d1⟩ := wei_in (k := k) n0 K.r1 K.r2
  obtain ⟨m, r, _, _, _, _, e3, lt⟩ := sta_parts (allB_iff.1 hh i hi) K.hg hd d0 d1
  rw [e3]; exact lt

set_option maxHeartbeats 2000000 in
theorem rstamp_any (X Y : Int) (W H n b cap : Nat) (v : Nat → Nat) (k X' Y' R : Int) (h : Nat) (w : World) (h0 : checkR X Y W H = 0) (hn : n = W * H) (hc : FlAt w b 0 n v) (hh : allB n (fun i => hgtB (v i)) = true) (hl : h < 4294967296) :
    Calls Try.prog 21 #[fldV X Y W H (.slice (some ⟨b, 0, none⟩) n cap), bru k X' Y' R h] w (ScPost w X Y W H n (staF v k X' Y' R h X Y W) (bruE k X' Y' R h)) := by
  obtain ⟨b1, b2, b3, b4, b5, b6, b7, b8, b9⟩ := checkR_zero h0
  have hnn : n = H * W := by rw [hn]; exact Nat.mul_comm _ _
  have h1 : 1 ≤ n := by rw [hn]; exact Nat.mul_pos (by omega) (by omega)
  have hlt : b < w.heap.size := World.block_lt_of_cell? w _ (hc 0 h1)
  have CB := Lib.hid (fun w => refCheckBrush_any k X' Y' R h hl w)
  by_cases hz : bruE k X' Y' R h = 0
  · have K := bru_ok hz
    have BY := Lib.hid (fun W' p (kF : W'.heap[p]? = some (fldO X Y W H (.slice (some ⟨b, 0, none⟩) n cap))) (k1 : W'.heap[p + 1]? = some (bruObj k X' Y' R h)) (hc' : FlAt W' b 0 n v) =>
      made_any X Y W H n 94 #[.pointer (some ⟨p, 0, none⟩), .pointer (some ⟨p + 1, 0, none⟩)] (staF v k X' Y' R h X Y W) W' enters_rStamp1
        (rstamp1_any X Y W H n b cap v p k X' Y' R h W' kF k1 hc' hh K h0 hnn) (sta_wf hh K) (by omega) (by omega) (by omega) (by omega) (by omega) (by omega) (by omega) (by omega) hnn)
    rw [hz] at CB ⊢
    have HC := Lib.hid hc
    clear hc hn h0 hh hz b1 b2 b3 b4 b5 b6 b7 b8 b9 hnn K
    go_enter Try.func21, Try.ntmps21
    go_wp2_with (first | (go_at_call 15; refine (CB.out _).mono ?_; rintro e w2 ⟨rfl, hb2⟩; have HF2 := Lib.hid (blkStay (b := w.heap.size) (o := fldO X Y W H (.slice (some ⟨b, 0, none⟩) n cap)) (by ((simp only [heap_alloc_get, heap_size_alloc, if_true]) <;> ((repeat' split) <;> first | rfl | omega))) hb2); have HL2 := Lib.hid (blkStay (b := w.heap.size + 1) (o := bruObj k X' Y' R h) (by ((simp only [heap_alloc_get, heap_size_alloc, if_true]) <;> ((repeat' split) <;> first | rfl | omega))) hb2); have HS2 := Lib.hid (blkStay (b := w.heap.size + 1 + 1) (o := fldO 0 0 0 0 (.slice none 0 0)) (by ((simp only [heap_alloc_get, heap_size_alloc, if_true]) <;> ((repeat' split) <;> first | rfl | omega))) hb2); have hB2 : Below w.heap.size w w2 := Below.trans (by repeat (first | exact Below.refl _ _ | refine Below.alloc ?_ (by first | omega | (simp; done) | (simp; omega)) _ | refine Below.setCell ?_ (by first | omega | (simp; done) | (simp; omega)) _ | refine Below.drew ?_)) (Below.mono hb2 (by first | omega | (simp; done) | (simp; omega))); obtain ⟨cF, fF, zF⟩ := blkC HF2.out; clear hb2))
    refine (BY.out _ w.heap.size HF2.out HL2.out (flAt_congr HC.out (hB2.block _ hlt))).mono ?_
    intro e w4 hmade
    clear cF fF zF
    rcases hmade with ⟨hall, b', cap', rfl, hb', hlt', hrow, hbel⟩ | ⟨hall, rfl, hbel⟩
    · obtain ⟨cS, fS, zS4⟩ := blkC (blkStay HS2.out hbel)
      have zS2 := (blkC HS2.out).2.2
      have HB := Lib.hid hb'
      clear hb'
      go_wp2
      refine bodyPost_ret (v := .tuple #[fldV X Y W H (.slice (some ⟨b', 0, none⟩) n cap'), .int .i64 0]) (by simp [results, Try.results21, go_sem, cS]) rfl ?_
      have z2 := hB2.size
      have hb' := HB.out
      exact .inr ⟨rfl, .inl ⟨hall, b', cap', rfl, by omega, by rw [set5_size]; exact hlt', flAt_congr hrow (set5_heap w4 _ _ _ _ _ _ _ (by omega)), set5_below (hB2.trans (hbel.mono z2)) _ _ _ _ _ _ (by omega)⟩⟩
    · obtain ⟨cS, fS, zS4⟩ := blkC (blkStay HS2.out hbel)
      go_wp2
      refine bodyPost_ret (v := .tuple #[fldV 0 0 0 0 (.slice none 0 0), .int .i64 3]) (by simp [results, Try.results21, go_sem, cS]) rfl ?_
      have z2 := hB2.size
      exact .inr ⟨rfl, .inr ⟨hall, rfl, set5_below (hB2.trans (hbel.mono z2)) _ _ _ _ _ _ (by omega)⟩⟩
  · have hzb : (bruE k X' Y' R h != 0) = true := by simp [hz]
    have HZ := Lib.hid hz
    generalize bruE k X' Y' R h = er at *
    clear hc hn h0 hh hz b1 b2 b3 b4 b5 b6 b7 b8 b9 hnn
    go_enter Try.func21, Try.ntmps21
    go_wp2_with (first | (go_at_call 15; refine (CB.out _).mono ?_; rintro e w2 ⟨rfl, hb2⟩; have HS2 := Lib.hid (blkStay (b := w.heap.size + 1 + 1) (o := fldO 0 0 0 0 (.slice none 0 0)) (by ((simp only [heap_alloc_get, heap_size_alloc, if_true]) <;> ((repeat' split) <;> first | rfl | omega))) hb2); have hB2 : Below w.heap.size w w2 := Below.trans (by repeat (first | exact Below.refl _ _ | refine Below.alloc ?_ (by first | omega | (simp; done) | (simp; omega)) _ | refine Below.setCell ?_ (by first | omega | (simp; done) | (simp; omega)) _ | refine Below.drew ?_)) (Below.mono hb2 (by first | omega | (simp; done) | (simp; omega))); obtain ⟨cS, fS, zS⟩ := blkC HS2.out; clear hb2))
    refine bodyPost_ret (v := .tuple #[fldV 0 0 0 0 (.slice none 0 0), .int .i64 er]) (by simp [results, Try.results21, go_sem, cS]) rfl ?_
    exact .inl ⟨HZ.out, rfl, set5_below hB2 _ _ _ _ _ _ (by omega)⟩
end Go.Proofs.Ytmbiohopcfglcaa

/- What the reference's folds make of a cell; the first error of a list. -/
namespace Go.Proofs.Ytmbiohopcfglcaa
open Go.RowKit Fl
set_option linter.unusedVariables false

theorem enters_rFolds1 : Enters 136 := by intro args W; simp [callFunc, Try.func136, Try.f136]

set_option maxHeartbeats 4000000 in
set_option maxRecDepth 100000 in
theorem rFolds1_any (X Y : Int) (W H m b cap : Nat) (v : Nat → Nat) (a : Option Addr) (n lcap : Nat) (A B P : Nat → Int) (h : Nat → Nat) (p q : Nat) (w : World) (hp : w.heap[p]? = some (fldO X Y W H (.slice (some ⟨b, 0, none⟩) m cap))) (hq : w.heap[q]? = some (folsO a n lcap)) (hc : FlAt w b 0 m v)
    (hh : allB m (fun i => hgtB (v i)) = true) (L : FolL w a n A B P h) (hn : n ≤ 100) (K : ∀ i, i < n → FolOk (A i) (B i) (P i) (h i)) (h0 : checkR X Y W H = 0) (hnn : m = H * W) :
    Clos2 136 #[.pointer (some ⟨p, 0, none⟩), .pointer (some ⟨q, 0, none⟩)] X Y W H (fun i => accW (v i) (folF A B P h (X + ((i % W : Nat) : Int)) (Y + ((i / W : Nat) : Int))) n) w := by
  intro x y i w2 h1 h2 h3 h4 h5 hb
  obtain ⟨b1, b2, b3, b4, b5, b6, b7, b8, b9⟩ := checkR_zero h0
  have hm : m ≤ 65536 := by
    have : ((W : Int) * (H : Int)) = (m : Int) := by rw [hnn, Nat.mul_comm]; simp
    omega
  have hi' : i < m := num_lt (by omega) h1 h2 h4 h5 hnn
  have hv := allB_iff.1 hh i hi'
  have hrow := flAt_congr hc (hb.block b (World.block_lt_of_cell? w _ (hc i hi')))
  have AT := Lib.hid (fun W' (hb : Below w2.heap.size w2 W') => refAt_any X Y W H m b cap i v x y W' (by omega) (by omega) (by omega) (by omega) (by omega) (by omega) (by omega) h1 h2 h3 h4 h5 hi' hm (flAt_congr hrow (hb.block _ (World.block_lt_of_cell? w2 _ (hrow i hi')))))
  obtain ⟨ex, ey⟩ := place_of (show 1 ≤ W by omega) h1 h2 h3 h5
  simp only [ex, ey]
  have LI := Lib.hid (fun i (hi : i < n) w => rlift_any (A i) (B i) (P i) (h i) x y w (K i hi) (by omega) (by omega) (by omega) (by omega))
  have ST := Lib.hid (fun j (hj : j < n) => acc_step (hgt_bd hv) hn hj (folF_bd (x := x) (y := y) K))
  have hsf := fun (w : World) (a : Addr) (m : Mode) (k : FloatKind) (b : Nat) => run_store_float (P := Try.prog) (w := w) (a := a) (m := m) k b
  have HL := Lib.hid (L.stay hb)
  have GF := Lib.hid (blkStay hp hb)
  have GQ := Lib.hid (blkStay hq hb)
  obtain ⟨cF, fF, zF⟩ := blkC GF.out
  have zQ := (blkC GQ.out).2.2
  obtain ⟨F, hF⟩ : ∃ F, folF A B P h x y = F := ⟨_, rfl⟩
  have FF := Lib.hid (show ∀ i, lifW (folK (A i) (B i) (P i) x y) (P i) (h i) = F i from fun i => by rw [← hF]; rfl)
  rw [hF] at ST ⊢
  generalize v i = vi at *
  clear hb h1 h2 h3 h4 h5 b1 b2 b3 b4 b5 b6 b7 b8 b9 hnn hh h0 hi' hm hrow hp hq hc K L hv ex ey hF
  go_enter Try.func136, Try.ntmps136
  go_wp2_with (first | (go_at_call 96; refine (AT.out _ (by repeat (first | exact Below.refl _ _ | refine Below.alloc ?_ (by first | omega | (simp; done) | (simp; omega)) _ | refine Below.setCell ?_ (by first | omega | (simp; done) | (simp; omega)) _ | refine Below.drew ?_))).mono ?_; rintro e w3 ⟨rfl, hw3⟩; have hb3 : Below w2.heap.size w2 w3 := (by rw [← hw3]; exact (by repeat (first | exact Below.refl _ _ | refine Below.alloc ?_ (by first | omega | (simp; done) | (simp; omega)) _ | refine Below.setCell ?_ (by first | omega | (simp; done) | (simp; omega)) _ | refine Below.drew ?_))); have HB3 := Lib.hid hb3; clear cF fF zF; clear hw3; obtain ⟨cQ, fQ, zQ3⟩ := blkC (blkStay GQ.out hb3); clear hb3))
  go_loopw [7, 16] (fun u i wr => ∃ j : Nat, j ≤ n ∧ u = .float .f32 (accW vi F j) ∧ i = .int .i64 j ∧ Below w2.heap.size w2 wr) (fun _ i _ => n - (intOf i).toNat)
  case atStart => exact ⟨0, by omega, rfl, rfl, HB3.out⟩
  case round =>
    obtain ⟨j, hj, rfl, rfl, hb⟩ := hrel
    by_cases c : j < n
    · have HB := Lib.hid hb
      rcases HL.out.stay hb with z | ⟨b, off, rfl, l⟩
      · omega
      obtain ⟨l0, l1, l2, l3⟩ := l j c
      obtain ⟨r, r1, rs, er, _⟩ := ST.out j c
      have AD := Lib.hid (fun w => refAdd_any _ (accW vi F j) (F j) r rs r1 w)
      have L1 := Lib.hid (fun w => LI.out j c w)
      rw [FF.out j] at L1
      have ER := Lib.hid er
      generalize accW vi F j = u at *
      clear l er hb r1 rs cQ fQ zQ3
      go_wp2_with (first | (go_at_call 137; refine (L1.out _).mono ?_; rintro e' w4 ⟨rfl, hb4⟩; have hB4 : Below wr.heap.size wr w4 := Below.trans (by repeat (first | exact Below.refl _ _ | refine Below.alloc ?_ (by first | omega | (simp; done) | (simp; omega)) _ | refine Below.setCell ?_ (by first | omega | (simp; done) | (simp; omega)) _ | refine Below.drew ?_)) (Below.mono hb4 (by simp)); have HB4 := Lib.hid (HB.out.trans (hB4.mono HB.out.size)); clear hb4 hB4) | (go_at_call 95; refine (AD.out _).mono ?_; rintro e' w' ⟨rfl, rfl⟩))
      go_roundw
      case rel => exact ⟨j + 1, by omega, by rw [ER.out], by go_num, HB4.out⟩
      case measure => simp [intOf]; omega
    · have : j = n := by omega
      subst this
      go_wp2
      go_ret
      exact ⟨rfl, hb⟩
end Go.Proofs.Ytmbiohopcfglcaa
