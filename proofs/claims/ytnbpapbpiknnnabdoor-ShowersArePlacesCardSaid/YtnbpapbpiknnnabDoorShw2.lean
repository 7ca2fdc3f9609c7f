/- Contracts: Shower; the reference's Place. -/
import Derived.Test.YtnbpapbpiknnnabDoorShw
import Derived.Test.YtnbpapbpiknnnabDoorFil
namespace Go.Proofs.YtnbpapbpiknnnabDoor
open Go.RowKit Fl Go.Shelf
set_option linter.unusedVariables false

theorem make_int (n : Nat) (hn : n ≤ 65536) (w : World) :
    (Instr.makeSlice 40 (.int .i64 (n : Int)) (.int .i64 (n : Int))).run Tryd.prog w = .ok (.slice (some ⟨w.heap.size, 0, none⟩) n n) (w.alloc (.cells (madeCells #[Value.int .i64 0] n) 3)) := by
  have h : (Tryd.prog.info? 3).map (fun i => (i.zero, i.size, i.bytes)) = some (some (.int .i64 0), 1, 8) := by kernel_rfl
  obtain ⟨i0, hi, hz0, hz1, hz2⟩ := info_parts h
  have hr := run_make (P := Tryd.prog) w 40 3 i0 (.int .i64 0) Tryd.underlying40 hi hz0 .i64 .i64 n n (by omega) (by omega) (by rw [hz2]; omega) (by omega)
  rw [hz1, Nat.mul_one, Int.toNat_natCast] at hr
  exact hr
/-- A block of whole numbers. -/
def IntsAt (w : World) (b n : Nat) (c : Nat → Nat) : Prop := ∃ cs : Array Value, w.heap[b]? = some (.cells cs 3 (0, 0)) ∧ cs.size = n ∧ ∀ i, i < n → cs[i]? = some (.int .i64 ((c i : Nat) : Int))
theorem IntsAt.congr {w w' : World} {b n : Nat} {c : Nat → Nat} (h : IntsAt w b n c) (e : w'.heap[b]? = w.heap[b]?) : IntsAt w' b n c := by
  obtain ⟨cs, h1, h2⟩ := h
  exact ⟨cs, e.trans h1, h2⟩
theorem IntsAt.cell {w : World} {b n : Nat} {c : Nat → Nat} (h : IntsAt w b n c) {i : Nat} (hi : i < n) : w.cell? ⟨b, i, none⟩ = some (.int .i64 ((c i : Nat) : Int)) ∧ w.frozen? ⟨b, i, none⟩ = false ∧ b < w.heap.size := by
  obtain ⟨cs, h1, h2, h3⟩ := h
  obtain ⟨c, f, z⟩ := blkC h1
  exact ⟨(c i).trans (h3 i hi), f i, z⟩
theorem IntsAt.put {w : World} {b n : Nat} {c : Nat → Nat} (h : IntsAt w b n c) {k : Nat} (x : Nat) (hk : k < n) : IntsAt (w.setCell ⟨b, k, none⟩ (.int .i64 (x : Int))) b n (updW c k x) := by
  obtain ⟨cs, h1, h2, h3⟩ := h
  refine ⟨_, heap_setCell_same w b k _ _ _ h1, by simpa using h2, fun i hi => ?_⟩
  rw [Array.getElem?_setIfInBounds]
  by_cases e : k = i
  · subst e; rw [if_pos rfl, if_pos (by omega), updW_same]
  · rw [if_neg e, updW_other c (by omega)]; exact h3 i hi
theorem IntsAt.lt {w : World} {b n : Nat} {c : Nat → Nat} (h : IntsAt w b n c) : b < w.heap.size := by
  obtain ⟨cs, h1, _⟩ := h
  exact (blkC h1).2.2
theorem IntsAt.as {w : World} {b n : Nat} {c c' : Nat → Nat} (h : IntsAt w b n c) (e : ∀ i, i < n → c i = c' i) : IntsAt w b n c' := by
  obtain ⟨cs, h1, h2, h3⟩ := h
  exact ⟨cs, h1, h2, fun i hi => by rw [← e i hi]; exact h3 i hi⟩
theorem made_ints (w : World) (n : Nat) : IntsAt (w.alloc (.cells (madeCells #[Value.int .i64 0] n) 3)) w.heap.size n (fun _ => 0) :=
  ⟨_, heap_alloc_new _ _, by simp [madeCells], fun i hi => by simp [madeCells, hi, Nat.mod_one]⟩

/-- The shower at a cell. -/
def shwI (seed most X Y : Int) (W i : Nat) : Int := hashI seed (X + ((i % W : Nat) : Int)) (Y + ((i / W : Nat) : Int)) 2 % (most + 1)
def shwN (seed most X Y : Int) (W i : Nat) : Nat := (shwI seed most X Y W i).toNat
theorem shw_cast {seed most X Y : Int} {W i : Nat} (h : 0 ≤ most) : ((shwN seed most X Y W i : Nat) : Int) = shwI seed most X Y W i := Int.toNat_of_nonneg (Int.emod_nonneg _ (by omega))

theorem shw_val {seed most X Y : Int} {W k : Nat} (h : 0 ≤ most) (h' : most ≤ 1048576) : wrap64 ((hashI seed (X + (k : Int) % (W : Int)) (Y + (k : Int) / (W : Int)) 2).tmod (most + 1)) = ((shwN seed most X Y W k : Nat) : Int) := by
  rw [shw_cast h]
  unfold shwI
  have e1 : ((k % W : Nat) : Int) = (k : Int) % (W : Int) := by simp
  have e2 : ((k / W : Nat) : Int) = (k : Int) / (W : Int) := by simp
  rw [e1, e2]
  have q := hashI_in seed (X + (k : Int) % (W : Int)) (Y + (k : Int) / (W : Int)) 2
  generalize hashI seed (X + (k : Int) % (W : Int)) (Y + (k : Int) / (W : Int)) 2 = z at *
  rw [Int.tmod_eq_emod_of_nonneg q.1]
  have a := Int.emod_nonneg z (show most + 1 ≠ 0 by omega)
  have b := Int.emod_lt_of_pos z (show 0 < most + 1 by omega)
  exact IntWalk.wrap64_in _ ⟨by omega, by omega⟩

/-- What holds at the head of Shower's loop, when k cells have been made. -/
def ShwAt (w0 : World) (X Y W H : Int) (rb n : Nat) (f : Nat → Nat) (k : Nat) (wr : World) : Prop := ∃ c, IntsAt wr rb n c ∧ (∀ i, i < k → c i = f i) ∧ wr.heap[w0.heap.size]? = some (regObj X Y W H) ∧ Below w0.heap.size w0 wr

set_option maxHeartbeats 4000000 in
set_option maxRecDepth 100000 in
theorem shower_ok (seed most X Y : Int) (W H n : Nat) (w : World) (h0 : checkR X Y W H = 0) (hn : n = W * H) (m0 : 0 ≤ most) (m1 : most ≤ 1048576) :
    Calls Tryd.prog 61 #[reg X Y W H, .int .u32 seed, .int .i64 most] w fun e w' => ∃ rb, e = .returned (.tuple #[.slice (some ⟨rb, 0, none⟩) n n, .int .i64 0]) ∧ IntsAt w' rb n (shwN seed most X Y W) ∧ w.heap.size ≤ rb ∧ Below w.heap.size w w' := by
  obtain ⟨b1, b2, b3, b4, b5, b6, b7, b8, b9⟩ := checkR_zero h0
  have hn2 : n ≤ 65536 := by
    have : ((W : Int) * (H : Int)) = (n : Int) := by rw [hn]; simp
    omega
  have en : (W : Int) * (H : Int) = (n : Int) := by rw [hn]; simp
  have en' : wrap64 ((W : Int) * (H : Int)) = (n : Int) := by rw [en]; exact IntWalk.wrap64_in _ ⟨by omega, by omega⟩
  have RC := Lib.hid (fun w => checkRegion_any X Y W H w)
  rw [h0] at RC
  have WI := Lib.hid (fun w => within_any most 0 1048576 w)
  rw [withinB_iff.2 ⟨m0, m1⟩] at WI
  have PL := Lib.hid (fun k (hk : k < n) w => place_any X Y W H k w (by omega) (by omega) (by omega) (by omega) (by omega) (by omega) (by omega))
  have HA := Lib.hid (fun k w => hash_any seed (X + ((k % W : Nat) : Int)) (Y + ((k / W : Nat) : Int)) 2 w)
  have MK := make_int n hn2
  have q0 : ¬ (most + 1 = 0) := by omega
  have q1 : IntKind.i64.wrap (most + 1) = most + 1 := IntWalk.i64_in _ (by omega)
  have q2 : IntKind.u32.wrap (most + 1) = most + 1 := by rw [IntKind.wrap_u32]; omega
  have SC := Lib.hid (fun k => shw_cast (seed := seed) (X := X) (Y := Y) (W := W) (i := k) m0)
  clear h0 b1 b2 b3 b4 b5 b6 b7 b8 b9 hn
  go_enter Tryd.func61, Tryd.ntmps61
  go_wp2_with (first | (go_at_call 115; refine (RC.out _).mono ?_; rintro e w' ⟨rfl, rfl⟩) | (go_at_call 94; refine (WI.out _).mono ?_; rintro e w' ⟨rfl, rfl⟩))
  have ST := Lib.hid (show ShwAt w X Y W H (w.heap.size + 1 + 1) n (shwN seed most X Y W) 0 (((w.alloc (regObj X Y W H)).alloc (regObj X Y W H)).alloc (.cells (madeCells #[Value.int .i64 0] n) 3)) from
    ⟨_, by have q := made_ints ((w.alloc (regObj X Y W H)).alloc (regObj X Y W H)) n; simpa using q, fun i hi => by omega, by ((simp only [heap_alloc_get, heap_size_alloc, if_true]) <;> ((repeat' split) <;> first | rfl | omega)), (by repeat (first | exact Below.refl _ _ | refine Below.alloc ?_ (by first | omega | (simp; done) | (simp; omega)) _ | refine Below.setCell ?_ (by first | omega | (simp; done) | (simp; omega)) _ | refine Below.drew ?_))⟩)
  obtain ⟨rb, hrb⟩ : ∃ rb, rb = w.heap.size + 1 + 1 := ⟨_, rfl⟩
  have RB := Lib.hid (show w.heap.size < rb by omega)
  rw [← hrb] at ST ⊢
  clear hrb MK
  go_loopw [28] (fun s28 wr => ∃ k : Nat, k ≤ n ∧ s28 = .int .i64 k ∧ ShwAt w X Y W H rb n (shwN seed most X Y W) k wr) (fun s28 _ => n - (intOf s28).toNat)
  case atStart => exact ⟨0, Nat.zero_le _, rfl, ST.out⟩
  case round =>
    obtain ⟨k, hk, rfl, c, h1, h2, h3, h4⟩ := hrel
    by_cases hlt : k < n
    · obtain ⟨cR, fR, zR⟩ := blkC h3
      have PK := Lib.hid (PL.out k hlt)
      have k1 : (k : Int) < (n : Int) := by omega
      have H1 := Lib.hid h1
      have H2 := Lib.hid h2
      have H3 := Lib.hid h3
      have H4 := Lib.hid h4
      clear h1 h2 h3 h4
      go_wp2_with (first | (go_at_call 79; refine (PK.out _).mono ?_; rintro e w2 ⟨rfl, hb2⟩; have HB2 := Lib.hid hb2; obtain ⟨kc, kf, kz⟩ := (H1.out.congr (hb2.block _ H1.out.lt)).cell hlt; clear hb2 cR fR zR) | (go_at_call 116; refine (HA.out k _).mono ?_; rintro e w' ⟨rfl, rfl⟩))
      have zb := H1.out.lt
      have z2 := HB2.out.size
      have B2 : Below w.heap.size w w2 := H4.out.trans (HB2.out.mono H4.out.size)
      have rb0 := RB.out
      rw [shw_val m0 m1]
      go_roundw
      case rel =>
        refine ⟨k + 1, by omega, by go_num, updW c k (shwN seed most X Y W k), ?_, fun i hi => ?_, ?_, ?_⟩
        · exact ((H1.out.congr (HB2.out.block _ zb)).put _ hlt).congr (heap_alloc_old _ _ (by simp; omega))
        · by_cases e : i = k
          · subst e; rw [updW_same]
          · rw [updW_other c e]; exact H2.out i (by omega)
        · rw [heap_alloc_old _ _ (by simp; have := (blkC H3.out).2.2; omega)]
          exact (heap_setCell_other _ _ _ _ (by show w.heap.size ≠ rb; omega)).trans (blkStay H3.out HB2.out)
        · exact (B2.setCell (p := ⟨rb, k, none⟩) (by show w.heap.size ≤ rb; omega) _).alloc (by simp; have := B2.size; omega) _
      case measure => simp [intOf]; omega
    · have hkn : k = n := by omega
      subst hkn
      have H1 := Lib.hid (h1.as h2)
      have H4 := Lib.hid h4
      clear h1 h2 h3 h4
      go_wp2
      refine bodyPost_ret (v := .tuple #[.slice (some ⟨rb, 0, none⟩) k k, .int .i64 0]) (by simp [results, Tryd.results61, go_sem]) rfl ?_
      exact ⟨rb, rfl, H1.out, by have := RB.out; omega, H4.out⟩

/-- The error that the showers' law names. -/
def shwE (X Y W H most : Int) : Int := firstE (checkR X Y W H) (whenE (!withinB most 0 1048576) 3)
set_option maxHeartbeats 2000000 in
theorem shower_no (seed most X Y W H er : Int) (w : World) (he : shwE X Y W H most = er) (hz : er ≠ 0) :
    Calls Tryd.prog 61 #[reg X Y W H, .int .u32 seed, .int .i64 most] w fun e w' => e = .returned (.tuple #[.slice none 0 0, .int .i64 er]) ∧ Below w.heap.size w w' := by
  have RC := Lib.hid (fun w => checkRegion_any X Y W H w)
  have WI := Lib.hid (fun w => within_any most 0 1048576 w)
  unfold shwE firstE whenE at he
  by_cases h0 : checkR X Y W H = 0
  · rw [if_pos h0] at he
    cases hw : withinB most 0 1048576 with
    | true => rw [hw] at he; exact absurd he.symm hz
    | false =>
      rw [hw] at he WI
      rw [h0] at RC
      obtain rfl : er = 3 := he.symm
      clear he hz h0 hw
      go_enter Tryd.func61, Tryd.ntmps61
      go_wp2_with (first | (go_at_call 115; refine (RC.out _).mono ?_; rintro e w' ⟨rfl, rfl⟩) | (go_at_call 94; refine (WI.out _).mono ?_; rintro e w' ⟨rfl, rfl⟩))
      refine bodyPost_ret (v := .tuple #[.slice none 0 0, .int .i64 3]) (by simp [results, Tryd.results61, go_sem]) rfl ?_
      exact ⟨rfl, (by repeat (first | exact Below.refl _ _ | refine Below.alloc ?_ (by first | omega | (simp; done) | (simp; omega)) _ | refine Below.setCell ?_ (by first | omega | (simp; done) | (simp; omega)) _ | refine Below.drew ?_))⟩
  · rw [if_neg h0] at he
    rw [he] at RC
    clear he h0
    have h1 : (er != 0) = true := by simpa using hz
    clear hz
    go_enter Tryd.func61, Tryd.ntmps61
    go_wp2_with (first | (go_at_call 115; refine (RC.out _).mono ?_; rintro e w' ⟨rfl, rfl⟩))
    refine bodyPost_ret (v := .tuple #[.slice none 0 0, .int .i64 er]) (by simp [results, Tryd.results61, go_sem]) rfl ?_
    exact ⟨rfl, (by repeat (first | exact Below.refl _ _ | refine Below.alloc ?_ (by first | omega | (simp; done) | (simp; omega)) _ | refine Below.setCell ?_ (by first | omega | (simp; done) | (simp; omega)) _ | refine Below.drew ?_))⟩

set_option maxHeartbeats 1000000 in
theorem qPlace_any (X Y : Int) (W H i : Nat) (w : World) (hX1 : -4194304 ≤ X) (hX2 : X ≤ 4194304) (hY1 : -4194304 ≤ Y) (hY2 : Y ≤ 4194304) (hW1 : 1 ≤ W) (hW2 : W ≤ 512) (hi : i < 65536) :
    Calls Tryd.prog 38 #[reg X Y W H, .int .i64 i] w fun e w' => e = .returned (.tuple #[.int .i64 (X + ((i % W : Nat) : Int)), .int .i64 (Y + ((i / W : Nat) : Int))]) ∧ Below w.heap.size w w' := by
  obtain ⟨a, ha⟩ : ∃ a : Nat, a = i % W := ⟨_, rfl⟩
  obtain ⟨b, hb'⟩ : ∃ b : Nat, b = i / W := ⟨_, rfl⟩
  have b1 : (a : Int) < 512 := by have := Nat.mod_lt i (show 0 < W by omega); omega
  have b2 : (b : Int) < 65536 := by have := Nat.div_le_self i W; omega
  have t1 : (i : Int).tmod (W : Int) = (a : Int) := by rw [ha]; rw [Int.tmod_eq_emod_of_nonneg (by omega)]; simp
  have t2 : (i : Int).tdiv (W : Int) = (b : Int) := by rw [hb']; rw [Int.tdiv_eq_ediv_of_nonneg (by omega)]; simp
  have t3 : (i : Int) % (W : Int) = (a : Int) := by rw [ha]; simp
  have t4 : (i : Int) / (W : Int) = (b : Int) := by rw [hb']; simp
  have u1 : IntKind.i64.wrap (X + (a : Int)) = X + a := IntWalk.i64_in _ (by omega)
  have u2 : IntKind.i64.wrap (Y + (b : Int)) = Y + b := IntWalk.i64_in _ (by omega)
  have u3 : IntKind.i64.wrap (b : Int) = b := IntWalk.i64_in _ (by omega)
  have w0 : ¬ ((W : Int) = 0) := by omega
  have w0' : ¬ (W = 0) := by omega
  have t6 : i % W = a := ha.symm
  have t7 : i / W = b := hb'.symm
  have w1 : (1 : Int) ≤ (W : Int) := by omega
  have i0 : (0 : Int) ≤ (i : Int) := by omega
  rw [t6, t7]
  clear ha hb'
  go_enter Tryd.func38, Tryd.ntmps38
  go_wp2
  go_region
  all_goals go_wp2
  all_goals refine bodyPost_ret (v := .tuple #[.int .i64 (X + (a : Int)), .int .i64 (Y + (b : Int))]) (by simp [results, Tryd.results38, go_sem]) rfl ?_
  all_goals exact ⟨rfl, by repeat (first | exact Below.refl _ _ | refine Below.drew ?_ | refine Below.alloc ?_ (by simp; try omega) _ | refine Below.setCell ?_ (by simp; try omega) _)⟩
end Go.Proofs.YtnbpapbpiknnnabDoor
