/- Lemmas and contracts for the proof that the last text of this claim holds. -/
import Derived.Test.YtacbemilicdklaaDoorFjC

/- Contract: leastSpills. -/
namespace Go.Proofs.YtacbemilicdklaaDoor
open Go.RowKit Fl Go.Shelf
set_option linter.unusedVariables false
attribute [local go_sem] Oper.semAt_some

set_option maxRecDepth 100000 in
set_option maxHeartbeats 4000000 in
theorem leastSpills_any (X Y : Int) (W H n b off cap : Nat) (v : Nat → Nat) (sl : Nat) (w : World) (h0 : checkR X Y W H = 0) (hn : n = W * H) (hc : FlAt w b off n v) (hh : allB n (fun i => hgtB (v i)) = true) (hs : SlW sl) (hD : DirsAt w) :
    Calls Tryd.prog 68 #[fldV X Y W H (.slice (some ⟨b, off, none⟩) n cap), .float .f32 sl] w (SpillPost W H n v sl w) := by
  obtain ⟨b1, b2, b3, b4, b5, b6, b7, b8, b9⟩ := checkR_zero h0
  have hn2 : n ≤ 65536 := by
    have : ((W : Int) * (H : Int)) = (n : Int) := by rw [hn]; simp
    omega
  have hn1 : 1 ≤ n := by rw [hn]; exact Nat.mul_pos (by omega) (by omega)
  have zb : b < w.heap.size := World.block_lt_of_cell? w _ (hc 0 hn1)
  have G := Lib.hid (gnd_ok (W := W) (H := H) (v := v) (sl := sl) (by omega) (by omega) (fun k hk => allB_iff.1 hh k (by omega)) hs)
  have CL := Lib.hid (fun W' (hb : Below w.heap.size w W') => clone_any b off n cap v W' hn1 hn2 (flAt_congr hc (hb.block _ zb)))
  have IB := Lib.hid (fun k (hk : k < n) w => isBorder_any X Y W H k w (by omega) (by omega) (by omega) (by omega) (by omega))
  have mk := make_bool n hn2
  have HD := Lib.hid hD
  have HC := Lib.hid hc
  have HN := Lib.hid hn
  have HS := Lib.hid hs
  have HH := Lib.hid hh
  clear hD hc hn hs hh h0
  refine (callsIn_wide (n := 4)).1 (callsIn_of_wp_marks Tryd.func68 rfl trivial (wpIn_wide.2 (wp_mono (Q := NoPanic (bodyPostM Fence.wide 4 Tryd.prog Tryd.f68 (SpillPost W H n v sl w))) ?_ noPanic_of)) rfl)
  simp only [Tryd.ntmps68, List.size_toArray, List.length_cons, List.length_nil, Nat.reduceAdd, Nat.reduceSub, Array.replicate_succ, Array.replicate_zero, List.push_toArray, List.append_toArray, List.nil_append, List.cons_append]
  go_wp2_with (first | (go_at_call 96; refine (CL.out _ (by repeat (first | exact Below.refl _ _ | refine Below.alloc ?_ (by first | omega | (simp; done) | (simp; omega)) _ | refine Below.setCell ?_ (by first | omega | (simp; done) | (simp; omega)) _ | refine Below.drew ?_))).mono ?_; rintro e w1 ⟨sb, scap, rfl, hg1, how1, hb1⟩; have HO1 := Lib.hid how1; have GB1 := Lib.hid hg1; have HF1 := Lib.hid (blkStay (b := w.heap.size) (o := fldO X Y W H (.slice (some ⟨b, off, none⟩) n cap)) (by ((simp only [heap_alloc_get, heap_size_alloc, if_true]) <;> ((repeat' split) <;> first | rfl | omega))) hb1); have HL1 := Lib.hid (blkStay (b := w.heap.size + 1) (o := flObj sl) (by ((simp only [heap_alloc_get, heap_size_alloc, if_true]) <;> ((repeat' split) <;> first | rfl | omega))) hb1); have hB1 : Below w.heap.size w w1 := Below.trans (by repeat (first | exact Below.refl _ _ | refine Below.alloc ?_ (by first | omega | (simp; done) | (simp; omega)) _ | refine Below.setCell ?_ (by first | omega | (simp; done) | (simp; omega)) _ | refine Below.drew ?_)) (Below.mono hb1 (by first | omega | (simp; done) | (simp; omega))); obtain ⟨cF, fF, zF⟩ := blkC HF1.out; have zF1 : w.heap.size < w1.heap.size + 1 := (by omega); have zF2 : w.heap.size < w1.heap.size + 1 + 1 := (by omega); have zF3 : w.heap.size < w1.heap.size + 1 + 1 + 1 := (by omega); clear hb1 how1 hg1))
  have S1 := Lib.hid (l1_start (v := v) (b := b) (off := off) (cap := cap) (sl := sl) (X := X) (Y := Y) (W := W) (H := H) rfl (by simp) HF1.out HL1.out hB1 HO1.out)
  have ZSB := Lib.hid (HO1.out.lt sb rfl).2
  generalize w1.heap.size = hb at *
  clear cF fF zF zF1 zF2 zF3 HF1 HL1 hB1 HO1 GB1 mk CL
  have hinfo : (Tryd.prog.info? 3).map (fun i => (i.zero, i.size, i.bytes)) = some (some (.int .i64 0), 1, 8) := by kernel_rfl
  obtain ⟨i0, hi, hz0, hz1, hz2⟩ := info_parts hinfo
  clear hinfo
  go_loopw [23] (fun s23 wr => ∃ k : Nat, k ≤ n ∧ s23 = .int .i64 k ∧ L1At w X Y W H n b off cap sl hb sb scap v k wr) (fun s23 _ => n - (intOf s23).toNat)
  case atStart => exact ⟨0, Nat.zero_le _, rfl, S1.out⟩
  case round =>
    obtain ⟨k, hk, rfl, ov, m, c, h1⟩ := hrel
    have HL := Lib.hid h1
    obtain ⟨cF, fF, zF⟩ := blkC h1.stat.fld
    by_cases hlt : k < n
    · have IK := Lib.hid (IB.out k hlt)
      cases hbk : bdB W H k with
      | false =>
        rw [hbk] at IK
        have SK := Lib.hid (fun w2 hB => h1.skip (w2 := w2) hB hbk)
        clear hbk h1
        go_wp2_with (go_at_call 118; refine (IK.out _).mono ?_; rintro e w2 ⟨rfl, hb2⟩; have HB2 := Lib.hid hb2; clear hb2 cF fF zF)
        go_roundw
        case rel => exact ⟨k + 1, by omega, by go_num, ov, m, c, SK.out w2 HB2.out⟩
        case measure => simp [intOf]; omega
      | true =>
        rw [hbk] at IK
        have HBK := Lib.hid hbk
        clear hbk h1
        have k1 : (k : Int) < (n : Int) := by omega
        go_wp2_with (go_at_call 118; refine (IK.out _).mono ?_; rintro e w2 ⟨rfl, hb2⟩; have HB2 := Lib.hid hb2; clear hb2 cF fF zF; have ST2 := Lib.hid (HL.out.stat.below HB2.out); obtain ⟨cQ, fQ, zQ⟩ := blkC ST2.out.rsl; obtain ⟨b2, g2, z2⟩ := (HL.out.bools.congr (HB2.out.block _ HL.out.bools.lt)).cell hlt)
        obtain ⟨S3, obj3, own3, sown3, bools3⟩ := HL.out.reach HB2.out hlt ZSB.out
        obtain ⟨w3, hw3⟩ : ∃ w3, w2.setCell ⟨hb + 1 + 1, k, none⟩ (.bool true) = w3 := ⟨_, rfl⟩
        rw [hw3] at S3 obj3 own3 sown3 bools3 ⊢
        clear hw3 cQ fQ zQ b2 g2 z2
        obtain ⟨cP, fP, zP⟩ := blkC S3.ptr
        have p0 : w3.cell? ⟨hb + 1, 0, none⟩ = some (.pointer (some ⟨hb, 0, none⟩)) := cP 0
        obtain ⟨cO, fO, zO⟩ := blkC obj3
        have o0 : w3.cell? ⟨hb, 0, none⟩ = some ov := cO 0
        have ST3 := Lib.hid S3
        have OB3 := Lib.hid obj3
        have OW3 := Lib.hid own3
        have SO3 := Lib.hid sown3
        have BO3 := Lib.hid bools3
        have ML := Lib.hid HL.out.mle
        have LO := Lib.hid HL.out.stat.lo
        clear S3 obj3 own3 sown3 bools3 cP cO
        go_region_law (refine step_append_lies _ (by rfl) _ _ _ (by rfl) (hb + 1 + 1 + 1 + 1) 3 i0 _ 1 8 Tryd.underlying40 hi hz0 hz1 hz2 rfl (by omega) ov m (cellsL c m) (by rfl) (OW3.out.alloc _) ⟨w3.heap.size, 0, none⟩ 1 1 [.int .i64 (k : Int)] (by rfl) (by rfl) (World.news_of_block (cs := #[.int .i64 (k : Int)]) (t := 3) (fr := (0, 0)) (heap_alloc_new w3 _)) (by simp [Value.oneCell']) (by omega) (by have := ML.out; unfold maxLen; omega) (by have := ML.out; omega) (by have := (blkC ST3.out.rsl).2.2; simp; omega) (w3.heap.size + 1) (by simp) ?_; intro g' cap' w4 hown4 hgrow hat hlt4; have out4 := Lib.hid ((hgrow.block hb (by simp; omega) (ownsRow_far OW3.out (by omega))).trans ((heap_alloc_old _ _ zO).trans OB3.out)); obtain ⟨cV4, fV4, zV4⟩ := blkC out4.out; have pt4 := Lib.hid ((hgrow.block (hb + 1) (by simp; omega) (ownsRow_far OW3.out (by omega))).trans ((heap_alloc_old _ _ zP).trans ST3.out.ptr)); obtain ⟨cP4, fP4, zP4⟩ := blkC pt4.out)
        all_goals
          have HN1 := Lib.hid (L1.push ZSB.out HBK.out ST3.out OB3.out OW3.out SO3.out BO3.out HL.out.c1 HL.out.c2 HL.out.mle hgrow hown4)
          clear hown4 hgrow hat hlt4 cV4 fV4 zV4 cP4 fP4 zP4 o0 p0 fP fO zP zO
          go_wp2
          go_roundw
          case rel => exact ⟨k + 1, by omega, by go_num, _, _, _, HN1.out⟩
          case measure => simp [intOf]; omega
    · have hkn : k = n := by omega
      subst hkn
      have bd0 : bdB W H 0 = true := bdB_iff.2 (.inl (Nat.zero_mod _))
      obtain ⟨z0, hz0', _⟩ := h1.c2 0 (by omega) bd0
      obtain ⟨g, gcap, rfl, _, _⟩ := h1.own.form (show 0 < m by omega)
      have ME := Lib.hid (h1.heads hn1 hn2 ZSB.out)
      have gr : (gndOf W H v sl).n = k := HN.out.symm
      have C1 := Lib.hid h1.c1
      have C2 := Lib.hid h1.c2
      have OK := Lib.hid (show OkC k m c v from fun i hi => ⟨(h1.c1 i hi).1, (hgt_ok (G.out.hgt (c i) (by rw [gr]; exact (h1.c1 i hi).1))).val⟩)
      have GR := Lib.hid gr
      have ML := Lib.hid h1.mle
      obtain ⟨cP, fP, zP⟩ := blkC h1.stat.ptr
      clear h1 gr bd0 cF fF zF hlt
      go_wp2_with (go_at_call 119; refine (hinit_any _ hb sb k scap g gcap m c v ME.out.heads OK.out).mono ?_; rintro e w5 ⟨rfl, c5, hs5⟩; have S5 := Lib.hid hs5; clear hs5 cP fP zP)
      have L2S := Lib.hid (l2_start G.out HN.out ME.out S5.out.2.2.2 S5.out.1 S5.out.2.1 S5.out.2.2.1 C1.out C2.out ML.out hn2)
      clear ME C1 C2 OK S5 ML
      obtain ⟨N0, l2⟩ := L2S.out
      clear L2S
      refine wp_loop_ghost (fun N a wr => a.tmps.size = 98 ∧ (a.tmps[0]? = some (fldV X Y W H (.slice (some ⟨b, off, none⟩) k cap)) ∧ a.tmps[1]? = some (.float .f32 sl) ∧ a.tmps[2]? = some (.pointer (some ⟨w.heap.size, 0, none⟩)) ∧ a.tmps[3]? = some (.pointer (some ⟨w.heap.size + 1, 0, none⟩)) ∧
        a.tmps[5]? = some (.pointer (some ⟨hb + 1, 0, none⟩)) ∧ a.tmps[6]? = some (.pointer (some ⟨hb + 1 + 1 + 1, 0, none⟩))) ∧ Marks (hb + 1 + 1 + 1 + 1) wr a.defers ∧ L2At w X Y W H k b off cap v sl hb sb scap N wr) N0 ⟨rfl, ⟨rfl, rfl, rfl, rfl, rfl, rfl⟩, trivial, l2⟩ ?_
      rintro N ⟨tm, ds⟩ wr ⟨hsz, ⟨t0, t1, t2, t3, t5, t6⟩, hmk, c', s, R, m', g', gcap', h2⟩
      dsimp only at hsz t0 t1 t2 t3 t5 t6 hmk
      obtain ⟨u, rfl⟩ := slots98 tm hsz
      have q0 : u 0 = _ := Option.some.inj t0
      have q1 : u 1 = _ := Option.some.inj t1
      have q2 : u 2 = _ := Option.some.inj t2
      have q3 : u 3 = _ := Option.some.inj t3
      have q5 : u 5 = _ := Option.some.inj t5
      have q6 : u 6 = _ := Option.some.inj t6
      rw [q0, q1, q2, q3, q5, q6]
      clear q0 q1 q2 q3 q5 q6 t0 t1 t2 t3 t5 t6 hsz
      have HM := Lib.hid h2.mem
      have HF := Lib.hid h2.fil
      have HNUM := Lib.hid h2.num
      have HLE := Lib.hid h2.le
      have MK := Lib.hid hmk
      clear h2 hmk l2
      obtain ⟨cP, fP, zP⟩ := blkC HM.out.stat.ptr
      rcases Nat.eq_zero_or_pos m' with rfl | hm0
      · obtain ⟨cO, fO, zO⟩ := blkC HM.out.heads.obj
        go_wp2_with (go_at_call 120; refine (len_any wr hb sb k scap g' gcap' 0 c' s HM.out.heads).mono ?_; rintro e w' ⟨rfl, rfl⟩)
        exact leaves_marks ds wr MK.out fun w' g1 g2 g3 g4 g5 g6 => by refine ⟨_, results_tmp rfl _ _ _, ?_⟩; exact spill_end G.out HM.out HF.out (by have := HM.out.stat.lo; omega) g1 g2 g3 g4 g5 g6
      · obtain ⟨m, rfl⟩ : ∃ m, m' = m + 1 := ⟨m' - 1, by omega⟩
        obtain ⟨hok, hhp⟩ : OkC k (m + 1) c' s ∧ Heap (m + 1) (fun x => vI (s x)) c' := by
          obtain ⟨D, rk, t, F⟩ := HF.out
          exact ⟨fun i hi => by have q := F.okc i hi; exact ⟨by rw [← GR.out]; exact q.1, q.2⟩, F.heap⟩
        have m1 : (0 : Int) < ((m : Int) + 1) := by omega
        have PO := Lib.hid (pop_any wr hb sb k scap g' gcap' m c' s HM.out.heads hok hhp)
        have X0 := Lib.hid (hok 0 (by omega)).1
        have NE := Lib.hid (fun W' => neighbours_any X Y W H (c' 0) W' (by omega) (by omega) (by omega) (by omega) (by omega) (by omega) (by have := (hok 0 (by omega)).1; omega))
        have ta := assert_int
        clear hok hhp
        go_wp2_with (first | (go_at_call 120; refine (len_any wr hb sb k scap g' gcap' (m + 1) c' s HM.out.heads).mono ?_; rintro e w' ⟨rfl, rfl⟩) | (go_at_call 121; refine PO.out.mono ?_; rintro e w6 ⟨rfl, c6, hs6⟩; have S6 := Lib.hid hs6; have M6 := Lib.hid (HM.out.heapStep hs6.2.2.2 hs6.1 (.inl rfl)); clear hs6 cP fP zP; obtain ⟨cF, fF, zF⟩ := blkC M6.out.stat.fld) | (go_at_call 122; refine (NE.out _).mono ?_; rintro e w8 ⟨q, hq, rfl, hr8, hq8, hql, hb8⟩; have HQ := Lib.hid hq; have HR8 := Lib.hid hr8; have HQ8 := Lib.hid hq8; have HQL := Lib.hid hql; have HB8 := Lib.hid hb8; clear hq hr8 hq8 hql hb8 cF fF zF))
        have B8 := Lib.hid (show Below w6.heap.size w6 w8 from Below.trans (by repeat (first | exact Below.refl _ _ | refine Below.alloc ?_ (by first | omega | (simp; done) | (simp; omega)) _ | refine Below.setCell ?_ (by first | omega | (simp; done) | (simp; omega)) _ | refine Below.drew ?_)) (Below.mono HB8.out (by simp)))
        have M8 := Lib.hid (M6.out.below B8.out)
        have hlo := M8.out.stat.lo
        have zw8 : w.heap.size ≤ w8.heap.size := M8.out.stat.bel.size
        have z68 := B8.out.size
        have hl8 : hb + 1 + 1 + 1 < w6.heap.size := (blkC M6.out.stat.rsl).2.2
        have MK8 := Lib.hid (show Marks (hb + 1 + 1 + 1 + 1) w8 ds from MK.out.kept fun j hj hd => by
          have n1 : j ≠ g' := fun e => by
            obtain ⟨_, _ | ⟨g2, cap2, cur, hv, hg2, hh2, _⟩⟩ := HM.out.heads.own
            · rename_i q; cases q.1
            · cases hv; rw [e, hh2] at hd; cases hd
          exact blkStay ((S6.out.2.2.2.block j (Array.getElem?_eq_some_iff.1 hd).1 (by omega) n1).trans hd) B8.out)
        have DS := Lib.hid (fun e he D hD => MK8.out.lt e he D hD)
        have XB := Lib.hid (show X + ((c' 0 % W : Nat) : Int) ≤ 4194304 ∧ -4194304 ≤ X + ((c' 0 % W : Nat) : Int) from by
          have h : (c' 0) % W < W := Nat.mod_lt _ (by omega)
          generalize c' 0 % W = z at *
          omega)
        have YB := Lib.hid (show Y + ((c' 0 / W : Nat) : Int) ≤ 4194304 ∧ -4194304 ≤ Y + ((c' 0 / W : Nat) : Int) from by
          have h : (c' 0) / W < H := Nat.div_lt_of_lt_mul (by have := X0.out; have := HN.out; omega)
          generalize c' 0 / W = z at *
          omega)
        have D8 := Lib.hid (HD.out.stay M8.out.stat.bel)
        have I0 := Lib.hid (in_start (qq := q) M8.out HF.out S6.out.2.1 S6.out.2.2.1 HNUM.out HLE.out (blkStay (b := w6.heap.size) (o := .cells #[.int .i64 ((c' 0 : Nat) : Int)] 3) (by ((simp only [heap_alloc_get, if_true]) <;> ((repeat' split) <;> first | rfl | omega))) HB8.out) S6.out.1.cap1.2.2 MK8.out HQL.out)
        have r8 := HR8.out
        simp only [World.size_alloc] at r8
        have R8 := Lib.hid r8
        have q9 : w6.heap.size < q := by have := HQ.out; simp at this; omega
        clear r8
        refine (wpIn_wide (n := 4)).1 (wpIn_rangeFunc_ownG rfl (by omega) (gf := 147) (lb := #[.pointer (some ⟨w6.heap.size + 1, 0, none⟩), .pointer (some ⟨q, 0, none⟩)]) rfl trivial enters_nbr1
          (nbr_stops X Y (X + ((c' 0 % W : Nat) : Int)) (Y + ((c' 0 / W : Nat) : Int)) W H (c' 0) (w6.heap.size + 1) q 3 (by omega) (by omega) (by omega) (by omega) (by omega) (by omega) (by omega) (by have := X0.out; have := HN.out; omega) rfl rfl XB.out.2 XB.out.1 YB.out.2 YB.out.1 w8 D8.out R8.out HQ8.out)
          kpN_t (kpN_b (by have := HQL.out; omega) HQL.out D8.out.lt) (Below.refl _ _) (fun _ => rfl)
          (InAt w ds X Y W H k b off cap v sl hb sb scap N w6.heap.size q (c' 0)) (fun _ _ _ => False) (in_own zw8 DS.out) (fun _ _ _ _ _ h _ _ => h) I0.out
          (fun x => { tmps := #[fldV X Y W H (.slice (some ⟨b, off, none⟩) k cap), .float .f32 sl, .pointer (some ⟨w.heap.size, 0, none⟩), .pointer (some ⟨w.heap.size + 1, 0, none⟩), u 4, .pointer (some ⟨hb + 1, 0, none⟩), .pointer (some ⟨hb + 1 + 1 + 1, 0, none⟩), u 7, .pointer (some ⟨w6.heap.size, 0, none⟩), u 9, .int .i64 (x.1.2 : Int), u 11, u 12, u 13, u 14, u 15, u 16, u 17, u 18, u 19, u 20, u 21, u 22, u 23, u 24, u 25, u 26, u 27, u 28, u 29, u 30, u 31, u 32, u 33, u 34, u 35, u 36, u 37, u 38, u 39, u 40, u 41, u 42, u 43, u 44, u 45, u 46,
            .pointer (some ⟨hb, 0, none⟩), .int .i64 ((m : Int) + 1), .bool true, .pointer (some ⟨hb, 0, none⟩), .iface 133 (.pointer (some ⟨hb, 0, none⟩)), anyI (c' 0), .int .i64 ((c' 0 : Nat) : Int), .pointer (some ⟨w.heap.size, 0, none⟩), reg X Y W H, .int .i64 ((c' 0 : Nat) : Int),
            .func (.func 147) #[] #[.pointer (some ⟨w6.heap.size + 1, 0, none⟩), .pointer (some ⟨q, 0, none⟩)], .int .i64 (x.1.1 : Int), .int .i64 (x.1.2 : Int), u 60, u 61, u 62, u 63, u 64, u 65, u 66, u 67, u 68, u 69, u 70, u 71, u 72, u 73, u 74, u 75, u 76, u 77, u 78, u 79, u 80, u 81, u 82, u 83, u 84, u 85, u 86, u 87, u 88, u 89, u 90, u 91, u 92, u 93, u 94, u 95, u 96, u 97], defers := [] }) ?assign ?body ?done ?stop)
        case assign =>
          intro l x W1 K hK
          simp only [encNb, encN]
          gi_wp2
          exact hK
        case body =>
          rintro l pre x W1 ⟨c1, s1, R1, m1', g1, gcap1, hI⟩ hlen
          have HI := Lib.hid hI
          have XL := Lib.hid (show x.1.2 < k from by rw [← GR.out]; exact G.out.lt _ _ _ x.2.2)
          have xl : (x.1.2 : Int) < (k : Int) := by have := XL.out; omega
          obtain ⟨cQ, fQ, zQ⟩ := blkC hI.mem.stat.rsl
          obtain ⟨bl, bf, bz⟩ := hI.mem.bools.cell XL.out
          have OW := Lib.hid (fun W4 T => hI.owes (W4 := W4) (r := w6.heap.size + 1) (B := w8.heap.size) T (by omega) (by have := HQ.out; simp at this; omega) hl8 HD.out.lt)
          clear hI hlen
          cases hr : R1 x.1.2 with
          | true =>
            rw [hr] at bl
            have SK := Lib.hid (HI.out.skip G.out x hr)
            clear hr
            gi_wp2
            exact ⟨(OW.out _ (Turn.refl _ _ _ _)).1, (OW.out _ (Turn.refl _ _ _ _)).2, SK.out⟩
          | false =>
            rw [hr] at bl
            obtain ⟨y1, y2, y3, y4, y5, y6, rr, y7, y8⟩ := HI.out.ready G.out HN.out x hr
            have HR := Lib.hid hr
            clear hr
            gi_wp2
            have M2 := Lib.hid (HI.out.mem.reach XL.out)
            have T2 := Lib.hid ((Turn.refl hb sb g1 W1).set (p := ⟨hb + 1 + 1, x.1.2, none⟩) (.inr rfl) (.bool true))
            have BX := Lib.hid (show (W1.setCell ⟨hb + 1 + 1, x.1.2, none⟩ (.bool true)).heap[w6.heap.size]? = some (.cells #[.int .i64 ((c' 0 : Nat) : Int)] 3) from (heap_setCell_other _ _ _ _ (by show w6.heap.size ≠ hb + 1 + 1; omega)).trans HI.out.box)
            obtain ⟨W2, hW2⟩ : ∃ W2, W1.setCell ⟨hb + 1 + 1, x.1.2, none⟩ (.bool true) = W2 := ⟨_, rfl⟩
            rw [hW2] at M2 T2 BX ⊢
            clear hW2 cQ fQ zQ bl bf bz
            obtain ⟨cP, fP, zP⟩ := blkC M2.out.stat.ptr
            obtain ⟨cO, fO, zO⟩ := blkC M2.out.heads.obj
            obtain ⟨cF, fF, zF⟩ := blkC M2.out.stat.fld
            obtain ⟨cS, fS, zS⟩ := blkC M2.out.stat.slo
            obtain ⟨cB, fB, zB⟩ := blkC BX.out
            have d1 := (flAt_congr HC.out (M2.out.stat.bel.block b zb)) x.1.2 XL.out
            have d2 := M2.out.heads.sp (c' 0) X0.out
            have d3 := M2.out.heads.sp x.1.2 XL.out
            have f3 := M2.out.sown.frozenAt x.1.2
            rw [Nat.zero_add] at d2 d3
            have xc : ((c' 0 : Nat) : Int) < (k : Int) := by have := X0.out; omega
            have a1 := fun (W : World) => run_float_arith (P := Tryd.prog) W .add 27 .f32 (s1 (c' 0)) sl rr y7
            have ST := fun (w : World) (a : Addr) (m : Mode) => run_store_float (P := Tryd.prog) (w := w) (a := a) (m := m)
            refine wpIn_still_tail_round 21 (by kernel_rfl) ?nd ?nl (by kernel_rfl) ?_
            case nd =>
              intro i o h c e
              have hm := Array.mem_of_getElem? h
              simp only [List.mem_toArray, List.mem_cons, List.not_mem_nil, or_false] at hm
              rcases hm with rfl | rfl | rfl | rfl | rfl | rfl | rfl | rfl | rfl | rfl | rfl | rfl | rfl | rfl | rfl | rfl | rfl | rfl | rfl | rfl | rfl | rfl <;> cases e
            case nl => exact fun ⟨_, _, h⟩ => h
            simp only [List.take_succ_cons, List.take_zero, List.drop_succ_cons, List.drop_zero]
            repeat still_step
            still_call ((greater_any _ _ _).mono fun _ _ h => ⟨h.1, h.2.symm⟩)
            repeat still_step
            refine wpStill_nil ?_
            change wpList _ _ _ _ _ W2.drew
            have MD := Lib.hid (M2.out.below (Below.refl _ _).drew)
            have TD := Lib.hid T2.out.drew
            clear cP fP zP cO fO zO cF fF zF cS fS zS cB fB zB d1 d2 d3 f3 a1 T2 M2 BX
            generalize W2.drew = W3 at *
            have d3 := MD.out.heads.sp x.1.2 XL.out
            have f3 := MD.out.sown.frozenAt x.1.2
            rw [Nat.zero_add] at d3
            go_wp2
            have M4 := Lib.hid (MD.out.store (x := grtW (v x.1.2) rr) XL.out)
            have T4 := Lib.hid (TD.out.set (p := ⟨sb, x.1.2, none⟩) (.inl rfl) (.float .f32 (grtW (v x.1.2) rr)))
            obtain ⟨W5, hW5⟩ : ∃ W5, W3.setCell ⟨sb, x.1.2, none⟩ (.float .f32 (grtW (v x.1.2) rr)) = W5 := ⟨_, rfl⟩
            rw [hW5] at M4 T4 ⊢
            rw [← y8] at M4
            clear hW5 d3 f3
            obtain ⟨cP, fP, zP⟩ := blkC M4.out.stat.ptr
            have PU := Lib.hid (push_any W5 hb sb k scap g1 gcap1 m1' c1 _ M4.out.heads y4 y5 x.1.2 y3 XL.out y6)
            gi_wp2_with (refine ⟨trivial, ?_⟩; gi_at_call 123; refine (CallsIn.inRound l (callsIn_wide.2 PU.out)).mono ?_; rintro e W6 ⟨rfl, g', cap', c2, q1, q2, q3, q4, q5⟩; have Q := Lib.hid (And.intro q1 (And.intro q2 (And.intro q3 (And.intro q4 q5)))); clear q1 q2 q3 q4 q5 cP fP zP)
            have A := In.new G.out HN.out HI.out x HR.out M4.out T4.out HI.out.sz (by omega) (by omega) Q.out.1 Q.out.2.1 Q.out.2.2.1 Q.out.2.2.2.1 Q.out.2.2.2.2
            exact ⟨(OW.out _ A.2).1, (OW.out _ A.2).2, A.1⟩
        case done =>
          rintro D xs W1 hD hS hI hK
          obtain ⟨N', hlt, hl2⟩ := in_end hI hS
          obtain ⟨_, _, _, _, _, _, hIn⟩ := hI
          exact ⟨N', hlt, rfl, ⟨rfl, rfl, rfl, rfl, rfl, rfl⟩, ⟨⟨D, rfl, by omega, hK, fun e he hc => by have := DS.out e he D hc; omega⟩, hIn.marks⟩, hl2⟩
        case stop =>
          rintro D c pre W1 _ _ h _
          exact h.elim
end Go.Proofs.YtacbemilicdklaaDoor

/- Contracts: CheckWithin; Ease of both sides; the reference's operations of any words at all. -/
namespace Go.Proofs.YtacbemilicdklaaDoor
open Go.RowKit Fl
set_option linter.unusedVariables false

/-- The error of a single that should be from a to b. -/
def wiE (x a b : Nat) : Int := if finB x = false then 2 else if (FloatKind.f32.format.order x a == some .lt) = true ∨ (FloatKind.f32.format.order x b == some .gt) = true then 3 else 0

set_option maxHeartbeats 400000 in
theorem checkWithin_any (x a b : Nat) (w : World) :
    Calls Tryd.prog 67 #[.float .f32 x, .float .f32 a, .float .f32 b] w fun e w' => e = .returned (.int .i64 (wiE x a b)) ∧ w = w' := by
  have IH := Lib.hid (fun w => isFinite_any x w)
  unfold wiE
  cases hf : finB x with
  | false =>
    rw [hf] at IH
    clear hf
    go_enter Tryd.func67, Tryd.ntmps67
    go_wp2_with (go_at_call 117; refine (IH.out _).mono ?_; rintro e w' ⟨rfl, rfl⟩)
    go_ret
    exact ⟨ret_int rfl, rfl⟩
  | true =>
    rw [hf] at IH
    clear hf
    cases h1 : (FloatKind.f32.format.order x a == some .lt) with
    | true =>
      go_enter Tryd.func67, Tryd.ntmps67
      go_wp2_with (go_at_call 117; refine (IH.out _).mono ?_; rintro e w' ⟨rfl, rfl⟩)
      go_ret
      exact ⟨ret_int rfl, rfl⟩
    | false =>
      cases h2 : (FloatKind.f32.format.order x b == some .gt) with
      | true =>
        go_enter Tryd.func67, Tryd.ntmps67
        go_wp2_with (go_at_call 117; refine (IH.out _).mono ?_; rintro e w' ⟨rfl, rfl⟩)
        go_ret
        exact ⟨ret_int rfl, rfl⟩
      | false =>
        go_enter Tryd.func67, Tryd.ntmps67
        go_wp2_with (go_at_call 117; refine (IH.out _).mono ?_; rintro e w' ⟨rfl, rfl⟩)
        go_ret
        exact ⟨ret_int rfl, rfl⟩

theorem choose_loose (q : Question) (k : FloatKind) (w : World) : ∃ r n, ((do pure (Value.float k (← choose q))) : Sem Value).run Tryd.prog w = .ok (.float k r) (w.drewN n) := by
  by_cases h : q.forced = true
  · exact ⟨0, 0, by simp [h, World.drewN]⟩
  · exact ⟨q.cut (w.tape w.drawn q), 1, by simp [h]; rfl⟩

theorem conv_loose (src dst : TypeId) (s k : FloatKind) (b : Nat) (hs : (Tryd.prog.underlying src).isSome = true) (hd : Tryd.prog.underlying dst = some (.float k)) (w : World) :
    ∃ r n, (convert src dst (.float s b)).run Tryd.prog w = .ok (.float k r) (w.drewN n) := by
  obtain ⟨u, hs'⟩ := Option.isSome_iff_exists.1 hs
  have key : ∃ r n, (Conv.floatToFloat s b k).run Tryd.prog w = .ok (.float k r) (w.drewN n) := by
    unfold Conv.floatToFloat
    by_cases e : s = k
    · exact ⟨b, 0, by simp [e, World.drewN]⟩
    · rw [if_neg e]
      cases hd : s.decode b with
      | nan g f => exact choose_loose _ k w
      | infinity g => exact ⟨_, 0, rfl⟩
      | number g m i =>
        simp only
        split
        · exact choose_loose _ k w
        · exact ⟨_, 0, rfl⟩
  obtain ⟨r, n, h⟩ := key
  refine ⟨r, n, ?_⟩
  rw [← h]
  cases u <;> simp [convert, run_underlying hs', run_underlying hd]

theorem arith_loose (op : BinOp) (t : TypeId) (k : FloatKind) (x y : Nat) (ho : op = .add ∨ op = .sub ∨ op = .mul) (w : World) :
    ∃ r n, (binOp op t (.float k x) (.float k y)).run Tryd.prog w = .ok (.float k r) (w.drewN n) := by
  cases h : floatBits op k x y with
  | some r => exact ⟨r, 0, run_float_arith w op t k x y r h⟩
  | none =>
    obtain ⟨r, n, c⟩ := choose_loose (.nanBits k x y) k w
    refine ⟨r, n, ?_⟩
    rw [← c]
    unfold floatBits at h
    rcases ho with rfl | rfl | rfl
    all_goals simp only at h
    all_goals simp [binOp, Op.floatArith, h]

/-- Some single; the world has drawn at most. -/
def LooseF (w : World) (e : Ending) (w' : World) : Prop := ∃ r n, e = .returned (.float .f32 r) ∧ w' = w.drewN n

theorem drewN_two (w : World) (a b : Nat) : (w.drewN a).drewN b = w.drewN (a + b) := by simp [World.drewN, Nat.add_assoc]

end Go.Proofs.YtacbemilicdklaaDoor

/- Contracts: water's byCell, whatever function it is given; Filled over a right field and slope. -/
namespace Go.Proofs.YtacbemilicdklaaDoor
open Go.RowKit Fl Go.Shelf
set_option linter.unusedVariables false

theorem enters_wbyCell1 : Enters 125 := by intro args W; simp [callFunc, Tryd.func125, Tryd.f125]
theorem enters_Filled1 : Enters 70 := by intro args W; simp [callFunc, Tryd.func70, Tryd.f70]
theorem Clos1.stay {g : Nat} {caps : Array Value} {n : Nat} {f : Nat → Nat} {w w' : World} (h : Clos1 g caps n f w) (hb : Below w.heap.size w w') : Clos1 g caps n f w' :=
  fun i W' h1 hb' => h i W' h1 (hb.trans (hb'.mono hb.size))

/-- A function of a cell's number in a box. -/
abbrev fn1Obj (g : Nat) (caps : Array Value) : Obj := .cells #[.func (.func g) #[] caps] 104

set_option maxHeartbeats 4000000 in
set_option maxRecDepth 100000 in
theorem wbyCell1_any (X Y : Int) (W H n : Nat) (f : Nat → Nat) (g : Nat) (caps : Array Value) (p q : Nat) (w : World) (hcall : Enters g) (hcl : Clos1 g caps n f w)
    (hp : w.heap[p]? = some (regObj X Y W H)) (hq : w.heap[q]? = some (fn1Obj g caps)) (hn : n ≤ 65536)
    (hX1 : -16777216 ≤ X) (hX2 : X ≤ 16777216) (hY1 : -16777216 ≤ Y) (hY2 : Y ≤ 16777216) (hW1 : 1 ≤ W) (hW2 : W ≤ 512) (hH2 : H ≤ 512) (hnn : n = H * W) :
    Clos2 125 #[.pointer (some ⟨q, 0, none⟩), .pointer (some ⟨p, 0, none⟩)] X Y W H f w := by
  intro x y i w2 h1 h2 h3 h4 h5 hb
  have hi : i < n := num_lt hW1 h1 h2 h4 h5 hnn
  have CC := Lib.hid (fun W' (hB : Below w2.heap.size w2 W') => hcl i W' hi (hb.trans (hB.mono hb.size)))
  have IX := Lib.hid (fun w => index_any X Y W H i x y w hX1 hX2 hY1 hY2 hW1 hW2 hH2 h1 h2 h3 h4 h5 (by omega))
  have P := blkStay hp hb
  have Q := blkStay hq hb
  have HP := Lib.hid P
  have HQ := Lib.hid Q
  obtain ⟨cP, fP, zP⟩ := blkC P
  obtain ⟨cQ, fQ, zQ⟩ := blkC Q
  unfold Enters at hcall
  clear hp hq P Q hb h1 h2 h3 h4 h5 hX1 hX2 hY1 hY2 hW1 hW2 hH2 hnn hcl hi hn
  go_enter Tryd.func125, Tryd.ntmps125
  go_wp2
  go_region_held3 (fun w' => (∀ o, w'.cell? ⟨p, o, none⟩ = #[.int .i64 X, .int .i64 Y, .int .i64 W, .int .i64 H][o]?) ∧ (∀ o, w'.cell? ⟨q, o, none⟩ = #[.func (.func g) #[] caps][o]?) ∧ Below w2.heap.size w2 w') (first | exact ⟨(blkC (blkStay HP.out hb9)).1, (blkC (blkStay HQ.out hb9)).1, hb9⟩ | exact ⟨(blkC (blkStay HP.out (by repeat (first | exact Below.refl _ _ | refine Below.alloc ?_ (by first | omega | (simp; done) | (simp; omega)) _ | refine Below.setCell ?_ (by first | omega | (simp; done) | (simp; omega)) _ | refine Below.drew ?_)))).1, (blkC (blkStay HQ.out (by repeat (first | exact Below.refl _ _ | refine Below.alloc ?_ (by first | omega | (simp; done) | (simp; omega)) _ | refine Below.setCell ?_ (by first | omega | (simp; done) | (simp; omega)) _ | refine Below.drew ?_)))).1, (by repeat (first | exact Below.refl _ _ | refine Below.alloc ?_ (by first | omega | (simp; done) | (simp; omega)) _ | refine Below.setCell ?_ (by first | omega | (simp; done) | (simp; omega)) _ | refine Below.drew ?_))⟩) (first | (go_at_call 78; (with_reducible refine Calls.mono (IX.out _) ?_); rintro e w' ⟨rfl, rfl⟩) | (go_simp; (with_reducible refine Calls.mono (CC.out _ ?_) ?_); exact (by repeat (first | exact Below.refl _ _ | refine Below.alloc ?_ (by first | omega | (simp; done) | (simp; omega)) _ | refine Below.setCell ?_ (by first | omega | (simp; done) | (simp; omega)) _ | refine Below.drew ?_)); rintro e w' ⟨rfl, hb8⟩; have hb9 : Below w2.heap.size w2 w' := Below.trans (by repeat (first | exact Below.refl _ _ | refine Below.alloc ?_ (by first | omega | (simp; done) | (simp; omega)) _ | refine Below.setCell ?_ (by first | omega | (simp; done) | (simp; omega)) _ | refine Below.drew ?_)) (Below.mono hb8 (by first | exact Nat.le_refl _ | (simp; done) | (simp; omega))); clear hb8))
  rename_i hHeld
  go_wp2
  go_ret
  exact ⟨rfl, hHeld.2.2⟩

set_option maxHeartbeats 2000000 in
theorem wbyCell_any (X Y : Int) (W H n : Nat) (f : Nat → Nat) (g : Nat) (caps : Array Value) (w : World) (hcall : Enters g) (hcl : Clos1 g caps n f w) (h0 : checkR X Y W H = 0) (hnn : n = H * W) :
    Calls Tryd.prog 69 #[reg X Y W H, .func (.func g) #[] caps] w (MadePost w X Y W H n f) := by
  obtain ⟨b1, b2, b3, b4, b5, b6, b7, b8, b9⟩ := checkR_zero h0
  have hn2 : n ≤ 65536 := by
    have : ((W : Int) * (H : Int)) = (n : Int) := by rw [hnn, Nat.mul_comm]; simp
    omega
  have hB : Below w.heap.size w (((w.alloc (regObj X Y W H)).alloc (fn1Obj g caps)).alloc (fldO 0 0 0 0 (.slice none 0 0))) := (by repeat (first | exact Below.refl _ _ | refine Below.alloc ?_ (by first | omega | (simp; done) | (simp; omega)) _ | refine Below.setCell ?_ (by first | omega | (simp; done) | (simp; omega)) _ | refine Below.drew ?_))
  have MK := Lib.hid (make_ok X Y W H n 125 #[.pointer (some ⟨w.heap.size + 1, 0, none⟩), .pointer (some ⟨w.heap.size, 0, none⟩)] f (((w.alloc (regObj X Y W H)).alloc (fn1Obj g caps)).alloc (fldO 0 0 0 0 (.slice none 0 0))) enters_wbyCell1
    (wbyCell1_any X Y W H n f g caps w.heap.size (w.heap.size + 1) _ hcall (hcl.stay hB) (by ((simp only [heap_alloc_get, heap_size_alloc, if_true]) <;> ((repeat' split) <;> first | rfl | omega))) (by ((simp only [heap_alloc_get, heap_size_alloc, if_true]) <;> ((repeat' split) <;> first | rfl | omega))) hn2 (by omega) (by omega) (by omega) (by omega) (by omega) (by omega) (by omega) hnn) h0 hnn)
  clear hcl hcall h0 b1 b2 b3 b4 b5 b6 b7 b8 b9 hnn hn2 hB
  go_enter Tryd.func69, Tryd.ntmps69
  go_wp2_with fail
  refine MK.out.mono ?_
  intro e w4 hmade
  rcases hmade with ⟨hall, b', cap', rfl, hb', hlt', hrow, hbel⟩ | ⟨hall, rfl, hbel⟩
  · have hS := Lib.hid (blkStay (b := w.heap.size + 1 + 1) (o := fldO 0 0 0 0 (.slice none 0 0)) (by ((simp only [heap_alloc_get, heap_size_alloc, if_true]) <;> ((repeat' split) <;> first | rfl | omega))) hbel)
    have hB : Below w.heap.size w w4 := Below.trans (by repeat (first | exact Below.refl _ _ | refine Below.alloc ?_ (by first | omega | (simp; done) | (simp; omega)) _ | refine Below.setCell ?_ (by first | omega | (simp; done) | (simp; omega)) _ | refine Below.drew ?_)) (Below.mono hbel (by simp; omega))
    obtain ⟨cS, fS, zS⟩ := blkC hS.out
    have HB := Lib.hid hb'
    clear hb'
    go_wp2
    refine bodyPost_ret (v := .tuple #[fldV X Y W H (.slice (some ⟨b', 0, none⟩) n cap'), .int .i64 0]) (by simp [results, Tryd.results69, go_sem, cS]) rfl ?_
    have hb' := HB.out
    simp only [heap_size_alloc] at hb'
    exact .inl ⟨hall, b', cap', rfl, by omega, by rw [set5_size]; exact hlt', flAt_congr hrow (set5_heap w4 _ _ _ _ _ _ _ (by omega)), set5_below hB _ _ _ _ _ _ (by omega)⟩
  · have hS := Lib.hid (blkStay (b := w.heap.size + 1 + 1) (o := fldO 0 0 0 0 (.slice none 0 0)) (by ((simp only [heap_alloc_get, heap_size_alloc, if_true]) <;> ((repeat' split) <;> first | rfl | omega))) hbel)
    have hB : Below w.heap.size w w4 := Below.trans (by repeat (first | exact Below.refl _ _ | refine Below.alloc ?_ (by first | omega | (simp; done) | (simp; omega)) _ | refine Below.setCell ?_ (by first | omega | (simp; done) | (simp; omega)) _ | refine Below.drew ?_)) (Below.mono hbel (by simp; omega))
    obtain ⟨cS, fS, zS⟩ := blkC hS.out
    go_wp2
    refine bodyPost_ret (v := .tuple #[fldV 0 0 0 0 (.slice none 0 0), .int .i64 3]) (by simp [results, Tryd.results69, go_sem, cS]) rfl ?_
    exact .inr ⟨hall, rfl, set5_below hB _ _ _ _ _ _ (by omega)⟩

/-- A list of singles in a box. -/
abbrev rowO (b n cap : Nat) : Obj := .cells #[.slice (some ⟨b, 0, none⟩) n cap] 24

set_option maxHeartbeats 2000000 in
theorem filled1_any (n b cap : Nat) (s : Nat → Nat) (p : Nat) (w : World) (hp : w.heap[p]? = some (rowO b n cap)) (hc : FlAt w b 0 n s) (hn : n ≤ 65536) :
    Clos1 70 #[.pointer (some ⟨p, 0, none⟩)] n s w := by
  intro i w2 hi hb
  have hcell : w2.cell? ⟨b, i, none⟩ = some (.float .f32 (s i)) := by
    have := flAt_congr hc (hb.block b (World.block_lt_of_cell? w _ (hc i hi))) i hi
    rwa [Nat.zero_add] at this
  obtain ⟨cP, fP, zP⟩ := blkC (blkStay hp hb)
  have hi2 : (i : Int) < (n : Int) := by omega
  have hi3 : (0 : Int) ≤ (i : Int) := by omega
  clear hp hb hc hi hn
  go_enter Tryd.func70, Tryd.ntmps70
  go_wp2
  go_ret
  exact ⟨rfl, (by repeat (first | exact Below.refl _ _ | refine Below.alloc ?_ (by first | omega | (simp; done) | (simp; omega)) _ | refine Below.setCell ?_ (by first | omega | (simp; done) | (simp; omega)) _ | refine Below.drew ?_))⟩

set_option maxHeartbeats 1000000 in
theorem check_off (X Y : Int) (W H n b off cap : Nat) (v : Nat → Nat) (w : World) (h0 : checkR X Y W H = 0) (hn : n = W * H) (hc : FlAt w b off n v) (hh : allB n (fun i => hgtB (v i)) = true) :
    Calls Tryd.prog 66 #[fldV X Y W H (.slice (some ⟨b, off, none⟩) n cap)] w fun e w' => e = .returned (.int .i64 0) ∧ Below w.heap.size w w' := by
  have HH := Lib.hid (fldE_zero.2 hh)
  obtain ⟨b1, b2, b3, b4, b5, _⟩ := checkR_zero h0
  have en : wrap64 ((W : Int) * (H : Int)) = (n : Int) := by
    have : ((W : Int) * (H : Int)) = (n : Int) := by rw [hn]; simp
    rw [this]; rw [this] at b5; exact IntWalk.wrap64_in _ ⟨by omega, by omega⟩
  have hn2 : n ≤ 65536 := by
    have : ((W : Int) * (H : Int)) = (n : Int) := by rw [hn]; simp
    omega
  have h1 : 1 ≤ n := by
    have := Nat.mul_pos (by omega : 0 < W) (by omega : 0 < H)
    omega
  have hlt : b < w.heap.size := World.block_lt_of_cell? w _ (hc 0 h1)
  have CH := Lib.hid (fun W' (hb : Below w.heap.size w W') => CheckHeights_row b off cap n v (by omega) W' (flAt_congr hc (hb.block _ hlt)))
  rw [HH.out] at CH
  have RC := Lib.hid (fun w => checkRegion_any X Y W H w)
  rw [h0] at RC
  clear hn hc hh h0 b5
  go_enter Tryd.func66, Tryd.ntmps66
  go_wp2_with (first | (go_at_call 115; refine (RC.out _).mono ?_; rintro e w' ⟨rfl, rfl⟩) | (go_at_call 93; refine (CH.out _ (by repeat (first | exact Below.refl _ _ | refine Below.alloc ?_ (by first | omega | (simp; done) | (simp; omega)) _ | refine Below.setCell ?_ (by first | omega | (simp; done) | (simp; omega)) _ | refine Below.drew ?_))).mono ?_; rintro e w' ⟨rfl, rfl⟩))
  go_ret
  exact ⟨rfl, (by repeat (first | exact Below.refl _ _ | refine Below.alloc ?_ (by first | omega | (simp; done) | (simp; omega)) _ | refine Below.setCell ?_ (by first | omega | (simp; done) | (simp; omega)) _ | refine Below.drew ?_))⟩

/-- What Filled answers over a right field and slope. -/
def FilledPost (w : World) (X Y : Int) (W H n : Nat) (v : Nat → Nat) (sl : Nat) (e : Ending) (w' : World) : Prop := ∃ s, Spills (gndOf W H v sl) s ∧ MadePost w X Y W H n s e w'

set_option maxHeartbeats 2000000 in
theorem filled_any (X Y : Int) (W H n b off cap : Nat) (v : Nat → Nat) (sl : Nat) (w : World) (h0 : checkR X Y W H = 0) (hn : n = W * H) (hc : FlAt w b off n v) (hh : allB n (fun i => hgtB (v i)) = true) (hs : SlW sl) (hw : wiE sl 0 1149239296 = 0) (hD : DirsAt w) :
    Calls Tryd.prog 15 #[fldV X Y W H (.slice (some ⟨b, off, none⟩) n cap), .float .f32 sl] w (FilledPost w X Y W H n v sl) := by
  obtain ⟨b1, b2, b3, b4, b5, b6, b7, b8, b9⟩ := checkR_zero h0
  have hn2 : n ≤ 65536 := by
    have : ((W : Int) * (H : Int)) = (n : Int) := by rw [hn]; simp
    omega
  have hnn : n = H * W := by rw [hn]; exact Nat.mul_comm _ _
  have n1 : 1 ≤ n := by rw [hn]; exact Nat.mul_pos (by omega) (by omega)
  have hlt : b < w.heap.size := World.block_lt_of_cell? w _ (hc 0 n1)
  have CK := Lib.hid (fun W' (hB : Below w.heap.size w W') => check_off X Y W H n b off cap v W' h0 hn (flAt_congr hc (hB.block b hlt)) hh)
  have CW := Lib.hid (fun w => checkWithin_any sl 0 1149239296 w)
  rw [hw] at CW
  have LS := Lib.hid (fun W' (hB : Below w.heap.size w W') => leastSpills_any X Y W H n b off cap v sl W' h0 hn (flAt_congr hc (hB.block b hlt)) hh hs (hD.stay hB))
  have BY := Lib.hid (fun W' p sb scap s (kp : W'.heap[p]? = some (rowO sb n scap)) (ks : FlAt W' sb 0 n s) => wbyCell_any X Y W H n s 70 #[.pointer (some ⟨p, 0, none⟩)] W' enters_Filled1 (filled1_any n sb scap s p W' kp ks hn2) h0 hnn)
  clear h0 hn hc hh hs hw hD b1 b2 b3 b4 b5 b6 b7 b8 b9 hn2 hnn n1 hlt
  go_enter Tryd.func15, Tryd.ntmps15
  go_wp2_with (first | (go_at_call 66; refine (CK.out _ (by repeat (first | exact Below.refl _ _ | refine Below.alloc ?_ (by first | omega | (simp; done) | (simp; omega)) _ | refine Below.setCell ?_ (by first | omega | (simp; done) | (simp; omega)) _ | refine Below.drew ?_))).mono ?_; rintro e w2 ⟨rfl, hb2⟩; have HF2 := Lib.hid (blkStay (b := w.heap.size) (o := fldO X Y W H (.slice (some ⟨b, off, none⟩) n cap)) (by ((simp only [heap_alloc_get, heap_size_alloc, if_true]) <;> ((repeat' split) <;> first | rfl | omega))) hb2); have HL2 := Lib.hid (blkStay (b := w.heap.size + 1) (o := fldO 0 0 0 0 (.slice none 0 0)) (by ((simp only [heap_alloc_get, heap_size_alloc, if_true]) <;> ((repeat' split) <;> first | rfl | omega))) hb2); have hB2 : Below w.heap.size w w2 := Below.trans (by repeat (first | exact Below.refl _ _ | refine Below.alloc ?_ (by first | omega | (simp; done) | (simp; omega)) _ | refine Below.setCell ?_ (by first | omega | (simp; done) | (simp; omega)) _ | refine Below.drew ?_)) (Below.mono hb2 (by first | omega | (simp; done) | (simp; omega))); obtain ⟨cF, fF, zF⟩ := blkC HF2.out; clear hb2) | (go_at_call 67; refine (CW.out _).mono ?_; rintro e w' ⟨rfl, rfl⟩) | (go_at_call 68; refine (LS.out _ hB2).mono ?_; rintro e w3 ⟨s, sb, scap, rfl, s1, s2, s3, s4, s5, hb3⟩; clear cF fF zF; have HF3 := Lib.hid (blkStay HF2.out hb3); have HL3 := Lib.hid (blkStay HL2.out hb3); have hB3 := Lib.hid (hB2.trans (hb3.mono hB2.size)); obtain ⟨cF, fF, zF⟩ := blkC HF3.out; have S2 := Lib.hid s2; have S4 := Lib.hid s4; have S5 := Lib.hid s5; clear s1 s2 s3 s4 s5 hb3 hB2 HF2 HL2))
  refine (BY.out _ _ sb scap s (heap_alloc_new _ _) (flAt_congr S4.out (heap_alloc_old _ _ S2.out))).mono ?_
  intro e w4 hmade
  have hA : Below w3.heap.size w3 (w3.alloc (rowO sb n scap)) := (by repeat (first | exact Below.refl _ _ | refine Below.alloc ?_ (by first | omega | (simp; done) | (simp; omega)) _ | refine Below.setCell ?_ (by first | omega | (simp; done) | (simp; omega)) _ | refine Below.drew ?_))
  clear cF fF zF
  rcases hmade with ⟨hall, b', cap', rfl, hb', hlt', hrow, hbel⟩ | ⟨hall, rfl, hbel⟩
  · have h34 := hA.trans (hbel.mono hA.size)
    obtain ⟨cS, fS, zS⟩ := blkC (blkStay HL3.out h34)
    have zS3 := (blkC HL3.out).2.2
    have B4 := Lib.hid (hB3.out.trans (h34.mono hB3.out.size))
    have HB := Lib.hid (Nat.le_trans hA.size hb')
    clear hb' hA hbel h34
    go_wp2
    refine bodyPost_ret (v := .tuple #[fldV X Y W H (.slice (some ⟨b', 0, none⟩) n cap'), .int .i64 0]) (by simp [results, Tryd.results15, go_sem, cS]) rfl ?_
    have hb' := HB.out
    have z3 := hB3.out.size
    exact ⟨s, S5.out, .inl ⟨hall, b', cap', rfl, by omega, by rw [set5_size]; exact hlt', flAt_congr hrow (set5_heap w4 _ _ _ _ _ _ _ (by omega)), set5_below B4.out _ _ _ _ _ _ (by omega)⟩⟩
  · have h34 := hA.trans (hbel.mono hA.size)
    obtain ⟨cS, fS, zS⟩ := blkC (blkStay HL3.out h34)
    have zS3 := (blkC HL3.out).2.2
    have B4 := Lib.hid (hB3.out.trans (h34.mono hB3.out.size))
    clear hA hbel h34
    go_wp2
    refine bodyPost_ret (v := .tuple #[fldV 0 0 0 0 (.slice none 0 0), .int .i64 3]) (by simp [results, Tryd.results15, go_sem, cS]) rfl ?_
    exact ⟨s, S5.out, .inr ⟨hall, rfl, set5_below B4.out _ _ _ _ _ _ (by omega)⟩⟩
end Go.Proofs.YtacbemilicdklaaDoor

/- Contract: flows, which each law of chapters 4, 5, 6, 9 and 10 asks first. -/
namespace Go.Proofs.YtacbemilicdklaaDoor
open Go.RowKit Fl Go.Shelf
set_option linter.unusedVariables false

/-- The heights of flows' field: a pit within a wall. -/
def flowV (i : Nat) : Nat := if i = 4 then 0 else 1084227584
theorem flow_step : stepW 0 1084227584 0 = 1084227584 := by kernel_rfl
theorem flow_hgt : hgtB 1084227584 = true := by kernel_rfl
theorem flow_hgt0 : hgtB 0 = true := by kernel_rfl
theorem flow_wiE : wiE 0 0 1149239296 = 0 := by
  have e : decide (wiE 0 0 1149239296 = 0) = true := by kernel_rfl
  exact of_decide_eq_true e
theorem flow_slope : SlW 0 := ⟨0, vS_zero, Int.le_refl _, Int.mul_nonneg (by decide) (Int.natCast_nonneg _)⟩
theorem flow_checkR : checkR 0 0 3 3 = 0 := by decide
theorem flow_all : allB 9 (fun i => hgtB (flowV i)) = true := allB_iff.2 fun i hi => by
  unfold flowV
  by_cases h : i = 4
  · rw [if_pos h]; exact flow_hgt0
  · rw [if_neg h]; exact flow_hgt
theorem flow_spill {s : Nat → Nat} (S : Spills (gndOf 3 3 flowV 0) s) : s 4 = 1084227584 ∧ allB 9 (fun i => hgtB (s i)) = true := by
  have b : ∀ k, k < 9 → k ≠ 4 → s k = 1084227584 := fun k hk h4 => by
    have e : bdB 3 3 k = true := bdB_iff.2 (by omega)
    have q : s k = flowV k := S.bor k hk e
    rw [q]; unfold flowV; rw [if_neg h4]
  have c : s 4 = 1084227584 := by
    obtain ⟨rk, hr⟩ := S.par
    obtain ⟨p, hp, _, hlt, e⟩ := hr 4 (by show 4 < 3 * 3; omega) (by show bdB 3 3 4 = false; decide)
    have ne : p ≠ 4 := by rintro rfl; omega
    have q : s 4 = stepW 0 (s p) 0 := e
    rw [q, b p hp ne]; exact flow_step
  refine ⟨c, allB_iff.2 fun i hi => ?_⟩
  have : s i = 1084227584 := by
    by_cases h : i = 4
    · subst h; exact c
    · exact b i hi h
  rw [this]; exact flow_hgt

theorem flow_row (w : World) : FlAt (w.alloc (.cells #[.float .f32 1084227584, .float .f32 1084227584, .float .f32 1084227584, .float .f32 1084227584, .float .f32 0, .float .f32 1084227584, .float .f32 1084227584, .float .f32 1084227584, .float .f32 1084227584] 27)) w.heap.size 0 9 flowV := by
  intro i hi
  rw [Nat.zero_add, (blkC (heap_alloc_new w _)).1 i]
  have : i = 0 ∨ i = 1 ∨ i = 2 ∨ i = 3 ∨ i = 4 ∨ i = 5 ∨ i = 6 ∨ i = 7 ∨ i = 8 := by omega
  rcases this with rfl | rfl | rfl | rfl | rfl | rfl | rfl | rfl | rfl <;> rfl

theorem flowFilled_any (w : World) (b : Nat) (hc : FlAt w b 0 9 flowV) (hD : DirsAt w) :
    Calls Tryd.prog 15 #[fldV 0 0 3 3 (.slice (some ⟨b, 0, none⟩) 9 9), .float .f32 0] w (fun e w' => ∃ b' cap', e = .returned (.tuple #[fldV 0 0 3 3 (.slice (some ⟨b', 0, none⟩) 9 cap'), .int .i64 0]) ∧ w'.cell? ⟨b', 4, none⟩ = some (.float .f32 1084227584) ∧ Below w.heap.size w w') := by
  have F := filled_any 0 0 3 3 9 b 0 9 flowV 0 w flow_checkR rfl hc flow_all flow_slope flow_wiE hD
  refine Calls.mono F ?_
  rintro e w' ⟨s, S, h⟩
  obtain ⟨s4, sh⟩ := flow_spill S
  rcases h with ⟨_, b', cap', rfl, h1, h2, h3, h4⟩ | ⟨hno, _⟩
  · have q := h3 4 (by omega)
    rw [s4] at q
    exact ⟨b', cap', rfl, q, h4⟩
  · rw [sh] at hno; cases hno

set_option maxRecDepth 100000 in
set_option maxHeartbeats 4000000 in
theorem flows_any (w : World) (hD : DirsAt w) : Calls Tryd.prog 20 #[] w fun e w' => e = .returned (.bool true) ∧ Below w.heap.size w w' := by
  have FA := Lib.hid (fun W' b (hc : FlAt W' b 0 9 flowV) (hB : Below w.heap.size w W') => flowFilled_any W' b hc (hD.stay hB))
  clear hD
  go_enter Tryd.func20, Tryd.ntmps20
  go_wp2_with (first | (go_at_call 15; refine (FA.out _ _ (flow_row _) (by repeat (first | exact Below.refl _ _ | refine Below.alloc ?_ (by first | omega | (simp; done) | (simp; omega)) _ | refine Below.setCell ?_ (by first | omega | (simp; done) | (simp; omega)) _ | refine Below.drew ?_))).mono ?_; rintro e w2 ⟨b', cap', rfl, q, hb⟩; have hB2 : Below w.heap.size w w2 := Below.trans (by repeat (first | exact Below.refl _ _ | refine Below.alloc ?_ (by first | omega | (simp; done) | (simp; omega)) _ | refine Below.setCell ?_ (by first | omega | (simp; done) | (simp; omega)) _ | refine Below.drew ?_)) (Below.mono hb (by first | omega | (simp; done) | (simp; omega))); have z2 := World.block_lt_of_cell? w2 _ q; clear hb))
  go_ret
  exact ⟨rfl, hB2.alloc hB2.size _⟩
end Go.Proofs.YtacbemilicdklaaDoor

/- The sign of a quotient of singles; the root of a single, by the model's own root of a double: what it lies between. -/
namespace Go.Proofs.YtacbemilicdklaaDoor.Fl
open Ieee

theorem word_sign {sg : Bool} {V : Nat} {c : Int} (h : vS (wordAt single 925 sg V) = some c) : ∃ n : Nat, c = (if sg then -1 else 1) * (n : Int) := by
  by_cases hr : rungOf single 925 V < single.infRung
  · obtain ⟨M, I, q1, _, q3⟩ := read_val single sg (-1074) 925 leastS V hr
    rw [vS_num q1] at h
    have h' := Option.some.inj h
    rw [← h']; unfold vOf; rw [signed_eq]; exact ⟨_, rfl⟩
  · have e : wordAt single 925 sg V = single.word sg single.infRung := by unfold wordAt; rw [Nat.min_eq_right (by omega)]
    rw [e] at h
    have r : single.read (single.word sg single.infRung) = .infinity sg := by cases sg <;> decide
    unfold vS at h; rw [r] at h; cases h

theorem vOf_mag (s : Bool) (m : Nat) (p : Int) : vOf s m p = (if s then -1 else 1) * ((m * 2 ^ (p + 1074).toNat : Nat) : Int) := by unfold vOf; rw [signed_eq]

/-- A quotient of what is not below 0 by what is above 0 is not below 0. -/
theorem quo_sign {x y q : Nat} {a b c : Int} (h : Go.floatBits .quo .f32 x y = some q) (hx : vS x = some a) (hy : vS y = some b) (hc : vS q = some c) (a0 : 0 ≤ a) (b0 : 0 < b) : 0 ≤ c := by
  obtain ⟨s, m, i, e1, rfl⟩ := vS_some hx
  obtain ⟨t, n, j, e2, rfl⟩ := vS_some hy
  have g1 := read_single e1
  have g2 := read_single e2
  have l1 := g1.low
  have l2 := g2.low
  have q1 := g1.high
  have q2 := g2.high
  have s1 := g1.small
  have s2 := g2.small
  rw [vOf_mag] at a0 b0
  have p2 := Nat.two_pow_pos (j + 1074).toNat
  have ht : t = false := by
    cases t with
    | false => rfl
    | true =>
      rw [if_pos rfl] at b0
      have : (0 : Int) ≤ ((n * 2 ^ (j + 1074).toNat : Nat) : Int) := Int.natCast_nonneg _
      omega
  subst ht
  have hn : 0 < n := by
    rcases Nat.eq_zero_or_pos n with z | z
    · subst z; simp at b0
    · exact z
  have h' : ((single.read x).quotient (single.fractionBits + 2) (single.read y)).map single.write = some q := h
  rw [e1, e2] at h'
  rcases Nat.eq_zero_or_pos m with z | hm
  · subst z
    unfold Datum.quotient at h'
    simp only at h'
    rw [if_neg (by omega)] at h'
    simp only [Nat.zero_shiftLeft, Nat.zero_div, Nat.zero_mod, bne_self_eq_false, Bool.toNat_false, Nat.mul_zero, Nat.add_zero, Option.map_some] at h'
    have h2 : single.nearest (s ^^ false) 0 _ = q := Option.some.inj h'
    rw [nearest_zero, ← wordAt_zero single 925] at h2
    rw [← h2] at hc
    have := vS_word (sg := s ^^ false) (V := 0) (B := 1) (by omega) (by omega)
    rw [this, rd_zero] at hc
    have := Option.some.inj hc
    rw [← this]; simp
  · have hs : s = false := by
      cases s
      · rfl
      · have := Nat.mul_pos hm (Nat.two_pow_pos (i + 1074).toNat)
        simp only [if_true] at a0
        omega
    subst hs
    obtain ⟨T, hT⟩ : ∃ T : Nat, T = 1074 := ⟨_, rfl⟩
    have ln24 : n.log2 < 24 := log_lt (by rw [show (2 : Nat) ^ 24 = 16777216 by decide]; exact s2) (by omega)
    obtain ⟨ls, ks, hS, wS⟩ := quot_word single 925 leastS (s := false) (t := false) (m := m) (n := n) (i := i) (j := j) hm hn (by omega) (by omega) (by rw [fbS]; omega) hT
    rw [wS] at h'
    have h2 := Option.some.inj h'
    rw [← h2] at hc
    obtain ⟨u, hu⟩ := word_sign hc
    rw [hu]; simp

/-- The root's digits. -/
theorem rootFrom_spec (n : Nat) : ∀ (todo root : Nat), root * root ≤ n → n < (root + 2 ^ todo) * (root + 2 ^ todo) →
    (Datum.rootFrom n todo root) * (Datum.rootFrom n todo root) ≤ n ∧ n < (Datum.rootFrom n todo root + 1) * (Datum.rootFrom n todo root + 1)
  | 0, root, h1, h2 => by
    unfold Datum.rootFrom
    rw [Nat.pow_zero] at h2
    exact ⟨h1, h2⟩
  | todo + 1, root, h1, h2 => by
    unfold Datum.rootFrom
    simp only
    rw [Nat.one_shiftLeft]
    split
    · rename_i c
      refine rootFrom_spec n todo _ c ?_
      rw [Nat.pow_succ] at h2
      rw [show root + 2 ^ todo + 2 ^ todo = root + 2 ^ todo * 2 by omega]; exact h2
    · rename_i c
      exact rootFrom_spec n todo _ h1 (by omega)

theorem root_digits (n : Nat) : (Datum.rootFrom n (n.log2 / 2 + 1) 0) * (Datum.rootFrom n (n.log2 / 2 + 1) 0) ≤ n ∧ n < (Datum.rootFrom n (n.log2 / 2 + 1) 0 + 1) * (Datum.rootFrom n (n.log2 / 2 + 1) 0 + 1) := by
  refine rootFrom_spec n _ 0 (by simp) ?_
  rw [Nat.zero_add, ← Nat.pow_add]
  have : n < 2 ^ (n.log2 + 1) := Nat.lt_log2_self
  exact Nat.lt_of_lt_of_le this (two_le (by omega))

/-- The root of a single, as a word: the root of the double, turned into a single. -/
def rootW (x : Nat) : Nat := (((Go.floatToFloatBits .f32 x .f64).bind fun X => double.sqrt X).bind fun Z => Go.floatToFloatBits .f64 Z .f32).getD 0

/-- What the root of the single x with the value a comes to. -/
structure RootAt (x : Nat) (a : Int) (X Z : Nat) (c : Int) : Prop where
  up : Go.floatToFloatBits .f32 x .f64 = some X
  sq : double.sqrt X = some Z
  dn : Go.floatToFloatBits .f64 Z .f32 = some (rootW x)
  val : vS (rootW x) = some c
  nn : 0 ≤ c
  hi : ∀ g : Nat, g < 16777216 → a ≤ ((g * g : Nat) : Int) * (one : Int) → c ≤ (g : Int) * (one : Int)
  lo : ∀ g : Nat, g < 16777216 → ((g * g : Nat) : Int) * (one : Int) ≤ a → (g : Int) * (one : Int) ≤ c

theorem rdD_mono {V W : Nat} (h : V ≤ W) : rd double 0 V ≤ rd double 0 W := by
  rcases Nat.eq_zero_or_pos V with z | z
  · subst z; rw [rd_zero]; exact Nat.zero_le _
  have z' : 0 < W := by omega
  obtain ⟨l1, l2, l3⟩ := last_le double 0 V z
  obtain ⟨k1, k2, k3⟩ := last_le double 0 W z'
  unfold rd
  generalize lastOf double 0 V = l at *
  generalize lastOf double 0 W = k at *
  rw [fbD] at l2 l3 k2 k3
  have pl : 0 < 2 ^ l := Nat.two_pow_pos l
  have pk : 0 < 2 ^ k := Nat.two_pow_pos k
  rcases Nat.lt_trichotomy l k with c | c | c
  · -- W reaches a higher binade
    have a : rnq V (2 ^ l) ≤ 2 ^ 53 := by
      have := rnq_mono (M := 2 ^ l) pl (N := V) (N' := 2 ^ 53 * 2 ^ l) (by rw [← Nat.pow_add]; exact Nat.le_of_lt (by rwa [show 53 + l = l + 52 + 1 by omega]))
      rwa [rnq_mul _ _ pl] at this
    have b : 2 ^ 52 ≤ rnq W (2 ^ k) := by
      have e : 2 ^ (k + 52) ≤ W := by rcases k3 with x | x; omega; exact x
      have := rnq_mono (M := 2 ^ k) pk (N := 2 ^ 52 * 2 ^ k) (N' := W) (by rw [← Nat.pow_add, show 52 + k = k + 52 by omega]; exact e)
      rwa [rnq_mul _ _ pk] at this
    calc rnq V (2 ^ l) * 2 ^ l ≤ 2 ^ 53 * 2 ^ l := Nat.mul_le_mul_right _ a
      _ = 2 ^ (53 + l) := by rw [Nat.pow_add]
      _ ≤ 2 ^ (52 + k) := Nat.pow_le_pow_right (by omega) (by omega)
      _ = 2 ^ 52 * 2 ^ k := by rw [Nat.pow_add]
      _ ≤ rnq W (2 ^ k) * 2 ^ k := Nat.mul_le_mul_right _ b
  · subst c
    exact Nat.mul_le_mul_right _ (rnq_mono pl h)
  · exfalso
    rcases l3 with x | x
    · omega
    · have : 2 ^ (l + 52) < 2 ^ (k + 52 + 1) := Nat.lt_of_le_of_lt (Nat.le_trans x h) k2
      have := (Nat.pow_lt_pow_iff_right (by omega : 1 < 2)).1 this
      omega

theorem down_word {V B : Nat} (hB : V < 2 ^ B) (hB' : B < 1200) :
    Go.floatToFloatBits .f64 (wordAt double 0 false V) .f32 = some (wordAt single 925 false (rd double 0 V)) ∧ vS (wordAt single 925 false (rd double 0 V)) = some ((rd single 925 (rd double 0 V) : Nat) : Int) := by
  obtain ⟨M, I, r1, r2, r3⟩ := read_val double false (-1074) 0 leastD V (rungD_lt hB (by omega))
  have hl : double.leastPlace = -1074 := by decide
  rw [hl] at r2
  have hn := nearest_val single false (-1074) 925 leastS M (p := I) (by omega)
  rw [r3] at hn
  have hd : rd double 0 V ≤ 2 ^ B := by
    have e : rd double 0 (1 * 2 ^ B) = 1 * 2 ^ B := rd_exact double 0 1 B (by rw [fbD]; decide) (by omega)
    have m : rd double 0 V ≤ rd double 0 (1 * 2 ^ B) := rdD_mono (by omega)
    rw [e] at m; omega
  have hd' : rd double 0 V < 2 ^ (B + 1) := Nat.lt_of_le_of_lt hd (Nat.pow_lt_pow_right (by omega) (by omega))
  have hv := vS_word (sg := false) hd' (by omega)
  simp only [Bool.false_eq_true, if_false, Int.one_mul] at hv
  refine ⟨?_, hv⟩
  obtain ⟨M', I', q1, _, _⟩ := read_val single false (-1074) 925 leastS (rd double 0 V) (rungS_lt hd' (by omega))
  unfold Go.floatToFloatBits
  rw [if_neg (by decide)]
  have d : Go.FloatKind.f64.decode (wordAt double 0 false V) = .number false M I := r1
  simp only [d]
  have w : Go.FloatKind.f32.encode (.number false M I) = wordAt single 925 false (rd double 0 V) := hn
  rw [w]
  have d2 : Go.FloatKind.f32.decode (wordAt single 925 false (rd double 0 V)) = .number false M' I' := q1
  rw [d2]; rfl
end Go.Proofs.YtacbemilicdklaaDoor.Fl

/- The root of a single lies between whole numbers whose squares lie around it. -/
namespace Go.Proofs.YtacbemilicdklaaDoor.Fl
open Ieee

/-- Digits of a root, with what is left over told by one more digit, against a whole number. -/
theorem root_between {n w G : Nat} (h1 : w * w ≤ n) (h2 : n < (w + 1) * (w + 1)) :
    (n ≤ G * G → 2 * w + (w * w != n).toNat ≤ 2 * G) ∧ (G * G ≤ n → 2 * G ≤ 2 * w + (w * w != n).toNat) := by
  constructor
  · intro h
    have hw : w ≤ G := by
      rcases Nat.lt_or_ge G w with c | c
      · have : (G + 1) * (G + 1) ≤ w * w := Nat.mul_le_mul c c
        have e : (G + 1) * (G + 1) = G * G + 2 * G + 1 := by rw [Nat.add_mul, Nat.mul_add]; omega
        omega
      · exact c
    rcases Nat.lt_or_ge w G with c | c
    · have := Bool.toNat_le (w * w != n); omega
    · have : w = G := by omega
      subst this
      have : w * w = n := by omega
      rw [this]; simp
  · intro h
    have : G < w + 1 := by
      rcases Nat.lt_or_ge G (w + 1) with c | c
      · exact c
      · have := Nat.mul_le_mul c c; omega
    omega

theorem rootW_of {x X Z r : Nat} (c : Go.floatToFloatBits .f32 x .f64 = some X) (h : double.sqrt X = some Z) (d : Go.floatToFloatBits .f64 Z .f32 = some r) : rootW x = r := by
  unfold rootW
  rw [c, Option.bind_some, h, Option.bind_some, d, Option.getD_some]

theorem root_num {d M mo0 mo n w : Nat} {I : Int} (hM : M ≠ 0) (h0 : 2 * d - M.log2 = mo0) (h1 : mo0 + ((I - (mo0 : Int)) % 2).toNat = mo) (h2 : M <<< mo = n) (h3 : Datum.rootFrom n (n.log2 / 2 + 1) 0 = w) :
    Datum.root d (.number false M I) = some (.number false (2 * w + (w * w != n).toNat) ((I - (mo : Int)) / 2 - 1)) := by
  unfold Datum.root
  simp only [hM, if_false, Bool.false_eq_true, h0, h1, h2, h3]

theorem root_parts {x : Nat} {a : Int} {k : Nat} (h : vS x = some a) (a0 : 0 ≤ a) (hb : Bd k x) (hk : k ≤ 60) : ∃ X Z c, RootAt x a X Z c := by
  obtain ⟨s, m, p, e, rfl⟩ := vS_some h
  obtain ⟨X, M, I, c1, c2, c3, c4, c5⟩ := toD e
  have g := read_single e
  obtain ⟨A, hA⟩ : ∃ A, A = m * 2 ^ (p + 1074).toNat := ⟨_, rfl⟩
  have hv : vOf s m p = (if s then -1 else 1) * (A : Int) := by rw [vOf_mag, hA]
  have hbA : A ≤ 2 ^ (1074 + k) := by
    obtain ⟨s', m', p', e', b'⟩ := hb
    rw [e] at e'; cases e'
    rw [hA]; exact b'
  rw [← hA] at c4
  rcases Nat.eq_zero_or_pos M with zM | hM
  · -- nought
    subst zM
    have zA : A = 0 := by rw [← c4]; simp
    have hz : vOf s m p = 0 := by rw [hv, zA]; simp
    have hq : double.sqrt X = some (wordAt double 0 s 0) := by
      show ((double.read X).root _).map double.write = _
      rw [c2]
      unfold Datum.root
      simp only [if_true, Option.map_some]
      show some (double.nearest s 0 _) = _
      rw [nearest_zero, wordAt_zero]
    have hd : Go.floatToFloatBits .f64 (wordAt double 0 s 0) .f32 = some (wordAt single 925 s 0) := back (B := 1) (by omega) (by omega) (by show rungOf single 925 (rd double 0 0) = _; rw [rd_zero])
    have hw : rootW x = wordAt single 925 s 0 := rootW_of c1 hq hd
    have hvz := vS_word (sg := s) (V := 0) (B := 1) (by omega) (by omega)
    rw [rd_zero] at hvz
    simp only [Int.natCast_zero, Int.mul_zero] at hvz
    refine ⟨X, _, 0, c1, hq, by rw [hw]; exact hd, by rw [hw]; exact hvz, by omega, fun G _ _ => Int.mul_nonneg (by omega) (by omega), fun G _ hg => ?_⟩
    rw [hz] at hg
    have hp := one_pos
    have : G * G * one ≤ 0 := by
      have : ((G * G * one : Nat) : Int) ≤ ((0 : Nat) : Int) := by rw [Int.natCast_mul]; exact hg
      exact Int.ofNat_le.1 this
    have : G = 0 := by
      rcases Nat.eq_zero_or_pos G with z | z
      · exact z
      · have := Nat.mul_pos (Nat.mul_pos z z) hp; omega
    subst this; simp
  · have hm : 0 < A := by rw [← c4]; exact Nat.mul_pos hM (Nat.two_pow_pos _)
    have hs : s = false := by
      cases s
      · rfl
      · rw [hv] at a0; simp only [if_true] at a0; omega
    subst hs
    have hva : vOf false m p = (A : Int) := by rw [hv]; simp
    rw [hva]
    have hI := c5 (by omega)
    -- the dividend
    obtain ⟨mo0, hmo0⟩ : ∃ mo0, mo0 = 2 * (double.fractionBits + 2) - M.log2 := ⟨_, rfl⟩
    obtain ⟨mo, hmo⟩ : ∃ mo, mo = mo0 + ((I - (mo0 : Int)) % 2).toNat := ⟨_, rfl⟩
    obtain ⟨n, hn⟩ : ∃ n, n = M <<< mo := ⟨_, rfl⟩
    obtain ⟨w, hw⟩ : ∃ w, w = Datum.rootFrom n (n.log2 / 2 + 1) 0 := ⟨_, rfl⟩
    obtain ⟨d1, d2⟩ := root_digits n
    rw [← hw] at d1 d2
    have hr : (double.read X).root (double.fractionBits + 2) = some (.number false (2 * w + (w * w != n).toNat) ((I - (mo : Int)) / 2 - 1)) := by
      rw [c2]; exact root_num (by omega) hmo0.symm hmo.symm hn.symm hw.symm
    -- the place is even
    have heven : (I - (mo : Int)) % 2 = 0 := by
      rw [hmo]; have := Int.emod_two_eq (I - (mo0 : Int)); omega
    obtain ⟨hh, hhh⟩ : ∃ hh : Int, hh = (I - (mo : Int)) / 2 := ⟨_, rfl⟩
    have hI2 : I - (mo : Int) = 2 * hh := by omega
    rw [← hhh] at hr
    have l53 : M.log2 + (I + 1074).toNat < 1074 + k + 1 := by
      have := log_units (m := M) (B := 1074 + k + 1) (e := (I + 1074).toNat) hM (by rw [c4]; exact Nat.lt_of_le_of_lt hbA (Nat.pow_lt_pow_right (by omega) (by omega)))
      exact this
    rw [fbD] at hmo0
    have e1 : hh ≤ 0 := by omega
    have e2 : -400 ≤ hh := by omega
    -- units
    obtain ⟨E, hE⟩ : ∃ E : Nat, (E : Int) = hh + 1073 := ⟨(hh + 1073).toNat, by omega⟩
    obtain ⟨T, hT⟩ : ∃ T : Nat, T = 1074 := ⟨_, rfl⟩
    have hET : E + 1 ≤ T := by omega
    have hZ : double.sqrt X = some (wordAt double 0 false ((2 * w + (w * w != n).toNat) * 2 ^ E)) := by
      show ((double.read X).root _).map double.write = _
      rw [hr]
      show some (double.nearest false _ (hh - 1)) = _
      rw [nearest_val double false (-1074) 0 leastD _ (p := hh - 1) (by omega), show (hh - 1 - -1074).toNat = E by omega]
    -- the square in units
    have hsq : n * (2 ^ (E + 1) * 2 ^ (E + 1)) = A * 2 ^ T := by
      rw [hn, Nat.shiftLeft_eq, ← c4, Nat.mul_assoc, Nat.mul_assoc, ← Nat.pow_add, ← Nat.pow_add, ← Nat.pow_add]
      congr 2; omega
    have key : ∀ g : Nat, ∃ G : Nat, g * one = G * 2 ^ (E + 1) ∧ (A ≤ g * g * one ↔ n ≤ G * G) ∧ (g * g * one ≤ A ↔ G * G ≤ n) := by
      intro g
      refine ⟨g * 2 ^ (T - (E + 1)), ?_, ?_, ?_⟩
      · rw [one_pow hT, Nat.mul_assoc, ← Nat.pow_add, Nat.sub_add_cancel hET]
      all_goals
        have hp : 0 < 2 ^ (E + 1) * 2 ^ (E + 1) := Nat.mul_pos (Nat.two_pow_pos _) (Nat.two_pow_pos _)
        have e : g * 2 ^ (T - (E + 1)) * (g * 2 ^ (T - (E + 1))) * (2 ^ (E + 1) * 2 ^ (E + 1)) = g * g * one * 2 ^ T := by
          have e' : 2 ^ (T - (E + 1)) * 2 ^ (E + 1) = 2 ^ T := by rw [← Nat.pow_add, Nat.sub_add_cancel hET]
          rw [one_pow hT]
          calc g * 2 ^ (T - (E + 1)) * (g * 2 ^ (T - (E + 1))) * (2 ^ (E + 1) * 2 ^ (E + 1)) = g * g * ((2 ^ (T - (E + 1)) * 2 ^ (E + 1)) * (2 ^ (T - (E + 1)) * 2 ^ (E + 1))) := by
                simp only [Nat.mul_assoc, Nat.mul_left_comm, Nat.mul_comm]
            _ = g * g * 2 ^ T * 2 ^ T := by rw [e']; simp only [Nat.mul_assoc]
        constructor
        · intro q
          refine Nat.le_of_mul_le_mul_right ?_ hp
          rw [hsq, e]; exact Nat.mul_le_mul_right _ q
        · intro q
          have := Nat.mul_le_mul_right (2 ^ (E + 1) * 2 ^ (E + 1)) q
          rw [hsq, e] at this
          exact Nat.le_of_mul_le_mul_right this (Nat.two_pow_pos T)
    obtain ⟨V, hV⟩ : ∃ V, V = (2 * w + (w * w != n).toNat) * 2 ^ E := ⟨_, rfl⟩
    rw [← hV] at hZ
    have cmp : ∀ g : Nat, (A ≤ g * g * one → V ≤ g * one) ∧ (g * g * one ≤ A → g * one ≤ V) := by
      intro g
      obtain ⟨G, k1, k2, k3⟩ := key g
      obtain ⟨b1, b2⟩ := root_between (G := G) d1 d2
      have k4 : g * one = 2 * G * 2 ^ E := by rw [k1, Nat.pow_succ, Nat.mul_comm 2 G, Nat.mul_assoc, Nat.mul_comm 2 (2 ^ E)]
      rw [k4, hV]
      exact ⟨fun q => Nat.mul_le_mul_right _ (b1 (k2.1 q)), fun q => Nat.mul_le_mul_right _ (b2 (k3.1 q))⟩
    -- V is small
    have hVB : V < 2 ^ (T + 61) := by
      obtain ⟨L, hL⟩ : ∃ L : Nat, L = 60 := ⟨_, rfl⟩
      have e6 : A ≤ 2 ^ L * 2 ^ L * one := by
        refine Nat.le_trans hbA ?_
        rw [one_pow hT, ← Nat.pow_add, ← Nat.pow_add]
        exact two_le (by omega)
      have := (cmp (2 ^ L)).1 e6
      rw [one_pow hT, ← Nat.pow_add] at this
      exact Nat.lt_of_le_of_lt this (Nat.pow_lt_pow_right (by omega) (by omega))
    obtain ⟨q1, q2⟩ := down_word hVB (by omega)
    have hw2 : rootW x = wordAt single 925 false (rd double 0 V) := rootW_of c1 hZ q1
    -- whole numbers are not rounded
    have fix : ∀ g : Nat, g < 16777216 → rd double 0 (g * one) = g * one ∧ rd single 925 (g * one) = g * one := by
      intro g hg
      rw [one_pow hT]
      exact ⟨rd_exact double 0 g T (by rw [fbD]; exact Nat.lt_of_lt_of_le hg (by decide)) (by omega), rd_exact single 925 g T (by rw [fbS]; exact hg) (by omega)⟩
    refine ⟨X, _, _, c1, hZ, by rw [hw2]; exact q1, by rw [hw2]; exact q2, by omega, fun g hg ha => ?_, fun g hg ha => ?_⟩
    · have ha' : A ≤ g * g * one := by
        have : (A : Int) ≤ ((g * g * one : Nat) : Int) := by rw [Int.natCast_mul]; exact ha
        exact Int.ofNat_le.1 this
      have h1 := rdD_mono ((cmp g).1 ha')
      rw [(fix g hg).1] at h1
      have h2 := rd_mono h1
      rw [(fix g hg).2] at h2
      rw [← Int.natCast_mul]; exact Int.ofNat_le.2 h2
    · have ha' : g * g * one ≤ A := by
        have : ((g * g * one : Nat) : Int) ≤ (A : Int) := by rw [Int.natCast_mul]; exact ha
        exact Int.ofNat_le.1 this
      have h1 := rdD_mono ((cmp g).2 ha')
      rw [(fix g hg).1] at h1
      have h2 := rd_mono h1
      rw [(fix g hg).2] at h2
      rw [← Int.natCast_mul]; exact Int.ofNat_le.2 h2
end Go.Proofs.YtacbemilicdklaaDoor.Fl

/- How deep water cuts, as words: the products, the half: they are numbers. -/
namespace Go.Proofs.YtacbemilicdklaaDoor.Fl
open Ieee

/-- A whole number from 0 to 2 ^ 40 as a single. -/
theorem amt_val {n : Int} (h0 : 0 ≤ n) (h1 : n ≤ 1099511627776) : ∃ a, vS (Go.floatOfInt .f32 n) = some a ∧ 0 ≤ a ∧ a ≤ 1099511627776 * (one : Int) := by
  obtain ⟨j, hj⟩ : ∃ j : Nat, j = 1074 := ⟨_, rfl⟩
  have e40 : (2 : Nat) ^ 41 = 2199023255552 := by decide
  have e : 2 ^ (41 + j) = 2199023255552 * one := by rw [one_pow hj, Nat.pow_add, e40]
  have hn : (n * (one : Int)).natAbs < 2 ^ (41 + j) := by
    rw [Int.natAbs_mul, Int.natAbs_natCast, e]
    exact Nat.mul_lt_mul_of_pos_right (by omega) one_pos
  have v := vS_int hn (by omega)
  refine ⟨_, v, rdS_nonneg (Int.mul_nonneg h0 (Int.natCast_nonneg _)), ?_⟩
  have m := rdS_mono (Int.mul_le_mul_of_nonneg_right h1 (Int.natCast_nonneg one))
  have f40 : (2 : Nat) ^ 40 = 1099511627776 := by decide
  rwa [rdS_exact (c := 1099511627776 * (one : Int)) 1 (40 + j) (by decide) (by omega) (by rw [one_pow hj, Nat.pow_add, f40, Int.natCast_mul, Int.one_mul]; rfl)] at m

theorem amt_root {n : Int} (h0 : 0 ≤ n) (h1 : n ≤ 1099511627776) : ∃ a X Z c, RootAt (Go.floatOfInt .f32 n) a X Z c ∧ c ≤ 1048576 * (one : Int) := by
  obtain ⟨a, v, a0, a1⟩ := amt_val h0 h1
  obtain ⟨j, hj⟩ : ∃ j : Nat, j = 1074 := ⟨_, rfl⟩
  have f40 : (2 : Nat) ^ 40 = 1099511627776 := by decide
  have b : Bd 40 (Go.floatOfInt .f32 n) := bd_val' (j := 40 + j) v (by omega) (by rw [Nat.pow_add, f40, ← one_pow hj]; omega)
  obtain ⟨X, Z, c, R⟩ := root_parts v a0 b (by omega)
  exact ⟨a, X, Z, c, R, by simpa using R.hi 1048576 (by omega) (by simpa using a1)⟩
theorem root_bd {x X Z : Nat} {a c : Int} (R : RootAt x a X Z c) (h : c ≤ 1048576 * (one : Int)) : Bd 20 (rootW x) := by
  obtain ⟨j, hj⟩ : ∃ j : Nat, j = 1074 := ⟨_, rfl⟩
  have f20 : (2 : Nat) ^ 20 = 1048576 := by decide
  have := R.nn
  exact bd_val' (j := 20 + j) R.val (by omega) (by rw [Nat.pow_add, f20, ← one_pow hj]; omega)

def cutA (rate : Nat) (amount : Int) : Nat := (Go.floatBits .mul .f32 rate (rootW (Go.floatOfInt .f32 amount))).getD 0
def cutD (rate : Nat) (amount : Int) (drop : Nat) : Nat := (Go.floatBits .mul .f32 (cutA rate amount) drop).getD 0
def halfW (drop : Nat) : Nat := (Go.floatBits .mul .f32 drop 1056964608).getD 0
/-- The products of a cut. -/
structure CutAt (rate : Nat) (amount : Int) (drop : Nat) : Prop where
  m1 : Go.floatBits .mul .f32 rate (rootW (Go.floatOfInt .f32 amount)) = some (cutA rate amount)
  m2 : Go.floatBits .mul .f32 (cutA rate amount) drop = some (cutD rate amount drop)
  m3 : Go.floatBits .mul .f32 drop 1056964608 = some (halfW drop)

theorem vS_half {j : Nat} (hj : j = 1073) : vS 1056964608 = some ((2 ^ j : Nat) : Int) := by
  have h : single.read 1056964608 = .number false 8388608 (-24) := by decide
  rw [vS_lit (t := 1) (k := 23) (j := j) h (by decide) (by rw [hj]; decide)]; simp
theorem bd_half : Bd 0 1056964608 := by
  obtain ⟨j, hj⟩ : ∃ j : Nat, j = 1073 := ⟨_, rfl⟩
  exact bd_val' (j := j + 1) (vS_half hj) (by omega) (by rw [Int.natAbs_natCast]; exact Nat.pow_le_pow_right (by omega) (by omega))

theorem cut_parts {rate drop : Nat} {n : Int} (hr : Bd 20 rate) (hd : Bd 21 drop) (h0 : 0 ≤ n) (h1 : n ≤ 1099511627776) : CutAt rate n drop := by
  obtain ⟨a, X, Z, c, R, hc⟩ := amt_root h0 h1
  obtain ⟨_, _, _, p, _, _, _, _, e1, bp⟩ := (mul_same (a := 20) (b := 20) (by omega) hr (root_bd R hc)).ex
  obtain ⟨_, _, _, d, _, _, _, _, e2, bd⟩ := (mul_same (a := 40) (b := 21) (by omega) bp hd).ex
  obtain ⟨_, _, _, h, _, _, _, _, e3, bh⟩ := (mul_same (a := 21) (b := 0) (by omega) hd bd_half).ex
  have q1 : cutA rate n = p := by unfold cutA; rw [e1]; rfl
  have q2 : cutD rate n drop = d := by unfold cutD; rw [q1, e2]; rfl
  have q3 : halfW drop = h := by unfold halfW; rw [e3]; rfl
  exact ⟨by rw [q1]; exact e1, by rw [q1, q2]; exact e2, by rw [q3]; exact e3⟩
end Go.Proofs.YtacbemilicdklaaDoor.Fl

/- Contracts: math.Sqrt, and the roots of both sides. -/
namespace Go.Proofs.YtacbemilicdklaaDoor
open Go.RowKit Fl
set_option linter.unusedVariables false

theorem extSqrt (X Z : Nat) (h : FloatKind.f64.format.sqrt X = some Z) : Extern.MathSqrt.sqrt #[.float .f64 X] = pure (.float .f64 Z) := by
  conv => lhs; whnf
  rw [h]

theorem sqrt_num (X Z : Nat) (h : Ieee.double.sqrt X = some Z) (w : World) :
    (callFunc 136 #[.float .f64 X]).run Tryd.prog w = .ok (.value (.float .f64 Z)) w := by
  rw [run_callFunc_extern Tryd.func136 (by kernel_rfl) (by kernel_rfl) (by kernel_rfl) (e := Extern.MathSqrt.sqrt) (by kernel_rfl), extSqrt X Z h]
  rfl

set_option maxHeartbeats 400000 in
theorem mathSqrt_num (X Z : Nat) (h : Ieee.double.sqrt X = some Z) (w : World) :
    Calls Tryd.prog 105 #[.float .f64 X] w fun e w' => e = .returned (.float .f64 Z) ∧ w = w' := by
  have a1 := sqrt_num X Z h
  clear h
  go_enter Tryd.func105, Tryd.ntmps105
  go_wp2
  go_ret
  exact ⟨rfl, rfl⟩

set_option maxHeartbeats 400000 in
theorem root_any {x : Nat} {a c : Int} {X Z : Nat} (R : RootAt x a X Z c) (w : World) :
    Calls Tryd.prog 104 #[.float .f32 x] w fun e w' => e = .returned (.float .f32 (rootW x)) ∧ w = w' := by
  have d1 := fun (W : World) => run_convert_float_float (P := Tryd.prog) W 27 91 .f32 .f64 x X (by kernel_rfl) Tryd.underlying91 R.up
  have d2 := fun (W : World) => run_convert_float_float (P := Tryd.prog) W 91 27 .f64 .f32 Z (rootW x) (by kernel_rfl) Tryd.underlying27 R.dn
  have MS := Lib.hid (fun w => mathSqrt_num X Z R.sq w)
  generalize rootW x = r at *
  clear R
  go_enter Tryd.func104, Tryd.ntmps104
  go_wp2_with (go_at_call 105; refine (MS.out _).mono ?_; rintro e w' ⟨rfl, rfl⟩)
  go_ret
  exact ⟨rfl, rfl⟩

end Go.Proofs.YtacbemilicdklaaDoor

/- Contracts: CheckCarving, CarvingError; deep, Depth, DepthOf; the first error of three. -/
namespace Go.Proofs.YtacbemilicdklaaDoor
open Go.RowKit Fl
set_option linter.unusedVariables false

/-- How deep a cell is cut, as a word. -/
def depW (rate least most : Nat) (amount : Int) (drop : Nat) : Nat :=
  if amount < 1 ∨ (FloatKind.f32.format.order drop 0 == some .gt) = false then 0
  else if (FloatKind.f32.format.order (cutD rate amount drop) least == some .lt) = true then 0 else lesW (lesW (cutD rate amount drop) most) (halfW drop)

/-- A carving. -/
abbrev carV (rate least most : Nat) (steps : Int) : Value := .agg #[.float .f32 rate, .float .f32 least, .float .f32 most, .int .i64 steps]

abbrev carO (rate least most : Nat) (steps : Int) : Obj := .cells #[.float .f32 rate, .float .f32 least, .float .f32 most, .int .i64 steps] 68

set_option maxHeartbeats 400000 in
theorem qRoot_any {x : Nat} {a c : Int} {X Z : Nat} (R : RootAt x a X Z c) (w : World) :
    Calls Tryd.prog 55 #[.float .f32 x] w fun e w' => e = .returned (.float .f32 (rootW x)) ∧ w = w' := by
  have d1 := fun (W : World) => run_convert_float_float (P := Tryd.prog) W 27 91 .f32 .f64 x X (by kernel_rfl) Tryd.underlying91 R.up
  have d2 := fun (W : World) => run_convert_float_float (P := Tryd.prog) W 91 27 .f64 .f32 Z (rootW x) (by kernel_rfl) Tryd.underlying27 R.dn
  have MS := Lib.hid (fun w => mathSqrt_num X Z R.sq w)
  generalize rootW x = r at *
  clear R
  go_enter Tryd.func55, Tryd.ntmps55
  go_wp2_with (go_at_call 105; refine (MS.out _).mono ?_; rintro e w' ⟨rfl, rfl⟩)
  go_ret
  exact ⟨rfl, rfl⟩

/-- How deep, without errors: both sides. -/
def DepPost (w : World) (rate least most : Nat) (amount : Int) (drop : Nat) (e : Ending) (w' : World) : Prop :=
  e = .returned (.float .f32 (depW rate least most amount drop)) ∧ Below w.heap.size w w'

set_option maxHeartbeats 1000000 in
theorem deep_any (rate least most : Nat) (steps amount : Int) (drop : Nat) (d : Int) (w : World) (hr : Bd 20 rate) (hb : Bd 21 drop) (hd : vS drop = some d) (h0 : 0 ≤ amount) (h1 : amount ≤ 1099511627776) :
    Calls Tryd.prog 95 #[carV rate least most steps, .int .i64 amount, .float .f32 drop] w (DepPost w rate least most amount drop) := by
  obtain ⟨m1, m2, m3⟩ := cut_parts hr hb h0 h1
  obtain ⟨a, X, Z, c, R, _⟩ := amt_root h0 h1
  have RO := Lib.hid (fun w => root_any R w)
  have a1 := fun (W : World) => run_float_arith (P := Tryd.prog) W .mul 27 .f32 _ _ _ m1
  have a2 := fun (W : World) => run_float_arith (P := Tryd.prog) W .mul 27 .f32 _ _ _ m2
  have a3 := fun (W : World) => run_float_arith (P := Tryd.prog) W .mul 27 .f32 _ _ _ m3
  have t1 := leq_val hd vS_zero
  have t2 := gtr_val hd vS_zero
  rw [← f32f] at t1 t2
  unfold DepPost depW
  have LS := Lib.hid (fun x y w => lesser_any x y w)
  generalize cutA rate amount = A at *
  generalize cutD rate amount drop = D at *
  generalize halfW drop = F at *
  generalize rootW (floatOfInt .f32 amount) = r at *
  clear R m1 m2 m3 hr hb hd
  by_cases c1 : amount < 1
  · rw [if_pos (.inl c1)]
    clear a1 a2 a3 t1 t2 RO LS h0 h1
    go_enter Tryd.func95, Tryd.ntmps95
    go_wp2
    go_ret
    exact ⟨rfl, (by repeat (first | exact Below.refl _ _ | refine Below.alloc ?_ (by first | omega | (simp; done) | (simp; omega)) _ | refine Below.setCell ?_ (by first | omega | (simp; done) | (simp; omega)) _ | refine Below.drew ?_))⟩
  · by_cases c2 : d ≤ 0
    · rw [if_pos (.inr (by rw [t2]; simpa using c2))]
      rw [decide_eq_true c2] at t1
      clear a1 a2 a3 t2 RO LS h0 h1 c2
      go_enter Tryd.func95, Tryd.ntmps95
      go_wp2
      go_ret
      exact ⟨rfl, (by repeat (first | exact Below.refl _ _ | refine Below.alloc ?_ (by first | omega | (simp; done) | (simp; omega)) _ | refine Below.setCell ?_ (by first | omega | (simp; done) | (simp; omega)) _ | refine Below.drew ?_))⟩
    · rw [if_neg (by rw [t2]; simp; omega)]
      rw [decide_eq_false c2] at t1
      clear t2 h0 h1 c2
      cases c3 : (FloatKind.f32.format.order D least == some .lt) with
      | true =>
        rw [if_pos rfl]
        clear LS
        go_enter Tryd.func95, Tryd.ntmps95
        go_wp2
        go_quiet ((go_at_call 104; exact Calls.quiet_of_same ((RO.out _).mono fun _ _ h => ⟨h.1, h.2.symm⟩)))
        go_wp2
        go_ret
        exact ⟨rfl, (((Below.refl _ _).alloc (Nat.le_refl _) _).trans ((below_drewN _ _).mono (by simp)))⟩
      | false =>
        rw [if_neg (by simp)]
        go_enter Tryd.func95, Tryd.ntmps95
        go_wp2
        go_quiet ((go_at_call 104; exact Calls.quiet_of_same ((RO.out _).mono fun _ _ h => ⟨h.1, h.2.symm⟩)))
        go_wp2_with (go_at_call 134; refine (LS.out _ _ _).mono ?_; rintro e w' ⟨rfl, rfl⟩)
        go_ret
        exact ⟨rfl, (((Below.refl _ _).alloc (Nat.le_refl _) _).trans ((below_drewN _ _).mono (by simp)))⟩

set_option maxHeartbeats 1000000 in
theorem depthOf_any (rate least most : Nat) (steps amount : Int) (drop : Nat) (d : Int) (w : World) (hr : Bd 20 rate) (hb : Bd 21 drop) (hd : vS drop = some d) (h0 : 0 ≤ amount) (h1 : amount ≤ 1099511627776) :
    Calls Tryd.prog 47 #[carV rate least most steps, .int .i64 amount, .float .f32 drop] w (DepPost w rate least most amount drop) := by
  obtain ⟨m1, m2, m3⟩ := cut_parts hr hb h0 h1
  obtain ⟨a, X, Z, c, R, _⟩ := amt_root h0 h1
  have RO := Lib.hid (fun w => qRoot_any R w)
  have a1 := fun (W : World) => run_float_arith (P := Tryd.prog) W .mul 27 .f32 _ _ _ m1
  have a2 := fun (W : World) => run_float_arith (P := Tryd.prog) W .mul 27 .f32 _ _ _ m2
  have a3 := fun (W : World) => run_float_arith (P := Tryd.prog) W .mul 27 .f32 _ _ _ m3
  have t2 := gtr_val hd vS_zero
  rw [← f32f] at t2
  unfold DepPost depW
  generalize cutA rate amount = A at *
  generalize cutD rate amount drop = D at *
  generalize halfW drop = F at *
  generalize rootW (floatOfInt .f32 amount) = r at *
  clear R m1 m2 m3 hr hb hd
  by_cases c1 : amount < 1
  · rw [if_pos (.inl c1)]
    clear a1 a2 a3 t2 RO h0 h1
    go_enter Tryd.func47, Tryd.ntmps47
    go_wp2
    go_ret
    exact ⟨rfl, (by repeat (first | exact Below.refl _ _ | refine Below.alloc ?_ (by first | omega | (simp; done) | (simp; omega)) _ | refine Below.setCell ?_ (by first | omega | (simp; done) | (simp; omega)) _ | refine Below.drew ?_))⟩
  · by_cases c2 : d ≤ 0
    · rw [if_pos (.inr (by rw [t2]; simpa using c2))]
      rw [decide_eq_false (by omega)] at t2
      clear a1 a2 a3 RO h0 h1 c2
      go_enter Tryd.func47, Tryd.ntmps47
      go_wp2
      go_ret
      exact ⟨rfl, (by repeat (first | exact Below.refl _ _ | refine Below.alloc ?_ (by first | omega | (simp; done) | (simp; omega)) _ | refine Below.setCell ?_ (by first | omega | (simp; done) | (simp; omega)) _ | refine Below.drew ?_))⟩
    · rw [if_neg (by rw [t2]; simp; omega)]
      rw [decide_eq_true (by omega)] at t2
      clear h0 h1 c2
      unfold lesW
      cases c3 : (FloatKind.f32.format.order D least == some .lt) with
      | true =>
        rw [if_pos rfl]
        go_enter Tryd.func47, Tryd.ntmps47
        go_wp2
        go_quiet ((go_at_call 55; exact Calls.quiet_of_same ((RO.out _).mono fun _ _ h => ⟨h.1, h.2.symm⟩)))
        go_wp2
        go_ret
        exact ⟨rfl, (((Below.refl _ _).alloc (Nat.le_refl _) _).trans ((below_drewN _ _).mono (by simp)))⟩
      | false =>
        rw [if_neg (by simp)]
        cases c4 : (FloatKind.f32.format.order most D == some .lt) with
        | true =>
          simp only [if_true]
          cases c5 : (FloatKind.f32.format.order F most == some .lt) with
          | true =>
            rw [if_pos rfl]
            go_enter Tryd.func47, Tryd.ntmps47
            go_wp2
            go_quiet ((go_at_call 55; exact Calls.quiet_of_same ((RO.out _).mono fun _ _ h => ⟨h.1, h.2.symm⟩)))
            go_wp2
            go_ret
            exact ⟨rfl, (((Below.refl _ _).alloc (Nat.le_refl _) _).trans ((below_drewN _ _).mono (by simp)))⟩
          | false =>
            rw [if_neg (by simp)]
            go_enter Tryd.func47, Tryd.ntmps47
            go_wp2
            go_quiet ((go_at_call 55; exact Calls.quiet_of_same ((RO.out _).mono fun _ _ h => ⟨h.1, h.2.symm⟩)))
            go_wp2
            go_ret
            exact ⟨rfl, (((Below.refl _ _).alloc (Nat.le_refl _) _).trans ((below_drewN _ _).mono (by simp)))⟩
        | false =>
          simp only [Bool.false_eq_true, if_false]
          cases c5 : (FloatKind.f32.format.order F D == some .lt) with
          | true =>
            rw [if_pos rfl]
            go_enter Tryd.func47, Tryd.ntmps47
            go_wp2
            go_quiet ((go_at_call 55; exact Calls.quiet_of_same ((RO.out _).mono fun _ _ h => ⟨h.1, h.2.symm⟩)))
            go_wp2
            go_ret
            exact ⟨rfl, (((Below.refl _ _).alloc (Nat.le_refl _) _).trans ((below_drewN _ _).mono (by simp)))⟩
          | false =>
            rw [if_neg (by simp)]
            go_enter Tryd.func47, Tryd.ntmps47
            go_wp2
            go_quiet ((go_at_call 55; exact Calls.quiet_of_same ((RO.out _).mono fun _ _ h => ⟨h.1, h.2.symm⟩)))
            go_wp2
            go_ret
            exact ⟨rfl, (((Below.refl _ _).alloc (Nat.le_refl _) _).trans ((below_drewN _ _).mono (by simp)))⟩

/-- Three singles, as a list. -/
def three (a b c : Nat) (i : Nat) : Nat := if i = 0 then a else if i = 1 then b else c
theorem flAt_three {w : World} {p a b c : Nat} (h : w.heap[p]? = some (.cells #[.float .f32 a, .float .f32 b, .float .f32 c] 27)) : FlAt w p 0 3 (three a b c) := by
  intro i hi
  rw [Nat.zero_add, (blkC h).1 i]
  have : i = 0 ∨ i = 1 ∨ i = 2 := by omega
  rcases this with rfl | rfl | rfl <;> rfl
theorem three_hgt {a b c : Nat} (h : fldE 3 (three a b c) = 0) : hgtB a = true ∧ hgtB b = true ∧ hgtB c = true := by
  have := allB_iff.1 (fldE_zero.1 h)
  exact ⟨this 0 (by omega), this 1 (by omega), this 2 (by omega)⟩
/-- A carving's error behind its singles. -/
def carE2 (rate least most : Nat) (steps : Int) : Int :=
  if (FloatKind.f32.format.order rate 0 == some .lt) = true ∨ (FloatKind.f32.format.order rate 1065353216 == some .gt) = true ∨ (FloatKind.f32.format.order least 0 == some .lt) = true then 3
  else if (FloatKind.f32.format.order most least == some .lt) = true then 8 else if withinB steps 0 50 = true then 0 else 3
/-- A carving's error. -/
def carE (rate least most : Nat) (steps : Int) : Int := if fldE 3 (three rate least most) = 0 then carE2 rate least most steps else fldE 3 (three rate least most)

set_option maxHeartbeats 1000000 in
theorem checkCarving_any (rate least most : Nat) (steps : Int) (w : World) :
    Calls Tryd.prog 45 #[carV rate least most steps] w fun e w' => e = .returned (.int .i64 (carE rate least most steps)) ∧ Below w.heap.size w w' := by
  have CH := Lib.hid (fun p w (h : w.heap[p]? = some (.cells #[.float .f32 rate, .float .f32 least, .float .f32 most] 27)) => CheckHeights_row p 0 3 3 (three rate least most) (by omega) w (flAt_three h))
  have WI := Lib.hid (fun w => within_any steps 0 50 w)
  unfold carE
  generalize fldE 3 (three rate least most) = er at *
  by_cases h0 : er = 0
  · subst h0
    rw [if_pos rfl]
    unfold carE2
    generalize withinB steps 0 50 = wb at *
    cases c1 : (FloatKind.f32.format.order rate 0 == some .lt) <;> cases c2 : (FloatKind.f32.format.order rate 1065353216 == some .gt) <;> cases c3 : (FloatKind.f32.format.order least 0 == some .lt) <;>
      cases c4 : (FloatKind.f32.format.order most least == some .lt) <;> cases wb
    all_goals
      go_enter Tryd.func45, Tryd.ntmps45
      go_wp2_with (first | (go_at_call 93; refine (CH.out _ _ (by ((simp only [heap_alloc_get, heap_size_alloc, if_true]) <;> ((repeat' split) <;> first | rfl | omega)))).mono ?_; rintro e w' ⟨rfl, rfl⟩) | (go_at_call 94; refine (WI.out _).mono ?_; rintro e w' ⟨rfl, rfl⟩))
      go_ret
      exact ⟨ret_int (by simp), (by repeat (first | exact Below.refl _ _ | refine Below.alloc ?_ (by first | omega | (simp; done) | (simp; omega)) _ | refine Below.setCell ?_ (by first | omega | (simp; done) | (simp; omega)) _ | refine Below.drew ?_))⟩
  · rw [if_neg h0]
    have h1 : (er != 0) = true := by simpa using h0
    clear WI h0
    go_enter Tryd.func45, Tryd.ntmps45
    go_wp2_with (go_at_call 93; refine (CH.out _ _ (by ((simp only [heap_alloc_get, heap_size_alloc, if_true]) <;> ((repeat' split) <;> first | rfl | omega)))).mono ?_; rintro e w' ⟨rfl, rfl⟩)
    go_ret
    exact ⟨rfl, (by repeat (first | exact Below.refl _ _ | refine Below.alloc ?_ (by first | omega | (simp; done) | (simp; omega)) _ | refine Below.setCell ?_ (by first | omega | (simp; done) | (simp; omega)) _ | refine Below.drew ?_))⟩

set_option maxHeartbeats 1000000 in
theorem carvingError_any (rate least most : Nat) (steps : Int) (w : World) :
    Calls Tryd.prog 44 #[carV rate least most steps] w fun e w' => e = .returned (.int .i64 (carE rate least most steps)) ∧ Below w.heap.size w w' := by
  have CH := Lib.hid (fun p w (h : w.heap[p]? = some (.cells #[.float .f32 rate, .float .f32 least, .float .f32 most] 27)) => qNumberError_row p 0 3 3 (three rate least most) (by omega) w (flAt_three h))
  have WI := Lib.hid (show withinB steps 0 50 = decide (0 ≤ steps ∧ steps ≤ 50) by rw [Bool.eq_iff_iff, withinB_iff]; simp)
  unfold carE
  generalize fldE 3 (three rate least most) = er at *
  by_cases h0 : er = 0
  · subst h0
    rw [if_pos rfl]
    unfold carE2
    rw [WI.out]
    cases c1 : (FloatKind.f32.format.order rate 0 == some .lt) <;> cases c2 : (FloatKind.f32.format.order rate 1065353216 == some .gt) <;> cases c3 : (FloatKind.f32.format.order least 0 == some .lt) <;>
      cases c4 : (FloatKind.f32.format.order most least == some .lt)
    all_goals
      go_enter Tryd.func44, Tryd.ntmps44
      go_wp2_with (first | (go_at_call 18; refine (CH.out _ _ (by ((simp only [heap_alloc_get, heap_size_alloc, if_true]) <;> ((repeat' split) <;> first | rfl | omega)))).mono ?_; rintro e w' ⟨rfl, rfl⟩))
      all_goals go_ret
      all_goals exact ⟨ret_int (by simp <;> omega), (by repeat (first | exact Below.refl _ _ | refine Below.alloc ?_ (by first | omega | (simp; done) | (simp; omega)) _ | refine Below.setCell ?_ (by first | omega | (simp; done) | (simp; omega)) _ | refine Below.drew ?_))⟩
  · rw [if_neg h0]
    have h1 : (er != 0) = true := by simpa using h0
    clear WI h0
    go_enter Tryd.func44, Tryd.ntmps44
    go_wp2_with (go_at_call 18; refine (CH.out _ _ (by ((simp only [heap_alloc_get, heap_size_alloc, if_true]) <;> ((repeat' split) <;> first | rfl | omega)))).mono ?_; rintro e w' ⟨rfl, rfl⟩)
    go_ret
    exact ⟨rfl, (by repeat (first | exact Below.refl _ _ | refine Below.alloc ?_ (by first | omega | (simp; done) | (simp; omega)) _ | refine Below.setCell ?_ (by first | omega | (simp; done) | (simp; omega)) _ | refine Below.drew ?_))⟩
end Go.Proofs.YtacbemilicdklaaDoor

/- Contracts: Depth; the first of three errors; the law. -/
namespace Go.Proofs.YtacbemilicdklaaDoor
open Go.RowKit Fl Go.Shelf
set_option linter.unusedVariables false

theorem flAt_h1 {w : World} {p a : Nat} (h : w.heap[p]? = some (.cells #[.float .f32 a] 27)) : FlAt w p 0 1 (fun _ => a) := by
  intro i hi
  have : i = 0 := by omega
  subst this
  exact (blkC h).1 0
theorem bd_up {k l x : Nat} (h : Bd k x) (hl : k ≤ l) : Bd l x := by
  obtain ⟨s, m, p, e, b⟩ := h
  exact ⟨s, m, p, e, Nat.le_trans b (Nat.pow_le_pow_right (by omega) (by omega))⟩

/-- The error of Depth. -/
def depE (rate least most : Nat) (steps amount : Int) (drop : Nat) : Int :=
  firstE (firstE (carE rate least most steps) (fldE 1 (fun _ => drop))) (whenE (!withinB amount 0 1099511627776) 3)

theorem firstE_zero {a b : Int} (h : firstE a b = 0) : a = 0 ∧ b = 0 := by
  unfold firstE at h
  by_cases q : a = 0
  · rw [if_pos q] at h; exact ⟨q, h⟩
  · rw [if_neg q] at h; exact absurd h q
theorem whenE_zero {c : Bool} {k : Int} (hk : k ≠ 0) (h : whenE c k = 0) : c = false := by
  unfold whenE at h
  cases c with
  | false => rfl
  | true => rw [if_pos rfl] at h; exact absurd h hk
theorem carE_zero {rate least most : Nat} {steps : Int} (h : carE rate least most steps = 0) : hgtB rate = true ∧ hgtB least = true ∧ hgtB most = true ∧ 0 ≤ steps ∧ steps ≤ 50 := by
  unfold carE at h
  by_cases q : fldE 3 (three rate least most) = 0
  · rw [if_pos q] at h
    obtain ⟨a, b, c⟩ := three_hgt q
    unfold carE2 at h
    split at h
    · cases h
    · split at h
      · cases h
      · split at h
        · rename_i w; exact ⟨a, b, c, (withinB_iff.1 w).1, (withinB_iff.1 w).2⟩
        · cases h
  · rw [if_neg q] at h; exact absurd h q
theorem one_hgt {a : Nat} (h : fldE 1 (fun _ => a) = 0) : hgtB a = true := allB_iff.1 (fldE_zero.1 h) 0 (by omega)

set_option maxHeartbeats 1000000 in
theorem depth_no (rate least most : Nat) (steps amount : Int) (drop : Nat) (er : Int) (w : World) (he : depE rate least most steps amount drop = er) (hz : er ≠ 0) :
    Calls Tryd.prog 43 #[carV rate least most steps, .int .i64 amount, .float .f32 drop] w fun e w' => e = .returned (.tuple #[.float .f32 0, .int .i64 er]) ∧ Below w.heap.size w w' := by
  have CC := Lib.hid (fun w => checkCarving_any rate least most steps w)
  have CH := Lib.hid (fun p w (h : w.heap[p]? = some (.cells #[.float .f32 drop] 27)) => CheckHeights_row p 0 1 1 (fun _ => drop) (by omega) w (flAt_h1 h))
  have WI := Lib.hid (fun w => within_any amount 0 1099511627776 w)
  unfold depE at he
  generalize carE rate least most steps = r1 at *
  generalize fldE 1 (fun _ => drop) = r2 at *
  generalize withinB amount 0 1099511627776 = wb at *
  unfold firstE at he
  by_cases h1 : r1 = 0
  · subst h1
    by_cases h2 : r2 = 0
    · subst h2
      rw [if_pos (by rfl)] at he
      cases wb with
      | true => exact absurd he.symm hz
      | false =>
        have he' : (3 : Int) = er := he
        subst he'
        clear hz he
        go_enter Tryd.func43, Tryd.ntmps43
        go_wp2_with (first | (go_at_call 45; refine (CC.out _).mono ?_; rintro e w2 ⟨rfl, hb2⟩; obtain ⟨cF, fF, zF⟩ := blkC (blkStay (b := w.heap.size) (o := carO rate least most steps) (by (first | (rw [heap_alloc_get, if_pos rfl]; done) | ((simp only [heap_alloc_get, heap_size_alloc, if_true]) <;> ((repeat' split) <;> first | rfl | omega)))) hb2); have hB2 : Below w.heap.size w w2 := Below.trans (by repeat (first | exact Below.refl _ _ | refine Below.alloc ?_ (by first | omega | (simp; done) | (simp; omega)) _ | refine Below.setCell ?_ (by first | omega | (simp; done) | (simp; omega)) _ | refine Below.drew ?_)) (Below.mono hb2 (by first | omega | (simp; done) | (simp; omega))); clear hb2) | (go_at_call 93; refine (CH.out _ _ (by (first | (rw [heap_alloc_get, if_pos rfl]; done) | ((simp only [heap_alloc_get, heap_size_alloc, if_true]) <;> ((repeat' split) <;> first | rfl | omega))))).mono ?_; rintro e w' ⟨rfl, rfl⟩) | (go_at_call 94; refine (WI.out _).mono ?_; rintro e w' ⟨rfl, rfl⟩))
        go_ret2
        exact ⟨rfl, hB2.alloc hB2.size _⟩
    · rw [if_pos rfl, if_neg h2] at he
      subst he
      have h3 : (r2 != 0) = true := by simpa using h2
      clear h2 hz WI
      go_enter Tryd.func43, Tryd.ntmps43
      go_wp2_with (first | (go_at_call 45; refine (CC.out _).mono ?_; rintro e w2 ⟨rfl, hb2⟩; obtain ⟨cF, fF, zF⟩ := blkC (blkStay (b := w.heap.size) (o := carO rate least most steps) (by (first | (rw [heap_alloc_get, if_pos rfl]; done) | ((simp only [heap_alloc_get, heap_size_alloc, if_true]) <;> ((repeat' split) <;> first | rfl | omega)))) hb2); have hB2 : Below w.heap.size w w2 := Below.trans (by repeat (first | exact Below.refl _ _ | refine Below.alloc ?_ (by first | omega | (simp; done) | (simp; omega)) _ | refine Below.setCell ?_ (by first | omega | (simp; done) | (simp; omega)) _ | refine Below.drew ?_)) (Below.mono hb2 (by first | omega | (simp; done) | (simp; omega))); clear hb2) | (go_at_call 93; refine (CH.out _ _ (by (first | (rw [heap_alloc_get, if_pos rfl]; done) | ((simp only [heap_alloc_get, heap_size_alloc, if_true]) <;> ((repeat' split) <;> first | rfl | omega))))).mono ?_; rintro e w' ⟨rfl, rfl⟩))
      go_ret2
      exact ⟨rfl, hB2.alloc hB2.size _⟩
  · rw [if_neg h1, if_neg h1] at he
    subst he
    have h3 : (r1 != 0) = true := by simpa using h1
    clear h1 hz WI CH
    go_enter Tryd.func43, Tryd.ntmps43
    go_wp2_with (go_at_call 45; refine (CC.out _).mono ?_; rintro e w2 ⟨rfl, hb2⟩; obtain ⟨cF, fF, zF⟩ := blkC (blkStay (b := w.heap.size) (o := carO rate least most steps) (by (first | (rw [heap_alloc_get, if_pos rfl]; done) | ((simp only [heap_alloc_get, heap_size_alloc, if_true]) <;> ((repeat' split) <;> first | rfl | omega)))) hb2); have hB2 : Below w.heap.size w w2 := Below.trans (by repeat (first | exact Below.refl _ _ | refine Below.alloc ?_ (by first | omega | (simp; done) | (simp; omega)) _ | refine Below.setCell ?_ (by first | omega | (simp; done) | (simp; omega)) _ | refine Below.drew ?_)) (Below.mono hb2 (by first | omega | (simp; done) | (simp; omega))); clear hb2)
    go_ret2
    exact ⟨rfl, hB2⟩

set_option maxHeartbeats 1000000 in
theorem depth_ok (rate least most : Nat) (steps amount : Int) (drop : Nat) (w : World) (he : depE rate least most steps amount drop = 0) :
    Calls Tryd.prog 43 #[carV rate least most steps, .int .i64 amount, .float .f32 drop] w fun e w' => e = .returned (.tuple #[.float .f32 (depW rate least most amount drop), .int .i64 0]) ∧ Below w.heap.size w w' := by
  have CC := Lib.hid (fun w => checkCarving_any rate least most steps w)
  have CH := Lib.hid (fun p w (h : w.heap[p]? = some (.cells #[.float .f32 drop] 27)) => CheckHeights_row p 0 1 1 (fun _ => drop) (by omega) w (flAt_h1 h))
  have WI := Lib.hid (fun w => within_any amount 0 1099511627776 w)
  obtain ⟨h12, h3⟩ := firstE_zero he
  obtain ⟨h1, h2⟩ := firstE_zero h12
  have h3' := whenE_zero (by omega) h3
  rw [Bool.not_eq_false'] at h3'
  obtain ⟨a0, a1⟩ := withinB_iff.1 h3'
  have hr := hgt_bd (carE_zero h1).1
  have hd := one_hgt h2
  obtain ⟨d, vd, _⟩ := hgt_vT hd
  have DE := Lib.hid (fun w => deep_any rate least most steps amount drop d w hr (bd_up (hgt_bd hd) (by omega)) vd a0 a1)
  rw [h1] at CC
  rw [h2] at CH
  rw [h3'] at WI
  clear h1 h2 h3 h3' h12 he a0 a1 hr hd vd
  go_enter Tryd.func43, Tryd.ntmps43
  go_wp2_with (first | (go_at_call 45; refine (CC.out _).mono ?_; rintro e w2 ⟨rfl, hb2⟩; obtain ⟨cF, fF, zF⟩ := blkC (blkStay (b := w.heap.size) (o := carO rate least most steps) (by (first | (rw [heap_alloc_get, if_pos rfl]; done) | ((simp only [heap_alloc_get, heap_size_alloc, if_true]) <;> ((repeat' split) <;> first | rfl | omega)))) hb2); have hB2 : Below w.heap.size w w2 := Below.trans (by repeat (first | exact Below.refl _ _ | refine Below.alloc ?_ (by first | omega | (simp; done) | (simp; omega)) _ | refine Below.setCell ?_ (by first | omega | (simp; done) | (simp; omega)) _ | refine Below.drew ?_)) (Below.mono hb2 (by first | omega | (simp; done) | (simp; omega))); clear hb2) | (go_at_call 93; refine (CH.out _ _ (by (first | (rw [heap_alloc_get, if_pos rfl]; done) | ((simp only [heap_alloc_get, heap_size_alloc, if_true]) <;> ((repeat' split) <;> first | rfl | omega))))).mono ?_; rintro e w' ⟨rfl, rfl⟩) | (go_at_call 94; refine (WI.out _).mono ?_; rintro e w' ⟨rfl, rfl⟩) | (go_at_call 95; refine (DE.out _).mono ?_; rintro e w3 ⟨rfl, hb3⟩; have hB3 : Below w.heap.size w w3 := (hB2.alloc hB2.size _).trans (hb3.mono (by have := hB2.size; simp; omega)); clear hb3))
  go_ret2
  exact ⟨rfl, hB3⟩

inductive First3At (a b c : Int) : Value → Prop where
  | z : First3At a b c (.int .i64 0)
  | a (h : a = 0) : First3At a b c (.int .i64 1)
  | b (h : a = 0) (h' : b = 0) : First3At a b c (.int .i64 2)
  | c (h : a = 0) (h' : b = 0) (h'' : c = 0) : First3At a b c (.int .i64 3)
set_option maxHeartbeats 1000000 in
theorem first3_any (a b c : Int) (p : Nat) (w : World) (h : w.heap[p]? = some (.cells #[.int .i64 a, .int .i64 b, .int .i64 c] 28)) :
    Calls Tryd.prog 16 #[.slice (some ⟨p, 0, none⟩) 3 3] w fun e w' => e = .returned (.int .i64 (firstE (firstE a b) c)) ∧ w = w' := by
  unfold firstE
  obtain ⟨cc, f, z⟩ := blkC h
  clear h
  go_enter Tryd.func16, Tryd.ntmps16
  go_wp2
  go_loop [7] (fun i => First3At a b c i) (fun i => 3 - (intOf i).toNat)
  case atStart => exact .z
  case round =>
    rcases hrel with _ | ha | ⟨ha, hb⟩ | ⟨ha, hb, hc⟩
    · by_cases h0 : a = 0
      · subst h0
        go_wp2
        go_round
        case rel => exact .a rfl
        case measure => simp [intOf]
      · go_wp2
        go_ret
        exact ⟨by first | (simp; done) | simp [h0], rfl⟩
    · subst ha
      by_cases h0 : b = 0
      · subst h0
        go_wp2
        go_round
        case rel => exact .b rfl rfl
        case measure => simp [intOf]
      · go_wp2
        go_ret
        exact ⟨by first | (simp; done) | simp [h0], rfl⟩
    · subst ha hb
      by_cases h0 : c = 0
      · subst h0
        go_wp2
        go_round
        case rel => exact .c rfl rfl rfl
        case measure => simp [intOf]
      · go_wp2
        go_ret
        exact ⟨by first | (simp; done) | simp [h0], rfl⟩
    · subst ha hb hc
      go_wp2
      go_ret
      exact ⟨rfl, rfl⟩
end Go.Proofs.YtacbemilicdklaaDoor

/- The floor of a single, by the model's own rounding of a double to a whole number. -/
namespace Go.Proofs.YtacbemilicdklaaDoor.Fl
open Ieee

/-- Down to a whole number: the magnitude. -/
theorem cut_down (s : Bool) (M k : Nat) : Toward.down.cut s M k = M / 2 ^ k + (s && decide (M % 2 ^ k ≠ 0)).toNat := by
  unfold Toward.cut
  simp only [Nat.one_shiftLeft]
  rcases Nat.le_total k (M.log2 + 2) with c | c
  · rw [Nat.min_eq_left c]
    congr 2
    simp [bne, BEq.beq]
  · rw [Nat.min_eq_right c]
    have h : M < 2 ^ (M.log2 + 2) := by
      rcases Nat.eq_zero_or_pos M with z | z
      · subst z; exact Nat.two_pow_pos _
      · exact Nat.lt_trans (Nat.lt_log2_self) (Nat.pow_lt_pow_right (by omega) (by omega))
    have h' : M < 2 ^ k := Nat.lt_of_lt_of_le h (Nat.pow_le_pow_right (by omega) c)
    rw [Nat.div_eq_of_lt h, Nat.div_eq_of_lt h', Nat.mod_eq_of_lt h, Nat.mod_eq_of_lt h']
    congr 2
    simp [bne, BEq.beq]

/-- The whole part of a double's magnitude, rounded down. -/
theorem integral_down {s : Bool} {M : Nat} {I : Int} {A : Nat} (hI : -1074 ≤ I) (hA : M * 2 ^ (I + 1074).toNat = A) :
    (Datum.number s M I).integral .down = .number s (A / one + (s && decide (A % one ≠ 0)).toNat) 0 := by
  show Datum.number s (Toward.down.cut s (M <<< I.toNat) (-I).toNat) 0 = _
  rw [cut_down, Nat.shiftLeft_eq]
  congr 1
  obtain ⟨j, hj⟩ : ∃ j : Nat, j = 1074 := ⟨_, rfl⟩
  rcases Int.le_total 0 I with c | c
  · have e : (I + 1074).toNat = I.toNat + j := by omega
    rw [e, Nat.pow_add, ← Nat.mul_assoc] at hA
    rw [show (-I).toNat = 0 by omega, Nat.pow_zero, Nat.div_one, Nat.mod_one, ← hA, one_pow hj, Nat.mul_div_cancel _ (Nat.two_pow_pos j), Nat.mul_mod_left]
  · obtain ⟨k, hk⟩ : ∃ k : Nat, k = (-I).toNat := ⟨_, rfl⟩
    have eo : one = 2 ^ k * 2 ^ (I + 1074).toNat := one_split (by omega)
    have p : 0 < 2 ^ (I + 1074).toNat := Nat.two_pow_pos _
    have hdec : decide (M % 2 ^ k * 2 ^ (I + 1074).toNat ≠ 0) = decide (M % 2 ^ k ≠ 0) := by
      generalize 2 ^ (I + 1074).toNat = P at *
      rw [decide_eq_decide]
      constructor
      · intro h h'; exact h (by rw [h', Nat.zero_mul])
      · intro h h'
        rcases Nat.mul_eq_zero.1 h' with x | x
        · exact h x
        · omega
    rw [show I.toNat = 0 by omega, Nat.pow_zero, Nat.mul_one, ← hk, ← hA, eo, Nat.mul_div_mul_right _ _ p, Nat.mul_mod_mul_right, hdec]

/-- The floor of a value. -/
def flV (a : Int) : Int := a / (one : Int) * (one : Int)

theorem fl_sign {O A : Nat} (hO : 0 < O) {s : Bool} {a : Int} (ha : a = (if s then -1 else 1) * (A : Int)) : (if s then -1 else 1) * (((A / O + (s && decide (A % O ≠ 0)).toNat) * O : Nat) : Int) = a / (O : Int) * (O : Int) := by
  have hd := Nat.div_add_mod A O
  have hr := Nat.mod_lt A hO
  have key : a / (O : Int) = (if s then -1 else 1) * ((A / O + (s && decide (A % O ≠ 0)).toNat : Nat) : Int) := by
    cases s with
    | false =>
      simp at ha ⊢
      rw [ha]
    | true =>
      generalize A / O = q at *
      generalize A % O = r at *
      simp only [if_true, Bool.true_and] at *
      have e : (A : Int) = (O : Int) * (q : Int) + (r : Int) := by rw [← Int.natCast_mul, ← Int.natCast_add, hd]
      rw [ha, e]
      by_cases z : r = 0
      · subst z
        have : (-1 : Int) * ((O : Int) * (q : Int) + ((0 : Nat) : Int)) = (O : Int) * (-(q : Int)) := by grind
        rw [this, Int.mul_ediv_cancel_left _ (by omega)]; simp
      · have : (-1 : Int) * ((O : Int) * (q : Int) + (r : Int)) = ((O : Int) - r) + (O : Int) * (-((q : Int) + 1)) := by grind
        rw [this, Int.add_mul_ediv_left _ _ (by omega), Int.ediv_eq_zero_of_lt (by omega) (by omega)]
        simp [z]
  rw [key, Int.natCast_mul, Int.mul_assoc]

theorem flV_sign {s : Bool} {A : Nat} {a : Int} (ha : a = (if s then -1 else 1) * (A : Int)) : (if s then -1 else 1) * (((A / one + (s && decide (A % one ≠ 0)).toNat) * one : Nat) : Int) = flV a := fl_sign one_pos ha

theorem whole_small {O A c : Nat} (hO : 0 < O) (h : c = A / O ∨ c = A / O + 1) : c * O ≤ A + O := by
  have hd := Nat.div_add_mod A O
  rcases h with rfl | rfl
  · rw [Nat.mul_comm]; omega
  · rw [Nat.succ_mul, Nat.mul_comm]; omega

/-- The word of a floor. -/
def flW (x : Nat) : Nat := ((Go.floatToFloatBits .f32 x .f64).bind fun X => Go.floatToFloatBits .f64 (double.write ((double.read X).integral .down)) .f32).getD 0

theorem floor_parts {x : Nat} {a : Int} {k : Nat} (h : vS x = some a) (hb : Bd k x) (hk : k ≤ 50) :
    ∃ X s M I F, Go.floatToFloatBits .f32 x .f64 = some X ∧ double.read X = .number s M I ∧ double.write ((double.read X).integral .down) = F ∧ Go.floatToFloatBits .f64 F .f32 = some (flW x) ∧ vS (flW x) = some (flV a) := by
  obtain ⟨s, m, p, e, rfl⟩ := vS_some h
  obtain ⟨X, M, I, c1, c2, c3, c4, _⟩ := toD e
  obtain ⟨A, hA⟩ : ∃ A, A = m * 2 ^ (p + 1074).toNat := ⟨_, rfl⟩
  have hv : vOf s m p = (if s then -1 else 1) * (A : Int) := by unfold vOf; rw [signed_eq, hA]
  have hbA : A ≤ 2 ^ (1074 + k) := by
    obtain ⟨s', m', p', e', b'⟩ := hb
    rw [e] at e'; cases e'
    rw [hA]; exact b'
  obtain ⟨t, j, ht, hj, hform⟩ := vS_form h
  have hAf : A = t.natAbs * 2 ^ j := by
    have := congrArg Int.natAbs hform
    rw [hv, Int.natAbs_mul, Int.natAbs_mul, Int.natAbs_natCast, Int.natAbs_natCast] at this
    cases s <;> simpa using this
  rw [← hA] at c4
  have hi := integral_down (s := s) c3 c4
  obtain ⟨c, hc⟩ : ∃ c, c = A / one + (s && decide (A % one ≠ 0)).toNat := ⟨_, rfl⟩
  rw [← hc] at hi
  obtain ⟨J, hJ⟩ : ∃ J : Nat, J = 1074 := ⟨_, rfl⟩
  have hw : double.write ((double.read X).integral .down) = wordAt double 0 s (c * one) := by
    rw [c2, hi]
    show double.nearest s c 0 = _
    rw [nearest_val double s (-1074) 0 leastD c (p := 0) (by omega), one_pow hJ, show ((0 : Int) - (-1074)).toNat = J by omega]
  -- the magnitude of the floor is a single's
  have hrep : ∃ u i, u < 16777216 ∧ 925 ≤ i ∧ c * one = u * 2 ^ i := by
    by_cases z : A % one = 0
    · refine ⟨t.natAbs, j, ht, hj, ?_⟩
      rw [← hAf, hc, z]
      have := Nat.div_add_mod A one
      rw [z, Nat.add_zero, Nat.mul_comm] at this
      simp [this]
    · have hj2 : j < J := by
        rcases Nat.lt_or_ge j J with q | q
        · exact q
        · exfalso; apply z
          have : A = t.natAbs * 2 ^ (j - J) * one := by rw [hAf, one_pow hJ, Nat.mul_assoc, ← Nat.pow_add, Nat.sub_add_cancel q]
          rw [this, Nat.mul_mod_left]
      have hlt : A < 8388608 * one := by
        have e1 : one = 2 * 2 ^ (J - 1) := by rw [one_pow hJ, ← Nat.pow_succ']; congr 1; omega
        rw [hAf, e1]
        have e2 : 2 ^ j ≤ 2 ^ (J - 1) := Nat.pow_le_pow_right (by omega) (by omega)
        have p1 : 0 < 2 ^ (J - 1) := Nat.two_pow_pos _
        calc t.natAbs * 2 ^ j ≤ t.natAbs * 2 ^ (J - 1) := Nat.mul_le_mul_left _ e2
          _ < 16777216 * 2 ^ (J - 1) := Nat.mul_lt_mul_of_pos_right ht p1
          _ = 8388608 * (2 * 2 ^ (J - 1)) := by rw [← Nat.mul_assoc]
      refine ⟨c, J, ?_, by omega, by rw [one_pow hJ]⟩
      have hq : A / one < 8388608 := Nat.div_lt_of_lt_mul (by rw [Nat.mul_comm]; exact hlt)
      have hb1 : (s && decide (A % one ≠ 0)).toNat ≤ 1 := Bool.toNat_le _
      generalize A / one = Q at *
      generalize (s && decide (A % one ≠ 0)).toNat = B1 at *
      omega
  obtain ⟨u, i, hu, hi2, hcu⟩ := hrep
  have hV : c * one < 2 ^ (1074 + k + 1 + 1) := by
    have hb1 : c = A / one ∨ c = A / one + 1 := by
      rw [hc]; cases (s && decide (A % one ≠ 0)) <;> simp
    have h1 := whole_small one_pos hb1
    have h2 : one ≤ 2 ^ (1074 + k) := by rw [one_pow hJ]; exact Nat.pow_le_pow_right (by omega) (by omega)
    rw [Nat.pow_succ, Nat.pow_succ]
    have p1 : 0 < 2 ^ (1074 + k) := Nat.two_pow_pos _
    generalize 2 ^ (1074 + k) = T at *
    generalize c * one = CO at *
    generalize one = O at *
    omega
  have hround : sRung (dVal (c * one)) = sRung (c * one) := by
    rw [hcu]; exact exact_round (Nat.lt_of_lt_of_le hu (by decide))
  have hback := back (sg := s) hV (by omega) hround
  have hfl : flW x = wordAt single 925 s (c * one) := by
    unfold flW
    rw [c1]
    show (Go.floatToFloatBits .f64 (double.write ((double.read X).integral .down)) .f32).getD 0 = _
    rw [hw, hback]; rfl
  refine ⟨X, s, M, I, _, c1, c2, rfl, by rw [hw, hback, hfl], ?_⟩
  rw [hfl, vS_word hV (by omega), hcu, rd_exact single 925 u i (by rw [fbS]; exact hu) hi2, ← hcu, hc, flV_sign hv]

end Go.Proofs.YtacbemilicdklaaDoor.Fl

/- Contracts: math.Floor, and the floors of both sides. -/
namespace Go.Proofs.YtacbemilicdklaaDoor
open Go.RowKit Fl
set_option linter.unusedVariables false

theorem toIntegral_num (X : Nat) (d : Ieee.Datum) (h : FloatKind.f64.decode X = d) (hd : ∃ s M I, d = .number s M I) :
    Extern.MathFloor.toIntegral "math.archFloor" .down #[.float .f64 X] = pure (.float .f64 (FloatKind.f64.encode (d.integral .down))) := by
  obtain ⟨s, M, I, rfl⟩ := hd
  conv => lhs; whnf
  rw [h]

theorem archFloor_num (X : Nat) (s : Bool) (M : Nat) (I : Int) (h : Ieee.double.read X = .number s M I) (w : World) :
    (callFunc 113 #[.float .f64 X]).run Tryd.prog w = .ok (.value (.float .f64 (Ieee.double.write ((Ieee.double.read X).integral .down)))) w := by
  rw [run_callFunc_extern Tryd.func113 (by kernel_rfl) (by kernel_rfl) (by kernel_rfl) (e := Extern.MathFloor.toIntegral "math.archFloor" .down) (by kernel_rfl), toIntegral_num X _ rfl ⟨s, M, I, h⟩]
  rfl

set_option maxHeartbeats 400000 in
theorem mathFloor_num (X F : Nat) (s : Bool) (M : Nat) (I : Int) (h : Ieee.double.read X = .number s M I) (hF : Ieee.double.write ((Ieee.double.read X).integral .down) = F) (w : World) :
    Calls Tryd.prog 60 #[.float .f64 X] w fun e w' => e = .returned (.float .f64 F) ∧ w = w' := by
  have a1 := archFloor_num X s M I h
  rw [hF] at a1
  clear h hF
  go_enter Tryd.func60, Tryd.ntmps60
  go_wp2
  go_ret
  exact ⟨rfl, rfl⟩

set_option maxHeartbeats 400000 in
theorem floor_any (x k : Nat) (a : Int) (h : vS x = some a) (hb : Bd k x) (hk : k ≤ 50) (w : World) :
    Calls Tryd.prog 112 #[.float .f32 x] w fun e w' => e = .returned (.float .f32 (flW x)) ∧ w = w' := by
  obtain ⟨X, s, M, I, F, c1, c2, c3, c4, _⟩ := floor_parts h hb hk
  have d1 := fun (W : World) => run_convert_float_float (P := Tryd.prog) W 27 91 .f32 .f64 x X (by kernel_rfl) Tryd.underlying91 c1
  have d2 := fun (W : World) => run_convert_float_float (P := Tryd.prog) W 91 27 .f64 .f32 F (flW x) (by kernel_rfl) Tryd.underlying27 c4
  have MF := Lib.hid (fun w => mathFloor_num X F s M I c2 c3 w)
  clear c1 c2 c3 c4 h hb
  go_enter Tryd.func112, Tryd.ntmps112
  go_wp2_with (go_at_call 60; refine (MF.out _).mono ?_; rintro e w' ⟨rfl, rfl⟩)
  go_ret
  exact ⟨rfl, rfl⟩

end Go.Proofs.YtacbemilicdklaaDoor

/- Dither and Speckle of one cell, as words; what the steps come to. -/
namespace Go.Proofs.YtacbemilicdklaaDoor
open Go.RowKit Fl
set_option linter.unusedVariables false

theorem div_val {x y k : Nat} {a b : Int} (hx : vS x = some a) (hy : vS y = some b) (hb : b ≠ 0) (hk : k ≤ 120) (h : a.natAbs ≤ b.natAbs * 2 ^ k) : Same2 .quo k x y := by
  obtain ⟨s, m, i, e1, rfl⟩ := vS_some hx
  obtain ⟨t, n, j, e2, rfl⟩ := vS_some hy
  have n1 : (vOf s m i).natAbs = m * 2 ^ (i + 1074).toNat := by unfold vOf; rw [signed_eq, Int.natAbs_mul, Int.natAbs_natCast]; cases s <;> simp
  have n2 : (vOf t n j).natAbs = n * 2 ^ (j + 1074).toNat := by unfold vOf; rw [signed_eq, Int.natAbs_mul, Int.natAbs_natCast]; cases t <;> simp
  refine div_same hk e1 e2 ?_ (by rw [← n1, ← n2]; exact h)
  rcases Nat.eq_zero_or_pos n with z | z
  · exfalso; apply hb; subst z
    have : (vOf t 0 j).natAbs = 0 := by rw [n2]; simp
    omega
  · exact z

theorem vS_lo {j : Nat} (hj : j = 1064) : vS 981467136 = some ((2 ^ j : Nat) : Int) := by
  have h : Ieee.single.read 981467136 = .number false 8388608 (-33) := by decide
  rw [vS_lit (t := 1) (k := 23) (j := j) h (by decide) (by rw [hj]; decide)]; simp
theorem vS_hi {j : Nat} (hj : j = 1084) : vS 1149239296 = some ((2 ^ j : Nat) : Int) := by
  have h : Ieee.single.read 1149239296 = .number false 8388608 (-13) := by decide
  rw [vS_lit (t := 1) (k := 23) (j := j) h (by decide) (by rw [hj]; decide)]; simp

/-- A right step: its value is from 2 ^ -10 to 2 ^ 10. -/
def StepOk (st : Nat) : Prop := ∃ b, vS st = some b ∧ (one : Int) ≤ 1024 * b ∧ b ≤ 1024 * (one : Int)
theorem step_ok {st : Nat} (h : wiE st 981467136 1149239296 = 0) : StepOk st := by
  unfold wiE at h
  by_cases hf : finB st = false
  · rw [if_pos hf] at h; cases h
  · rw [if_neg hf] at h
    split at h
    · cases h
    · rename_i c
      obtain ⟨a, ha⟩ := Option.isSome_iff_exists.1 (show (vS st).isSome = true by simpa [finB, Option.isSome_iff_ne_none] using hf)
      obtain ⟨j, hj⟩ : ∃ j : Nat, j = 1064 := ⟨_, rfl⟩
      have hj' : j + 20 = 1084 := by omega
      rw [show FloatKind.f32.format = Ieee.single from rfl, lss_val ha (vS_lo hj), gtr_val ha (vS_hi hj')] at c
      refine ⟨a, ha, ?_⟩
      have e1 : one = 1024 * 2 ^ j := by rw [one_split (a := 10) (j := j) (by omega)]
      have e2 : 2 ^ (j + 20) = 1048576 * 2 ^ j := by rw [Nat.pow_add, Nat.mul_comm]
      rw [e2] at c
      rw [e1]
      generalize 2 ^ j = U at *
      simp at c
      omega
theorem step_bd {st : Nat} (h : StepOk st) : Bd 11 st := by
  obtain ⟨b, hb, h1, h2⟩ := h
  obtain ⟨J, hJ⟩ : ∃ J : Nat, J = 1074 := ⟨_, rfl⟩
  refine bd_val' (j := 11 + J) hb (by omega) ?_
  have e : 2 ^ (11 + J) = 2048 * one := by rw [one_pow hJ, Nat.pow_add]
  have := one_pos
  rw [e]
  generalize one = O at *
  omega

theorem hgt_val {x : Nat} (h : hgtB x = true) : ∃ a, vS x = some a ∧ a.natAbs ≤ 1048576 * one := by
  obtain ⟨a, ha, hb⟩ := val_bd (hgt_bd h)
  refine ⟨a, ha, ?_⟩
  obtain ⟨J, hJ⟩ : ∃ J : Nat, J = 1074 := ⟨_, rfl⟩
  have e : 2 ^ (1074 + 20) = 1048576 * one := by
    rw [one_pow hJ, show 1074 + 20 = 20 + J by omega, Nat.pow_add]
  rwa [e] at hb

theorem flV_near (a : Int) : flV a ≤ a ∧ a < flV a + (one : Int) := by
  have hp : (0 : Int) < (one : Int) := Int.natCast_pos.2 one_pos
  unfold flV
  have h1 := Int.ediv_mul_le a (Int.ne_of_gt hp)
  have h2 := Int.lt_ediv_add_one_mul_self a hp
  rw [Int.add_mul, Int.one_mul] at h2
  exact ⟨h1, h2⟩

/-- The quotient that Dither makes. -/
def dthQ (v st : Nat) : Nat := (floatBits .quo .f32 v st).getD 0
/-- What Dither makes of a cell, by the word of its hash. -/
def dthW (v st : Nat) (h : Int) : Nat :=
  (floatBits .mul .f32 (if (FloatKind.f32.format.order (unitW h) ((floatBits .sub .f32 (dthQ v st) (flW (dthQ v st))).getD 0) == some .lt) = true then (floatBits .add .f32 (flW (dthQ v st)) 1065353216).getD 0 else flW (dthQ v st)) st).getD 0

structure DthAt (v st : Nat) (h : Int) (q d : Nat) (c : Bool) (j r : Nat) : Prop where
  q1 : floatBits .quo .f32 v st = some q
  q2 : Same2 .quo 30 v st
  fq : ∃ a, vS q = some a
  bq : Bd 30 q
  d1 : floatBits .sub .f32 q (flW q) = some d
  d2 : Same2 .sub 32 q (flW q)
  c1 : (FloatKind.f32.format.order (unitW h) d == some .lt) = c
  j1 : c = true → floatBits .add .f32 (flW q) 1065353216 = some j
  j2 : c = true → Same2 .add 32 (flW q) 1065353216
  j3 : c = false → j = flW q
  r1 : floatBits .mul .f32 j st = some r
  r2 : Same2 .mul 43 j st
  w : dthW v st h = r
  lt : r < 4294967296

theorem fl_bd {q k : Nat} (h : Bd k q) (hk : k ≤ 50) : Bd (k + 1) (flW q) := by
  obtain ⟨a, ha, hb⟩ := val_bd h
  obtain ⟨_, _, _, _, _, _, _, _, _, hv⟩ := floor_parts ha h hk
  refine bd_val hv ?_
  obtain ⟨h1, h2⟩ := flV_near a
  obtain ⟨J, hJ⟩ : ∃ J : Nat, J = 1074 := ⟨_, rfl⟩
  have e : one ≤ 2 ^ (1074 + k) := by rw [one_pow hJ]; exact Nat.pow_le_pow_right (by omega) (by omega)
  rw [show 1074 + (k + 1) = 1074 + k + 1 by omega, Nat.pow_succ]
  generalize 2 ^ (1074 + k) = T at *
  generalize one = O at *
  omega

theorem bd_one (k : Nat) : Bd k 1065353216 := by
  obtain ⟨J, hJ⟩ : ∃ J : Nat, J = 1074 := ⟨_, rfl⟩
  refine bd_val vS_one ?_
  rw [Int.natAbs_natCast, one_pow hJ]; exact Nat.pow_le_pow_right (by omega) (by omega)

theorem dth_parts {v st : Nat} (h : Int) (hv : hgtB v = true) (hs : StepOk st) : ∃ q d c j r, DthAt v st h q d c j r := by
  obtain ⟨a, ha, hab⟩ := hgt_val hv
  have hs' := hs
  obtain ⟨b, hb, hb1, hb2⟩ := hs'
  have op := one_pos
  have q2 : Same2 .quo 30 v st := by
    refine div_val ha hb ?_ (by omega) ?_
    · generalize one = O at *; omega
    · rw [show (2 : Nat) ^ 30 = 1073741824 by decide]; generalize one = O at *; omega
  obtain ⟨_, _, _, q, _, _, _, _, q1, bq⟩ := q2.ex
  obtain ⟨aq, haq, _⟩ := val_bd bq
  have bf := fl_bd bq (by omega)
  have d2 : Same2 .sub 32 q (flW q) := sub_same (k := 31) (by omega) (bd_up bq (by omega)) bf
  obtain ⟨_, _, _, d, _, _, _, _, d1, _⟩ := d2.ex
  have j2 : Same2 .add 32 (flW q) 1065353216 := add_same (k := 31) (by omega) bf (bd_one 31)
  obtain ⟨_, _, _, j, _, _, _, _, j1, bj⟩ := j2.ex
  have eq : dthQ v st = q := by unfold dthQ; rw [q1]; rfl
  cases hc : (FloatKind.f32.format.order (unitW h) d == some .lt) with
  | true =>
    have r2 : Same2 .mul (32 + 11) j st := mul_same (by omega) bj (step_bd hs)
    obtain ⟨_, _, _, r, _, _, _, _, r1, _⟩ := r2.ex
    refine ⟨q, d, true, j, r, q1, q2, ⟨aq, haq⟩, bq, d1, d2, hc, fun _ => j1, fun _ => j2, (fun h => by cases h), r1, r2, ?_, opt_lt (d := (Ieee.single.read j).product (Ieee.single.read st)) r1⟩
    unfold dthW
    rw [eq, d1]
    show (floatBits .mul .f32 (if (FloatKind.f32.format.order (unitW h) d == some .lt) = true then (floatBits .add .f32 (flW q) 1065353216).getD 0 else flW q) st).getD 0 = r
    rw [if_pos hc, j1]
    show (floatBits .mul .f32 j st).getD 0 = r
    rw [r1]; rfl
  | false =>
    have r2 : Same2 .mul (32 + 11) (flW q) st := mul_same (by omega) (bd_up bf (by omega)) (step_bd hs)
    obtain ⟨_, _, _, r, _, _, _, _, r1, _⟩ := r2.ex
    refine ⟨q, d, false, flW q, r, q1, q2, ⟨aq, haq⟩, bq, d1, d2, hc, (fun h => by cases h), (fun h => by cases h), fun _ => rfl, r1, r2, ?_, opt_lt (d := (Ieee.single.read (flW q)).product (Ieee.single.read st)) r1⟩
    unfold dthW
    rw [eq, d1]
    show (floatBits .mul .f32 (if (FloatKind.f32.format.order (unitW h) d == some .lt) = true then (floatBits .add .f32 (flW q) 1065353216).getD 0 else flW q) st).getD 0 = r
    rw [if_neg (by rw [hc]; simp), r1]; rfl

/-- What Speckle makes of a cell. -/
def spkW (st : Nat) (h : Int) : Nat := if (FloatKind.f32.format.order (unitW h) st == some .lt) = true then 1065353216 else 0

/-- The place of a cell by its number. -/
theorem place_of {X Y x y : Int} {W i : Nat} (hW : 1 ≤ W) (h1 : X ≤ x) (h2 : x < X + W) (h3 : Y ≤ y) (hi : (i : Int) = (y - Y) * W + (x - X)) : X + ((i % W : Nat) : Int) = x ∧ Y + ((i / W : Nat) : Int) = y := by
  obtain ⟨a, ha⟩ := Int.eq_ofNat_of_zero_le (show 0 ≤ x - X by omega)
  obtain ⟨b, hb⟩ := Int.eq_ofNat_of_zero_le (show 0 ≤ y - Y by omega)
  rw [ha, hb, ← Int.natCast_mul, ← Int.natCast_add] at hi
  have hi' : i = b * W + a := Int.ofNat.inj hi
  have ha' : a < W := by omega
  have e1 : i % W = a := by rw [hi', Nat.mul_comm, Nat.mul_add_mod, Nat.mod_eq_of_lt ha']
  have e2 : i / W = b := by rw [hi', Nat.mul_comm, Nat.mul_add_div (by omega), Nat.div_eq_of_lt ha']; rfl
  rw [e1, e2]; omega

end Go.Proofs.YtacbemilicdklaaDoor

/- The error of a single that should lie between two others, by the tests of the reference. -/
namespace Go.Proofs.YtacbemilicdklaaDoor
open Go.RowKit Fl
set_option linter.unusedVariables false

/-- The error of a single that should be from lo to hi, told by the reference's tests. -/
def WithinCases (st lo hi : Nat) : Prop :=
    ((fldE 1 (fun _ => st) = 2 ∨ fldE 1 (fun _ => st) = 3) ∧ wiE st lo hi = fldE 1 (fun _ => st)) ∨
    (fldE 1 (fun _ => st) = 0 ∧ wiE st lo hi = 3 ∧ (FloatKind.f32.format.order st lo == some .lt) = true) ∨
    (fldE 1 (fun _ => st) = 0 ∧ wiE st lo hi = 3 ∧ (FloatKind.f32.format.order st lo == some .lt) = false ∧ (FloatKind.f32.format.order st hi == some .gt) = true) ∨
    (fldE 1 (fun _ => st) = 0 ∧ wiE st lo hi = 0 ∧ (FloatKind.f32.format.order st lo == some .lt) = false ∧ (FloatKind.f32.format.order st hi == some .gt) = false)
theorem within_cases {st lo hi : Nat} {l h : Int} (hl : vS lo = some l) (hh : vS hi = some h) (l1 : -vTop ≤ l) (h1 : h ≤ vTop) : WithinCases st lo hi := by
  unfold WithinCases
  cases hf : finB st with
  | false =>
    have e : fldE 1 (fun _ => st) = 2 := by simp [fldE, allB, List.range_succ, hf]
    exact .inl ⟨.inl e, by rw [e]; unfold wiE; rw [if_pos hf]⟩
  | true =>
    obtain ⟨a, ha⟩ := Option.isSome_iff_exists.1 (show (vS st).isSome = true from hf)
    have l0 := lss_val ha hl
    have g1 := gtr_val ha hh
    rw [← f32f] at l0 g1
    have hw : ((FloatKind.f32.format.order st lo == some .lt) = true ∨ (FloatKind.f32.format.order st hi == some .gt) = true) → wiE st lo hi = 3 := fun c => by
      unfold wiE; rw [if_neg (by rw [hf]; simp), if_pos c]
    cases hgt : hgtB st with
    | false =>
      have e : fldE 1 (fun _ => st) = 3 := by simp [fldE, hgtE, allB, List.range_succ, hf, hgt]
      refine .inl ⟨.inr e, ?_⟩
      rw [e]
      refine hw ?_
      unfold hgtB at hgt
      rw [ha] at hgt
      rw [l0, g1]
      simp at hgt ⊢
      omega
    | true =>
      have e : fldE 1 (fun _ => st) = 0 := fldE_one_ok hgt
      cases c1 : (FloatKind.f32.format.order st lo == some .lt) with
      | true => exact .inr (.inl ⟨e, hw (.inl c1), rfl⟩)
      | false =>
        cases c2 : (FloatKind.f32.format.order st hi == some .gt) with
        | true => exact .inr (.inr (.inl ⟨e, hw (.inr c2), rfl, rfl⟩))
        | false => exact .inr (.inr (.inr ⟨e, by unfold wiE; rw [if_neg (by rw [hf]; simp), if_neg (by rw [c1, c2]; simp)], rfl, rfl⟩))

theorem vTop_one : vTop = 1048576 * (one : Int) := by
  obtain ⟨J, hJ⟩ : ∃ J : Nat, J = 1074 := ⟨_, rfl⟩
  unfold vTop
  rw [one_pow hJ, Nat.one_mul, show ((20 : Int) + 1074).toNat = 20 + J by omega, Nat.pow_add, Int.natCast_mul]; rfl
theorem step_cases (st : Nat) : WithinCases st 981467136 1149239296 := by
  obtain ⟨j, hj⟩ : ∃ j : Nat, j = 1064 := ⟨_, rfl⟩
  have hj' : j + 20 = 1084 := by omega
  have e1 : one = 1024 * 2 ^ j := by rw [one_split (a := 10) (j := j) (by omega)]
  have e2 : 2 ^ (j + 20) = 1048576 * 2 ^ j := by rw [Nat.pow_add, Nat.mul_comm]
  have hp := Nat.two_pow_pos j
  exact within_cases (st := st) (vS_lo hj) (vS_hi hj') (by rw [vTop_one, e1]; generalize 2 ^ j = U at *; omega) (by rw [vTop_one, e1, e2]; generalize 2 ^ j = U at *; omega)

theorem flAt_one_of {w : World} {b x : Nat} (h : w.heap[b]? = some (flObj x)) : FlAt w b 0 1 (fun _ => x) := by
  intro i hi
  have : i = 0 := by omega
  subst this
  exact (blkC h).1 0
end Go.Proofs.YtacbemilicdklaaDoor

/- FilledIsLeast, walked. -/
namespace Go.Proofs.YtacbemilicdklaaDoor
open Go.RowKit Fl Go.Shelf
set_option linter.unusedVariables false

set_option maxHeartbeats 400000 in
theorem qNumberError_nil (a : Option Addr) (cap : Nat) (w : World) :
    Calls Tryd.prog 18 #[.slice a 0 cap] w fun e w' => e = .returned (.int .i64 0) ∧ w = w' := by
  go_enter Tryd.func18, Tryd.ntmps18
  go_wp2
  go_loop [9] (fun i => i = .int .i64 0) (fun _ => 0)
  case atStart => rfl
  case round =>
    subst hrel
    go_wp2
    go_loop [27] (fun i => i = .int .i64 0) (fun _ => 0)
    case atStart => rfl
    case round =>
      subst hrel
      go_wp2
      go_ret
      exact ⟨rfl, rfl⟩

/-- The error of a slice of singles, as both sides ask it, in whatever world behind. -/
def SlE (w : World) (a : Option Addr) (n cap : Nat) (er : Int) : Prop :=
  (∀ W', Below w.heap.size w W' → Calls Tryd.prog 93 #[.slice a n cap] W' fun e w' => e = .returned (.int .i64 er) ∧ W' = w') ∧
  (∀ W', Below w.heap.size w W' → Calls Tryd.prog 18 #[.slice a n cap] W' fun e w' => e = .returned (.int .i64 er) ∧ W' = w')
theorem SlE.stay {w w' : World} {a : Option Addr} {n cap : Nat} {er : Int} (h : SlE w a n cap er) (hb : Below w.heap.size w w') : SlE w' a n cap er :=
  ⟨fun W' hB => h.1 W' (hb.trans (hB.mono hb.size)), fun W' hB => h.2 W' (hb.trans (hB.mono hb.size))⟩
theorem slE_nil (w : World) (a : Option Addr) (cap : Nat) : SlE w a 0 cap 0 := ⟨fun W' _ => CheckHeights_nil a cap W', fun W' _ => qNumberError_nil a cap W'⟩
theorem slE_row {w : World} {b off n cap : Nat} {v : Nat → Nat} (h1 : 0 < n) (hl : n ≤ 9223372036854775807) (hc : FlAt w b off n v) : SlE w (some ⟨b, off, none⟩) n cap (fldE n v) := by
  have z : b < w.heap.size := World.block_lt_of_cell? w _ (hc 0 h1)
  exact ⟨fun W' hB => CheckHeights_row b off cap n v hl W' (flAt_congr hc (hB.block _ z)), fun W' hB => qNumberError_row b off cap n v hl W' (flAt_congr hc (hB.block _ z))⟩

set_option maxHeartbeats 1000000 in
theorem filled_no (X Y W H : Int) (a : Option Addr) (n cap : Nat) (er : Int) (sl : Nat) (re : Int) (w : World) (hE : SlE w a n cap er) (he : firstE (fldChk X Y W H n er) (wiE sl 0 1149239296) = re) (hz : re ≠ 0) :
    Calls Tryd.prog 15 #[fldV X Y W H (.slice a n cap), .float .f32 sl] w fun e w' => e = .returned (.tuple #[fldV 0 0 0 0 (.slice none 0 0), .int .i64 re]) ∧ Below w.heap.size w w' := by
  have CK := Lib.hid (fun W' (hB : Below w.heap.size w W') => checkA_any X Y W H a n cap er W' (hE.stay hB).1)
  have CW := Lib.hid (fun w => checkWithin_any sl 0 1149239296 w)
  generalize fldChk X Y W H n er = r1 at *
  generalize wiE sl 0 1149239296 = r2 at *
  unfold firstE at he
  by_cases h1 : r1 = 0
  · subst h1
    rw [if_pos rfl] at he
    subst he
    have h2 : (r2 != 0) = true := by simpa using hz
    clear hz hE
    go_enter Tryd.func15, Tryd.ntmps15
    go_wp2_with (first | (go_at_call 66; refine (CK.out _ (by repeat (first | exact Below.refl _ _ | refine Below.alloc ?_ (by first | omega | (simp; done) | (simp; omega)) _ | refine Below.setCell ?_ (by first | omega | (simp; done) | (simp; omega)) _ | refine Below.drew ?_))).mono ?_; rintro e w2 ⟨rfl, hb2⟩; obtain ⟨cR, fR, zR⟩ := blkC (blkStay (b := w.heap.size + 1) (o := fldO 0 0 0 0 (.slice none 0 0)) (by (first | (rw [heap_alloc_get, if_pos rfl]; done) | ((simp only [heap_alloc_get, heap_size_alloc, if_true]) <;> ((repeat' split) <;> first | rfl | omega)))) hb2); have hB2 : Below w.heap.size w w2 := Below.trans (by repeat (first | exact Below.refl _ _ | refine Below.alloc ?_ (by first | omega | (simp; done) | (simp; omega)) _ | refine Below.setCell ?_ (by first | omega | (simp; done) | (simp; omega)) _ | refine Below.drew ?_)) (Below.mono hb2 (by first | omega | (simp; done) | (simp; omega))); clear hb2) | (go_at_call 67; refine (CW.out _).mono ?_; rintro e w' ⟨rfl, rfl⟩))
    refine bodyPost_ret (v := .tuple #[fldV 0 0 0 0 (.slice none 0 0), .int .i64 r2]) (by simp [results, Tryd.results15, go_sem, cR]) rfl ?_
    exact ⟨rfl, by repeat (first | exact hB2 | refine Below.setCell ?_ (by first | omega | (simp; done) | (simp; omega)) _)⟩
  · rw [if_neg h1] at he
    subst he
    have h2 : (r1 != 0) = true := by simpa using hz
    clear hz hE h1 CW
    go_enter Tryd.func15, Tryd.ntmps15
    go_wp2_with (first | (go_at_call 66; refine (CK.out _ (by repeat (first | exact Below.refl _ _ | refine Below.alloc ?_ (by first | omega | (simp; done) | (simp; omega)) _ | refine Below.setCell ?_ (by first | omega | (simp; done) | (simp; omega)) _ | refine Below.drew ?_))).mono ?_; rintro e w2 ⟨rfl, hb2⟩; obtain ⟨cR, fR, zR⟩ := blkC (blkStay (b := w.heap.size + 1) (o := fldO 0 0 0 0 (.slice none 0 0)) (by (first | (rw [heap_alloc_get, if_pos rfl]; done) | ((simp only [heap_alloc_get, heap_size_alloc, if_true]) <;> ((repeat' split) <;> first | rfl | omega)))) hb2); have hB2 : Below w.heap.size w w2 := Below.trans (by repeat (first | exact Below.refl _ _ | refine Below.alloc ?_ (by first | omega | (simp; done) | (simp; omega)) _ | refine Below.setCell ?_ (by first | omega | (simp; done) | (simp; omega)) _ | refine Below.drew ?_)) (Below.mono hb2 (by first | omega | (simp; done) | (simp; omega))); clear hb2))
    refine bodyPost_ret (v := .tuple #[fldV 0 0 0 0 (.slice none 0 0), .int .i64 r1]) (by simp [results, Tryd.results15, go_sem, cR]) rfl ?_
    exact ⟨rfl, by repeat (first | exact hB2 | refine Below.setCell ?_ (by first | omega | (simp; done) | (simp; omega)) _)⟩

/-- The errors of the slope, as the law reckons them. -/
theorem slope_first (r1 : Int) (sl : Nat) : firstE (firstE r1 (fldE 1 (fun _ => sl))) (whenE ((FloatKind.f32.format.order sl 0 == some .lt) || (FloatKind.f32.format.order sl 1149239296 == some .gt)) 3) = firstE r1 (wiE sl 0 1149239296) := by
  by_cases h1 : r1 = 0
  · subst h1
    have hc : WithinCases sl 0 1149239296 := by
      obtain ⟨j, hj⟩ : ∃ j : Nat, j + 20 = 1084 + 20 - 20 := ⟨1064, rfl⟩
      exact within_cases (l := 0) (h := 1024 * (one : Int)) vS_zero (by
        have h : Ieee.single.read 1149239296 = .number false 8388608 (-13) := by decide
        obtain ⟨J, hJ⟩ : ∃ J : Nat, J = 1074 := ⟨_, rfl⟩
        rw [vS_lit (t := 1024) (k := 13) (j := J) h (by decide) (by rw [hJ]; decide), one_pow hJ]; simp) (by rw [vTop_one]; have := Int.natCast_nonneg one; omega) (by rw [vTop_one]; have := Int.natCast_nonneg one; omega)
    unfold WithinCases at hc
    generalize fldE 1 (fun _ => sl) = fe at *
    generalize wiE sl 0 1149239296 = we at *
    rcases hc with ⟨hf, e⟩ | ⟨e1, e2, e3⟩ | ⟨e1, e2, e3, e4⟩ | ⟨e1, e2, e3, e4⟩
    · subst e
      rcases hf with rfl | rfl <;> rfl
    · rw [e1, e2, e3]; rfl
    · rw [e1, e2, e3, e4]; rfl
    · rw [e1, e2, e3, e4]; rfl
  · unfold firstE
    rw [if_neg h1, if_neg h1, if_neg h1]
end Go.Proofs.YtacbemilicdklaaDoor

/- FilledIsLeast, walked. -/
namespace Go.Proofs.YtacbemilicdklaaDoor
open Go.RowKit Fl Go.Shelf
set_option linter.unusedVariables false

set_option maxHeartbeats 400000 in
theorem small_any (X Y W H : Int) (a : Option Addr) (n cap : Nat) (w : World) : Calls Tryd.prog 22 #[fldV X Y W H (.slice a n cap)] w fun e w' => e = .returned (.bool (decide (n ≤ 200))) ∧ Below w.heap.size w w' := by
  go_enter Tryd.func22, Tryd.ntmps22
  go_wp2
  go_ret
  exact ⟨ret_bool (by rw [Bool.eq_iff_iff]; simp; omega), (by repeat (first | exact Below.refl _ _ | refine Below.alloc ?_ (by first | omega | (simp; done) | (simp; omega)) _ | refine Below.setCell ?_ (by first | omega | (simp; done) | (simp; omega)) _ | refine Below.drew ?_))⟩

set_option maxHeartbeats 1000000 in
theorem equalF_any (b b' off off' cap cap' n : Nat) (c d : Nat → Nat) (hl : n ≤ 65536) (w : World) (hc : FlAt w b off n c) (hc' : FlAt w b' off' n d) (he : ∀ i, i < n → ∃ x, vS (c i) = some x ∧ vS (d i) = some x) :
    Calls Tryd.prog 24 #[.slice (some ⟨b, off, none⟩) n cap, .slice (some ⟨b', off', none⟩) n cap'] w fun e w' => e = .returned (.bool true) ∧ Below w.heap.size w w' := by
  have HC := Lib.hid hc
  have HC' := Lib.hid hc'
  have HE := Lib.hid he
  clear hc hc' he
  go_enter Tryd.func24, Tryd.ntmps24
  go_wp2
  go_loopw [13] (fun i wr => ∃ k : Nat, k ≤ n ∧ i = .int .i64 k ∧ (∀ p : Addr, p.block < w.heap.size → wr.cell? p = w.cell? p) ∧ Below w.heap.size w wr) (fun i _ => n - (intOf i).toNat)
  case atStart => exact ⟨0, Nat.zero_le _, rfl, fun _ _ => rfl, Below.refl _ _⟩
  case round =>
    obtain ⟨k, hk, rfl, hs, hb⟩ := hrel
    have HB := Lib.hid hb
    have HS := Lib.hid hs
    by_cases hlt : k < n
    · have z1 := World.block_lt_of_cell? w _ (HC.out k hlt)
      have z2 := World.block_lt_of_cell? w _ (HC'.out k hlt)
      have d1 := (hs ⟨b, off + k, none⟩ z1).trans (HC.out k hlt)
      have d2 := (hs ⟨b', off' + k, none⟩ z2).trans (HC'.out k hlt)
      obtain ⟨x, x1, x2⟩ := HE.out k hlt
      have t1 := eql_val x1 x2
      rw [← f32f, decide_eq_true rfl] at t1
      have t2 : (FloatKind.f32.format.order (c k) (d k) != some .eq) = false := by rw [bne, t1]; rfl
      have k1 : (k : Int) < (n : Int) := by omega
      have k2 : (0 : Int) ≤ (k : Int) := by omega
      clear hs hb x1 x2
      go_wp2
      go_region
      all_goals go_wp2
      all_goals go_roundw
      case rel => exact ⟨k + 1, by omega, by go_num, fun p hp => HS.out p hp, HB.out.drew⟩
      case measure => simp [intOf]; omega
    · clear hs hb
      go_wp2
      go_ret
      exact ⟨rfl, HB.out⟩

set_option maxHeartbeats 1000000 in
set_option maxRecDepth 100000 in
theorem filLaw_no (X Y W H : Int) (a : Option Addr) (n cap : Nat) (er : Int) (sl : Nat) (re : Int) (p q : Bool) (w : World) (hE : SlE w a n cap er) (he : firstE (fldChk X Y W H n er) (wiE sl 0 1149239296) = re) (hz : re ≠ 0)
    (hp : (FloatKind.f32.format.order sl 0 == some .lt) = p) (hq : (FloatKind.f32.format.order sl 1149239296 == some .gt) = q) (hD : DirsAt w) :
    Calls Tryd.prog 3 #[fldV X Y W H (.slice a n cap), .float .f32 sl] w fun e w' => e = .returned (.bool true) ∧ Below w.heap.size w w' := by
  have FN := Lib.hid (fun W' (hB : Below w.heap.size w W') => filled_no X Y W H a n cap er sl re W' (hE.stay hB) he hz)
  have FE := Lib.hid (fun W' (hB : Below w.heap.size w W') => qFieldError_any X Y W H a n cap er W' (hE.stay hB).2)
  have NE := Lib.hid (fun p w (h : w.heap[p]? = some (.cells #[.float .f32 sl] 27)) => qNumberError_row p 0 1 1 (fun _ => sl) (by omega) w (flAt_h1 h))
  have WH := Lib.hid (fun c w => when_any c 3 w)
  have sf := slope_first (fldChk X Y W H n er) sl
  rw [hp, hq, he] at sf
  have FI := Lib.hid (fun x (hx : x = (p || q)) pp w (h : w.heap[pp]? = some (.cells #[.int .i64 (fldChk X Y W H n er), .int .i64 (fldE 1 (fun _ => sl)), .int .i64 (whenE x 3)] 28)) => show Calls Tryd.prog 16 #[.slice (some ⟨pp, 0, none⟩) 3 3] w fun e w' => e = .returned (.int .i64 re) ∧ w = w' by rw [← sf, ← hx]; exact first3_any _ _ _ pp w h)
  have FL := Lib.hid (fun W' (hB : Below w.heap.size w W') => flows_any W' (hD.stay hB))
  have EM := Lib.hid (fun w => empty_no w)
  have h1 : (re != 0) = true := by simpa using hz
  clear hE he hz hD sf
  generalize fldChk X Y W H n er = r1 at *
  generalize fldE 1 (fun _ => sl) = r2 at *
  cases p <;> cases q
  all_goals
    go_enter Tryd.func3, Tryd.ntmps3
    go_wp2_with (first | (go_at_call 15; refine (FN.out _ (by repeat (first | exact Below.refl _ _ | refine Below.alloc ?_ (by first | omega | (simp; done) | (simp; omega)) _ | refine Below.setCell ?_ (by first | omega | (simp; done) | (simp; omega)) _ | refine Below.drew ?_))).mono ?_; rintro e w2 ⟨rfl, hb2⟩; have HF2 := Lib.hid (blkStay (b := w.heap.size) (o := fldO X Y W H (.slice a n cap)) (by (first | (rw [heap_alloc_get, if_pos rfl]; done) | ((simp only [heap_alloc_get, heap_size_alloc, if_true]) <;> ((repeat' split) <;> first | rfl | omega)))) hb2); obtain ⟨cF, fF, zF⟩ := blkC HF2.out; have HB2 : Below w.heap.size w w2 := Below.trans (by repeat (first | exact Below.refl _ _ | refine Below.alloc ?_ (by first | omega | (simp; done) | (simp; omega)) _ | refine Below.setCell ?_ (by first | omega | (simp; done) | (simp; omega)) _ | refine Below.drew ?_)) (Below.mono hb2 (by first | omega | (simp; done) | (simp; omega))); clear hb2) | (go_at_call 17; refine (FE.out _ (HB2.alloc HB2.size _)).mono ?_; rintro e w3 ⟨rfl, hb3⟩; have HG3 := Lib.hid (blkStay (b := w2.heap.size) (o := fldO 0 0 0 0 (.slice none 0 0)) (by (first | (rw [heap_alloc_get, if_pos rfl]; done) | ((simp only [heap_alloc_get, heap_size_alloc, if_true]) <;> ((repeat' split) <;> first | rfl | omega)))) hb3); have HB3 : Below w.heap.size w w3 := (HB2.alloc HB2.size _).trans (hb3.mono (by have := HB2.size; simp; omega)); have zG3 := (blkC HG3.out).2.2; clear hb3 cF fF zF) | (go_at_call 18; refine (NE.out _ _ (by (first | (rw [heap_alloc_get, if_pos rfl]; done) | ((simp only [heap_alloc_get, heap_size_alloc, if_true]) <;> ((repeat' split) <;> first | rfl | omega))))).mono ?_; rintro e w' ⟨rfl, rfl⟩) | (go_at_call 19; refine (WH.out _ _).mono ?_; rintro e w' ⟨rfl, rfl⟩) | (go_at_call 16; (first | refine (FI.out true rfl _ _ (by (first | (rw [heap_alloc_get, if_pos rfl]; done) | ((simp only [heap_alloc_get, heap_size_alloc, if_true]) <;> ((repeat' split) <;> first | rfl | omega))))).mono ?_ | refine (FI.out false rfl _ _ (by (first | (rw [heap_alloc_get, if_pos rfl]; done) | ((simp only [heap_alloc_get, heap_size_alloc, if_true]) <;> ((repeat' split) <;> first | rfl | omega))))).mono ?_); rintro e w' ⟨rfl, rfl⟩) | (go_at_call 20; refine (FL.out _ HB5).mono ?_; rintro e w6 ⟨rfl, hb6⟩; clear cG fG zG; have HG6 := Lib.hid (blkStay HG5.out hb6); obtain ⟨cG, fG, zG⟩ := blkC HG6.out; have HB6 := HB5.trans (hb6.mono HB5.size); clear hb6) | (go_at_call 20; refine (FL.out _ ((HB3.alloc HB3.size _).alloc (by have := HB3.size; simp; omega) _)).mono ?_; rintro e w5 ⟨rfl, hb5⟩; have h35 : Below w3.heap.size w3 w5 := Below.trans (by repeat (first | exact Below.refl _ _ | refine Below.alloc ?_ (by first | omega | (simp; done) | (simp; omega)) _ | refine Below.setCell ?_ (by first | omega | (simp; done) | (simp; omega)) _ | refine Below.drew ?_)) (Below.mono hb5 (by simp; omega)); have HG5 := Lib.hid (blkStay HG3.out h35); obtain ⟨cG, fG, zG⟩ := blkC HG5.out; have HB5 := HB3.trans (h35.mono HB3.size); clear hb5 h35) | (go_at_call 21; refine (EM.out _).mono ?_; rintro e w7 ⟨rfl, hb7⟩; have HB7 := HB6.trans (hb7.mono HB6.size); clear hb7))
    go_ret
    exact ⟨rfl, HB7⟩
end Go.Proofs.YtacbemilicdklaaDoor
