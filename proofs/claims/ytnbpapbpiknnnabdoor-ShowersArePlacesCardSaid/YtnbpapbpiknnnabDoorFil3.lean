/- Contract: leastSpills. -/
import Derived.Test.YtnbpapbpiknnnabDoorFil5
namespace Go.Proofs.YtnbpapbpiknnnabDoor
open Go.RowKit Fl Go.Shelf
set_option linter.unusedVariables false
attribute [local go_sem] Oper.semAt_some

set_option maxRecDepth 100000 in
set_option maxHeartbeats 4000000 in
theorem leastSpills_any (X Y : Int) (W H n b cap : Nat) (v : Nat → Nat) (sl : Nat) (w : World) (h0 : checkR X Y W H = 0) (hn : n = W * H) (hcap : n ≤ cap) (hcp : cap ≤ 9223372036854775807) (hc : FlAt w b 0 n v) (hh : allB n (fun i => hgtB (v i)) = true) (hs : SlW sl) (hD : DirsAt w) :
    Calls Tryd.prog 68 #[fldV X Y W H (.slice (some ⟨b, 0, none⟩) n cap), .float .f32 sl] w (SpillPost W H n v sl w) := by
  obtain ⟨b1, b2, b3, b4, b5, b6, b7, b8, b9⟩ := checkR_zero h0
  have hn2 : n ≤ 65536 := by
    have : ((W : Int) * (H : Int)) = (n : Int) := by rw [hn]; simp
    omega
  have hn1 : 1 ≤ n := by rw [hn]; exact Nat.mul_pos (by omega) (by omega)
  have zb : b < w.heap.size := World.block_lt_of_cell? w _ (hc 0 hn1)
  have G := Lib.hid (gnd_ok (W := W) (H := H) (v := v) (sl := sl) (by omega) (by omega) (fun k hk => allB_iff.1 hh k (by omega)) hs)
  have CL := Lib.hid (fun W' (hb : Below w.heap.size w W') => clone_any b n cap v W' hn1 hn2 (flAt_congr hc (hb.block _ zb)))
  have IB := Lib.hid (fun k (hk : k < n) w => isBorder_any X Y W H k w (by omega) (by omega) (by omega) (by omega) (by omega))
  have mk := make_bool n hn2
  have HD := Lib.hid hD
  have HC := Lib.hid hc
  have HN := Lib.hid hn
  have HS := Lib.hid hs
  have HH := Lib.hid hh
  clear hD hc hn hs hh h0
  refine (callsIn_wide (n := 4)).1 (callsIn_of_wp_marks Tryd.func68 rfl trivial (wpIn_wide.2 (wp_mono (Q := NoPanic (bodyPostM Fence.wide 4 Tryd.prog Tryd.f68 (SpillPost W H n v sl w))) ?_ noPanic_of)) rfl)
  simp only [Tryd.ntmps68, List.size_toArray, List.length_cons, List.length_nil, Nat.reduceAdd, Nat.reduceSub, Array.replicate_succ, Array.replicate_zero, List.push_toArray, List.append_toArray, List.nil_append, List.cons_append]
  go_wp2_with (first | (go_at_call 96; refine (CL.out _ (by repeat (first | exact Below.refl _ _ | refine Below.alloc ?_ (by first | omega | (simp; done) | (simp; omega)) _ | refine Below.setCell ?_ (by first | omega | (simp; done) | (simp; omega)) _ | refine Below.drew ?_))).mono ?_; rintro e w1 ⟨sb, scap, rfl, hg1, how1, hb1⟩; have HO1 := Lib.hid how1; have GB1 := Lib.hid hg1; have HF1 := Lib.hid (blkStay (b := w.heap.size) (o := fldO X Y W H (.slice (some ⟨b, 0, none⟩) n cap)) (by ((simp only [heap_alloc_get, heap_size_alloc, if_true]) <;> ((repeat' split) <;> first | rfl | omega))) hb1); have HL1 := Lib.hid (blkStay (b := w.heap.size + 1) (o := flObj sl) (by ((simp only [heap_alloc_get, heap_size_alloc, if_true]) <;> ((repeat' split) <;> first | rfl | omega))) hb1); have hB1 : Below w.heap.size w w1 := Below.trans (by repeat (first | exact Below.refl _ _ | refine Below.alloc ?_ (by first | omega | (simp; done) | (simp; omega)) _ | refine Below.setCell ?_ (by first | omega | (simp; done) | (simp; omega)) _ | refine Below.drew ?_)) (Below.mono hb1 (by first | omega | (simp; done) | (simp; omega))); obtain ⟨cF, fF, zF⟩ := blkC HF1.out; have zF1 : w.heap.size < w1.heap.size + 1 := (by omega); have zF2 : w.heap.size < w1.heap.size + 1 + 1 := (by omega); have zF3 : w.heap.size < w1.heap.size + 1 + 1 + 1 := (by omega); clear hb1 how1 hg1))
  have S1 := Lib.hid (l1_start (v := v) (b := b) (cap := cap) (sl := sl) (X := X) (Y := Y) (W := W) (H := H) rfl (by simp) HF1.out HL1.out hB1 HO1.out)
  have ZSB := Lib.hid (HO1.out.lt sb rfl).2
  generalize w1.heap.size = hb at *
  clear cF fF zF zF1 zF2 zF3 HF1 HL1 hB1 HO1 GB1 mk CL
  have hinfo : (Tryd.prog.info? 3).map (fun i => (i.zero, i.size, i.bytes)) = some (some (.int .i64 0), 1, 8) := by kernel_rfl
  obtain ⟨i0, hi, hz0, hz1, hz2⟩ := info_parts hinfo
  clear hinfo
  go_loopw [23] (fun s23 wr => ∃ k : Nat, k ≤ n ∧ s23 = .int .i64 k ∧ L1At w X Y W H n b cap sl hb sb scap v k wr) (fun s23 _ => n - (intOf s23).toNat)
  case atStart => exact ⟨0, Nat.zero_le _, rfl, S1.out⟩
  case round =>
    obtain ⟨k, hk, rfl, ov, m, c, h1⟩ := hrel
    have HL := Lib.hid h1
    obtain ⟨cF, fF, zF⟩ := blkC h1.stat.fld
    by_cases hlt : k < n
    · have IK := Lib.hid (IB.out k hlt)
      cases hbk : bdB W H k with
      | false =>
        rw [hbk] at IK
        have SK := Lib.hid (fun w2 hB => h1.skip (w2 := w2) hB hbk)
        clear hbk h1
        go_wp2_with (go_at_call 118; refine (IK.out _).mono ?_; rintro e w2 ⟨rfl, hb2⟩; have HB2 := Lib.hid hb2; clear hb2 cF fF zF)
        go_roundw
        case rel => exact ⟨k + 1, by omega, by go_num, ov, m, c, SK.out w2 HB2.out⟩
        case measure => simp [intOf]; omega
      | true =>
        rw [hbk] at IK
        have HBK := Lib.hid hbk
        clear hbk h1
        have k1 : (k : Int) < (n : Int) := by omega
        go_wp2_with (go_at_call 118; refine (IK.out _).mono ?_; rintro e w2 ⟨rfl, hb2⟩; have HB2 := Lib.hid hb2; clear hb2 cF fF zF; have ST2 := Lib.hid (HL.out.stat.below HB2.out); obtain ⟨cQ, fQ, zQ⟩ := blkC ST2.out.rsl; obtain ⟨b2, g2, z2⟩ := (HL.out.bools.congr (HB2.out.block _ HL.out.bools.lt)).cell hlt)
        obtain ⟨S3, obj3, own3, sown3, bools3⟩ := HL.out.reach HB2.out hlt ZSB.out
        obtain ⟨w3, hw3⟩ : ∃ w3, w2.setCell ⟨hb + 1 + 1, k, none⟩ (.bool true) = w3 := ⟨_, rfl⟩
        rw [hw3] at S3 obj3 own3 sown3 bools3 ⊢
        clear hw3 cQ fQ zQ b2 g2 z2
        obtain ⟨cP, fP, zP⟩ := blkC S3.ptr
        have p0 : w3.cell? ⟨hb + 1, 0, none⟩ = some (.pointer (some ⟨hb, 0, none⟩)) := cP 0
        obtain ⟨cO, fO, zO⟩ := blkC obj3
        have o0 : w3.cell? ⟨hb, 0, none⟩ = some ov := cO 0
        have ST3 := Lib.hid S3
        have OB3 := Lib.hid obj3
        have OW3 := Lib.hid own3
        have SO3 := Lib.hid sown3
        have BO3 := Lib.hid bools3
        have ML := Lib.hid HL.out.mle
        have LO := Lib.hid HL.out.stat.lo
        clear S3 obj3 own3 sown3 bools3 cP cO
        go_region_law (refine step_append_lies _ (by rfl) _ _ _ (by rfl) (hb + 1 + 1 + 1 + 1) 3 i0 _ 1 8 Tryd.underlying40 hi hz0 hz1 hz2 rfl (by omega) ov m (cellsL c m) (by rfl) (OW3.out.alloc _) ⟨w3.heap.size, 0, none⟩ 1 1 [.int .i64 (k : Int)] (by rfl) (by rfl) (World.news_of_block (cs := #[.int .i64 (k : Int)]) (t := 3) (fr := (0, 0)) (heap_alloc_new w3 _)) (by simp [Value.oneCell']) (by omega) (by have := ML.out; unfold maxLen; omega) (by have := ML.out; omega) (by have := (blkC ST3.out.rsl).2.2; simp; omega) (w3.heap.size + 1) (by simp) ?_; intro g' cap' w4 hown4 hgrow hat hlt4; have out4 := Lib.hid ((hgrow.block hb (by simp; omega) (ownsRow_far OW3.out (by omega))).trans ((heap_alloc_old _ _ zO).trans OB3.out)); obtain ⟨cV4, fV4, zV4⟩ := blkC out4.out; have pt4 := Lib.hid ((hgrow.block (hb + 1) (by simp; omega) (ownsRow_far OW3.out (by omega))).trans ((heap_alloc_old _ _ zP).trans ST3.out.ptr)); obtain ⟨cP4, fP4, zP4⟩ := blkC pt4.out)
        all_goals
          have HN1 := Lib.hid (L1.push ZSB.out HBK.out ST3.out OB3.out OW3.out SO3.out BO3.out HL.out.c1 HL.out.c2 HL.out.mle hgrow hown4)
          clear hown4 hgrow hat hlt4 cV4 fV4 zV4 cP4 fP4 zP4 o0 p0 fP fO zP zO
          go_wp2
          go_roundw
          case rel => exact ⟨k + 1, by omega, by go_num, _, _, _, HN1.out⟩
          case measure => simp [intOf]; omega
    · have hkn : k = n := by omega
      subst hkn
      have bd0 : bdB W H 0 = true := bdB_iff.2 (.inl (Nat.zero_mod _))
      obtain ⟨z0, hz0', _⟩ := h1.c2 0 (by omega) bd0
      obtain ⟨g, gcap, rfl, _, _⟩ := h1.own.form (show 0 < m by omega)
      have ME := Lib.hid (h1.heads hn1 hn2 ZSB.out)
      have gr : (gndOf W H v sl).n = k := HN.out.symm
      have C1 := Lib.hid h1.c1
      have C2 := Lib.hid h1.c2
      have OK := Lib.hid (show OkC k m c v from fun i hi => ⟨(h1.c1 i hi).1, (hgt_ok (G.out.hgt (c i) (by rw [gr]; exact (h1.c1 i hi).1))).val⟩)
      have GR := Lib.hid gr
      have ML := Lib.hid h1.mle
      obtain ⟨cP, fP, zP⟩ := blkC h1.stat.ptr
      clear h1 gr bd0 cF fF zF hlt
      go_wp2_with (go_at_call 119; refine (hinit_any _ hb sb k scap g gcap m c v ME.out.heads OK.out).mono ?_; rintro e w5 ⟨rfl, c5, hs5⟩; have S5 := Lib.hid hs5; clear hs5 cP fP zP)
      have L2S := Lib.hid (l2_start G.out HN.out ME.out S5.out.2.2.2 S5.out.1 S5.out.2.1 S5.out.2.2.1 C1.out C2.out ML.out hn2)
      clear ME C1 C2 OK S5 ML
      obtain ⟨N0, l2⟩ := L2S.out
      clear L2S
      refine wp_loop_ghost (fun N a wr => a.tmps.size = 98 ∧ (a.tmps[0]? = some (fldV X Y W H (.slice (some ⟨b, 0, none⟩) k cap)) ∧ a.tmps[1]? = some (.float .f32 sl) ∧ a.tmps[2]? = some (.pointer (some ⟨w.heap.size, 0, none⟩)) ∧ a.tmps[3]? = some (.pointer (some ⟨w.heap.size + 1, 0, none⟩)) ∧
        a.tmps[5]? = some (.pointer (some ⟨hb + 1, 0, none⟩)) ∧ a.tmps[6]? = some (.pointer (some ⟨hb + 1 + 1 + 1, 0, none⟩))) ∧ Marks (hb + 1 + 1 + 1 + 1) wr a.defers ∧ L2At w X Y W H k b cap v sl hb sb scap N wr) N0 ⟨rfl, ⟨rfl, rfl, rfl, rfl, rfl, rfl⟩, trivial, l2⟩ ?_
      rintro N ⟨tm, ds⟩ wr ⟨hsz, ⟨t0, t1, t2, t3, t5, t6⟩, hmk, c', s, R, m', g', gcap', h2⟩
      dsimp only at hsz t0 t1 t2 t3 t5 t6 hmk
      obtain ⟨u, rfl⟩ := slots98 tm hsz
      have q0 : u 0 = _ := Option.some.inj t0
      have q1 : u 1 = _ := Option.some.inj t1
      have q2 : u 2 = _ := Option.some.inj t2
      have q3 : u 3 = _ := Option.some.inj t3
      have q5 : u 5 = _ := Option.some.inj t5
      have q6 : u 6 = _ := Option.some.inj t6
      rw [q0, q1, q2, q3, q5, q6]
      clear q0 q1 q2 q3 q5 q6 t0 t1 t2 t3 t5 t6 hsz
      have HM := Lib.hid h2.mem
      have HF := Lib.hid h2.fil
      have HNUM := Lib.hid h2.num
      have HLE := Lib.hid h2.le
      have MK := Lib.hid hmk
      clear h2 hmk l2
      obtain ⟨cP, fP, zP⟩ := blkC HM.out.stat.ptr
      rcases Nat.eq_zero_or_pos m' with rfl | hm0
      · obtain ⟨cO, fO, zO⟩ := blkC HM.out.heads.obj
        go_wp2_with (go_at_call 120; refine (len_any wr hb sb k scap g' gcap' 0 c' s HM.out.heads).mono ?_; rintro e w' ⟨rfl, rfl⟩)
        exact leaves_marks ds wr MK.out fun w' g1 g2 g3 g4 g5 g6 => by refine ⟨_, results_tmp rfl _ _ _, ?_⟩; exact spill_end G.out HM.out HF.out (by have := HM.out.stat.lo; omega) g1 g2 g3 g4 g5 g6
      · obtain ⟨m, rfl⟩ : ∃ m, m' = m + 1 := ⟨m' - 1, by omega⟩
        obtain ⟨hok, hhp⟩ : OkC k (m + 1) c' s ∧ Heap (m + 1) (fun x => vI (s x)) c' := by
          obtain ⟨D, rk, t, F⟩ := HF.out
          exact ⟨fun i hi => by have q := F.okc i hi; exact ⟨by rw [← GR.out]; exact q.1, q.2⟩, F.heap⟩
        have m1 : (0 : Int) < ((m : Int) + 1) := by omega
        have PO := Lib.hid (pop_any wr hb sb k scap g' gcap' m c' s HM.out.heads hok hhp)
        have X0 := Lib.hid (hok 0 (by omega)).1
        have NE := Lib.hid (fun W' => neighbours_any X Y W H (c' 0) W' (by omega) (by omega) (by omega) (by omega) (by omega) (by omega) (by have := (hok 0 (by omega)).1; omega))
        have ta := assert_int
        clear hok hhp
        go_wp2_with (first | (go_at_call 120; refine (len_any wr hb sb k scap g' gcap' (m + 1) c' s HM.out.heads).mono ?_; rintro e w' ⟨rfl, rfl⟩) | (go_at_call 121; refine PO.out.mono ?_; rintro e w6 ⟨rfl, c6, hs6⟩; have S6 := Lib.hid hs6; have M6 := Lib.hid (HM.out.heapStep hs6.2.2.2 hs6.1 (.inl rfl)); clear hs6 cP fP zP; obtain ⟨cF, fF, zF⟩ := blkC M6.out.stat.fld) | (go_at_call 122; refine (NE.out _).mono ?_; rintro e w8 ⟨q, hq, rfl, hr8, hq8, hql, hb8⟩; have HQ := Lib.hid hq; have HR8 := Lib.hid hr8; have HQ8 := Lib.hid hq8; have HQL := Lib.hid hql; have HB8 := Lib.hid hb8; clear hq hr8 hq8 hql hb8 cF fF zF))
        have B8 := Lib.hid (show Below w6.heap.size w6 w8 from Below.trans (by repeat (first | exact Below.refl _ _ | refine Below.alloc ?_ (by first | omega | (simp; done) | (simp; omega)) _ | refine Below.setCell ?_ (by first | omega | (simp; done) | (simp; omega)) _ | refine Below.drew ?_)) (Below.mono HB8.out (by simp)))
        have M8 := Lib.hid (M6.out.below B8.out)
        have hlo := M8.out.stat.lo
        have zw8 : w.heap.size ≤ w8.heap.size := M8.out.stat.bel.size
        have z68 := B8.out.size
        have hl8 : hb + 1 + 1 + 1 < w6.heap.size := (blkC M6.out.stat.rsl).2.2
        have MK8 := Lib.hid (show Marks (hb + 1 + 1 + 1 + 1) w8 ds from MK.out.kept fun j hj hd => by
          have n1 : j ≠ g' := fun e => by
            obtain ⟨_, _ | ⟨g2, cap2, cur, hv, hg2, hh2, _⟩⟩ := HM.out.heads.own
            · rename_i q; cases q.1
            · cases hv; rw [e, hh2] at hd; cases hd
          exact blkStay ((S6.out.2.2.2.block j (Array.getElem?_eq_some_iff.1 hd).1 (by omega) n1).trans hd) B8.out)
        have DS := Lib.hid (fun e he D hD => MK8.out.lt e he D hD)
        have XB := Lib.hid (show X + ((c' 0 % W : Nat) : Int) ≤ 4194304 ∧ -4194304 ≤ X + ((c' 0 % W : Nat) : Int) from by
          have h : (c' 0) % W < W := Nat.mod_lt _ (by omega)
          generalize c' 0 % W = z at *
          omega)
        have YB := Lib.hid (show Y + ((c' 0 / W : Nat) : Int) ≤ 4194304 ∧ -4194304 ≤ Y + ((c' 0 / W : Nat) : Int) from by
          have h : (c' 0) / W < H := Nat.div_lt_of_lt_mul (by have := X0.out; have := HN.out; omega)
          generalize c' 0 / W = z at *
          omega)
        have D8 := Lib.hid (HD.out.stay M8.out.stat.bel)
        have I0 := Lib.hid (in_start (qq := q) M8.out HF.out S6.out.2.1 S6.out.2.2.1 HNUM.out HLE.out (blkStay (b := w6.heap.size) (o := .cells #[.int .i64 ((c' 0 : Nat) : Int)] 3) (by ((simp only [heap_alloc_get, heap_size_alloc, if_true]) <;> ((repeat' split) <;> first | rfl | omega))) HB8.out) S6.out.1.cap1.2.2 MK8.out HQL.out)
        have r8 := HR8.out
        simp only [World.size_alloc] at r8
        have R8 := Lib.hid r8
        have q9 : w6.heap.size < q := by have := HQ.out; simp at this; omega
        clear r8
        refine (wpIn_wide (n := 4)).1 (wpIn_rangeFunc_ownG rfl (by omega) (gf := 147) (lb := #[.pointer (some ⟨w6.heap.size + 1, 0, none⟩), .pointer (some ⟨q, 0, none⟩)]) rfl trivial enters_nbr1
          (nbr_stops X Y (X + ((c' 0 % W : Nat) : Int)) (Y + ((c' 0 / W : Nat) : Int)) W H (c' 0) (w6.heap.size + 1) q 3 (by omega) (by omega) (by omega) (by omega) (by omega) (by omega) (by omega) (by have := X0.out; have := HN.out; omega) rfl rfl XB.out.2 XB.out.1 YB.out.2 YB.out.1 w8 D8.out R8.out HQ8.out)
          kpN_t (kpN_b (by have := HQL.out; omega) HQL.out D8.out.lt) (Below.refl _ _) (fun _ => rfl)
          (InAt w ds X Y W H k b cap v sl hb sb scap N w6.heap.size q (c' 0)) (fun _ _ _ => False) (in_own zw8 DS.out) (fun _ _ _ _ _ h _ _ => h) I0.out
          (fun x => { tmps := #[fldV X Y W H (.slice (some ⟨b, 0, none⟩) k cap), .float .f32 sl, .pointer (some ⟨w.heap.size, 0, none⟩), .pointer (some ⟨w.heap.size + 1, 0, none⟩), u 4, .pointer (some ⟨hb + 1, 0, none⟩), .pointer (some ⟨hb + 1 + 1 + 1, 0, none⟩), u 7, .pointer (some ⟨w6.heap.size, 0, none⟩), u 9, .int .i64 (x.1.2 : Int), u 11, u 12, u 13, u 14, u 15, u 16, u 17, u 18, u 19, u 20, u 21, u 22, u 23, u 24, u 25, u 26, u 27, u 28, u 29, u 30, u 31, u 32, u 33, u 34, u 35, u 36, u 37, u 38, u 39, u 40, u 41, u 42, u 43, u 44, u 45, u 46,
            .pointer (some ⟨hb, 0, none⟩), .int .i64 ((m : Int) + 1), .bool true, .pointer (some ⟨hb, 0, none⟩), .iface 133 (.pointer (some ⟨hb, 0, none⟩)), anyI (c' 0), .int .i64 ((c' 0 : Nat) : Int), .pointer (some ⟨w.heap.size, 0, none⟩), reg X Y W H, .int .i64 ((c' 0 : Nat) : Int),
            .func (.func 147) #[] #[.pointer (some ⟨w6.heap.size + 1, 0, none⟩), .pointer (some ⟨q, 0, none⟩)], .int .i64 (x.1.1 : Int), .int .i64 (x.1.2 : Int), u 60, u 61, u 62, u 63, u 64, u 65, u 66, u 67, u 68, u 69, u 70, u 71, u 72, u 73, u 74, u 75, u 76, u 77, u 78, u 79, u 80, u 81, u 82, u 83, u 84, u 85, u 86, u 87, u 88, u 89, u 90, u 91, u 92, u 93, u 94, u 95, u 96, u 97], defers := [] }) ?assign ?body ?done ?stop)
        case assign =>
          intro l x W1 K hK
          simp only [encNb, encN]
          gi_wp2
          exact hK
        case body =>
          rintro l pre x W1 ⟨c1, s1, R1, m1', g1, gcap1, hI⟩ hlen
          have HI := Lib.hid hI
          have XL := Lib.hid (show x.1.2 < k from by rw [← GR.out]; exact G.out.lt _ _ _ x.2.2)
          have xl : (x.1.2 : Int) < (k : Int) := by have := XL.out; omega
          obtain ⟨cQ, fQ, zQ⟩ := blkC hI.mem.stat.rsl
          obtain ⟨bl, bf, bz⟩ := hI.mem.bools.cell XL.out
          have OW := Lib.hid (fun W4 T => hI.owes (W4 := W4) (r := w6.heap.size + 1) (B := w8.heap.size) T (by omega) (by have := HQ.out; simp at this; omega) hl8 HD.out.lt)
          clear hI hlen
          cases hr : R1 x.1.2 with
          | true =>
            rw [hr] at bl
            have SK := Lib.hid (HI.out.skip G.out x hr)
            clear hr
            gi_wp2
            exact ⟨(OW.out _ (Turn.refl _ _ _ _)).1, (OW.out _ (Turn.refl _ _ _ _)).2, SK.out⟩
          | false =>
            rw [hr] at bl
            obtain ⟨y1, y2, y3, y4, y5, y6, rr, y7, y8⟩ := HI.out.ready G.out HN.out x hr
            have HR := Lib.hid hr
            clear hr
            gi_wp2
            have M2 := Lib.hid (HI.out.mem.reach XL.out)
            have T2 := Lib.hid ((Turn.refl hb sb g1 W1).set (p := ⟨hb + 1 + 1, x.1.2, none⟩) (.inr rfl) (.bool true))
            have BX := Lib.hid (show (W1.setCell ⟨hb + 1 + 1, x.1.2, none⟩ (.bool true)).heap[w6.heap.size]? = some (.cells #[.int .i64 ((c' 0 : Nat) : Int)] 3) from (heap_setCell_other _ _ _ _ (by show w6.heap.size ≠ hb + 1 + 1; omega)).trans HI.out.box)
            obtain ⟨W2, hW2⟩ : ∃ W2, W1.setCell ⟨hb + 1 + 1, x.1.2, none⟩ (.bool true) = W2 := ⟨_, rfl⟩
            rw [hW2] at M2 T2 BX ⊢
            clear hW2 cQ fQ zQ bl bf bz
            obtain ⟨cP, fP, zP⟩ := blkC M2.out.stat.ptr
            obtain ⟨cO, fO, zO⟩ := blkC M2.out.heads.obj
            obtain ⟨cF, fF, zF⟩ := blkC M2.out.stat.fld
            obtain ⟨cS, fS, zS⟩ := blkC M2.out.stat.slo
            obtain ⟨cB, fB, zB⟩ := blkC BX.out
            have d1 := (flAt_congr HC.out (M2.out.stat.bel.block b zb)) x.1.2 XL.out
            have d2 := M2.out.heads.sp (c' 0) X0.out
            have d3 := M2.out.heads.sp x.1.2 XL.out
            have f3 := M2.out.sown.frozenAt x.1.2
            rw [Nat.zero_add] at d1 d2 d3
            have xc : ((c' 0 : Nat) : Int) < (k : Int) := by have := X0.out; omega
            have a1 := fun (W : World) => run_float_arith (P := Tryd.prog) W .add 27 .f32 (s1 (c' 0)) sl rr y7
            have ST := fun (w : World) (a : Addr) (m : Mode) => run_store_float (P := Tryd.prog) (w := w) (a := a) (m := m)
            refine wpIn_still_tail_round 21 (by kernel_rfl) ?nd ?nl (by kernel_rfl) ?_
            case nd =>
              intro i o h c e
              have hm := Array.mem_of_getElem? h
              simp only [List.mem_toArray, List.mem_cons, List.not_mem_nil, or_false] at hm
              rcases hm with rfl | rfl | rfl | rfl | rfl | rfl | rfl | rfl | rfl | rfl | rfl | rfl | rfl | rfl | rfl | rfl | rfl | rfl | rfl | rfl | rfl | rfl <;> cases e
            case nl => exact fun ⟨_, _, h⟩ => h
            simp only [List.take_succ_cons, List.take_zero, List.drop_succ_cons, List.drop_zero]
            repeat still_step
            still_call ((greater_any _ _ _).mono fun _ _ h => ⟨h.1, h.2.symm⟩)
            repeat still_step
            refine wpStill_nil ?_
            change wpList _ _ _ _ _ W2.drew
            have MD := Lib.hid (M2.out.below (Below.refl _ _).drew)
            have TD := Lib.hid T2.out.drew
            clear cP fP zP cO fO zO cF fF zF cS fS zS cB fB zB d1 d2 d3 f3 a1 T2 M2 BX
            generalize W2.drew = W3 at *
            have d3 := MD.out.heads.sp x.1.2 XL.out
            have f3 := MD.out.sown.frozenAt x.1.2
            rw [Nat.zero_add] at d3
            go_wp2
            have M4 := Lib.hid (MD.out.store (x := grtW (v x.1.2) rr) XL.out)
            have T4 := Lib.hid (TD.out.set (p := ⟨sb, x.1.2, none⟩) (.inl rfl) (.float .f32 (grtW (v x.1.2) rr)))
            obtain ⟨W5, hW5⟩ : ∃ W5, W3.setCell ⟨sb, x.1.2, none⟩ (.float .f32 (grtW (v x.1.2) rr)) = W5 := ⟨_, rfl⟩
            rw [hW5] at M4 T4 ⊢
            rw [← y8] at M4
            clear hW5 d3 f3
            obtain ⟨cP, fP, zP⟩ := blkC M4.out.stat.ptr
            have PU := Lib.hid (push_any W5 hb sb k scap g1 gcap1 m1' c1 _ M4.out.heads y4 y5 x.1.2 y3 XL.out y6)
            gi_wp2_with (refine ⟨trivial, ?_⟩; gi_at_call 123; refine (CallsIn.inRound l (callsIn_wide.2 PU.out)).mono ?_; rintro e W6 ⟨rfl, g', cap', c2, q1, q2, q3, q4, q5⟩; have Q := Lib.hid (And.intro q1 (And.intro q2 (And.intro q3 (And.intro q4 q5)))); clear q1 q2 q3 q4 q5 cP fP zP)
            have A := In.new G.out HN.out HI.out x HR.out M4.out T4.out HI.out.sz (by omega) (by omega) Q.out.1 Q.out.2.1 Q.out.2.2.1 Q.out.2.2.2.1 Q.out.2.2.2.2
            exact ⟨(OW.out _ A.2).1, (OW.out _ A.2).2, A.1⟩
        case done =>
          rintro D xs W1 hD hS hI hK
          obtain ⟨N', hlt, hl2⟩ := in_end hI hS
          obtain ⟨_, _, _, _, _, _, hIn⟩ := hI
          exact ⟨N', hlt, rfl, ⟨rfl, rfl, rfl, rfl, rfl, rfl⟩, ⟨⟨D, rfl, by omega, hK, fun e he hc => by have := DS.out e he D hc; omega⟩, hIn.marks⟩, hl2⟩
        case stop =>
          rintro D c pre W1 _ _ h _
          exact h.elim
end Go.Proofs.YtnbpapbpiknnnabDoor
