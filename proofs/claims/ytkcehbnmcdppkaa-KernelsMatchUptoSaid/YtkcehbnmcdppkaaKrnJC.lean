/- Lemmas and contracts for the proof that the last text of this claim holds. -/
import Derived.Test.YtkcehbnmcdppkaaKrnJB
import Derived.Laws.CopyRow
import Derived.BigRegion
import Derived.Deep.RegionHeld3
import Derived.Laws.CopyOwn
import Derived.Laws.BitsAllLaws

/- The values around a cell: a block that was made ahead, filled row by row; around's closure. -/
namespace Go.Proofs.Ytkcehbnmcdppkaa
open Go.RowKit Fl
set_option linter.unusedVariables false

/-- A block of N singles of which the first k are known. -/
def ValsTo (w : World) (g N k : Nat) (u : Nat → Nat) : Prop := ∃ cs, w.heap[g]? = some (.cells cs 22) ∧ cs.size = N ∧ ∀ j, j < k → cs[j]? = some (.float .f32 (u j))
theorem ValsTo.congr {w w' : World} {g N k : Nat} {u : Nat → Nat} (h : ValsTo w g N k u) (e : w'.heap[g]? = w.heap[g]?) : ValsTo w' g N k u := by
  obtain ⟨cs, h1, h2⟩ := h
  exact ⟨cs, e.trans h1, h2⟩
theorem ValsTo.none {w : World} {g N k : Nat} {u : Nat → Nat} (h : ValsTo w g N k u) (u' : Nat → Nat) : ValsTo w g N 0 u' := by
  obtain ⟨cs, h1, h2, _⟩ := h
  exact ⟨cs, h1, h2, fun j hj => by omega⟩
theorem ValsTo.flAt {w : World} {g N : Nat} {u : Nat → Nat} (h : ValsTo w g N N u) : FlAt w g 0 N u := by
  obtain ⟨cs, h1, h2, h3⟩ := h
  intro i hi
  rw [Nat.zero_add, (blkC h1).1]; exact h3 i hi

/-- One row is copied. -/
theorem copy_vals {w : World} {b n g N s sLen sCap o dCap m : Nat} {ty : TypeId} {v u : Nat → Nat} (hs : FlAt w b 0 n v) (hd : ValsTo w g N o u) (hu : ∀ j, j < m → u (o + j) = v (s + j)) (h1 : s + m ≤ n) (h2 : o + m ≤ N) (hm : m = min sLen m) :
    ∃ w', (Builtin.copy_ #[39, 39] ty #[.slice (some ⟨g, o, none⟩) m dCap, .slice (some ⟨b, s, none⟩) sLen sCap]).run Try.prog w = .ok (.int .i64 (m : Int)) w' ∧ ValsTo w' g N (o + m) u ∧ BelowM (fun k => k = g) w.heap.size w w' := by
  obtain ⟨ds, d1, d2, d3⟩ := hd
  have hinfo : (Try.prog.info? 22).map (·.size) = some 1 := by kernel_rfl
  obtain ⟨cs, hcs⟩ : ∃ cs : List Value, cs = (List.range m).map fun j => Value.float .f32 (v (s + j)) := ⟨_, rfl⟩
  have hl : cs.length = m := by rw [hcs]; simp
  have hg : ∀ j x, cs[j]? = some x → j < m ∧ x = .float .f32 (v (s + j)) := by
    intro j x hj
    rw [hcs, List.getElem?_map] at hj
    by_cases c : j < m
    · rw [List.getElem?_range c] at hj
      exact ⟨c, (Option.some.inj hj).symm⟩
    · rw [List.getElem?_eq_none (by simp; omega)] at hj
      cases hj
  have lo : (ds.toList.take o).length = o := by simp; omega
  have hr := run_copy_row (P := Try.prog) w 39 39 ty 22 g o m dCap ⟨b, s, none⟩ sLen sCap ds 22 cs Try.underlying39 hinfo d1 (by rw [hl]; exact hm)
    (fun j x hj => by
      obtain ⟨e1, rfl⟩ := hg j x hj
      rw [Go.WideShapes.add_plain]
      have := hs (s + j) (by omega)
      rwa [Nat.zero_add] at this) (by rw [hl, d2]; omega)
    (fun x hx => by
      obtain ⟨j, hj⟩ := List.getElem?_of_mem hx
      obtain ⟨_, rfl⟩ := hg j x hj
      rfl)
  rw [hl] at hr
  refine ⟨_, hr, ⟨_, setRow_heap w g ds _ _ _ d1, ?_, ?_⟩, ⟨rfl, rfl, rfl, by simp [World.setRow], fun k hk hm => setRow_other w g k _ hm⟩⟩
  · simp; omega
  · intro j hj
    simp only [List.getElem?_toArray]
    by_cases c1 : j < o
    · rw [List.append_assoc, List.getElem?_append_left (by simp; omega), List.getElem?_take, if_pos c1, Array.getElem?_toList]; exact d3 j c1
    · rw [List.append_assoc, List.getElem?_append_right (by rw [lo]; omega), lo, List.getElem?_append_left (by rw [hl]; omega), hcs, List.getElem?_map]
      have := hu (j - o) (by omega)
      rw [show o + (j - o) = j by omega] at this
      simp [show j - o < m by omega, this]

/-- The value number j of those around the cell number i of a region that is smaller on each side. -/
def winW (v : Nat → Nat) (W W' side i j : Nat) : Nat := v (i / W' * W + i % W' + j / side * W + j % side)
theorem winW_at (v : Nat → Nat) (W W' side i r j : Nat) (hj : j < side) : winW v W W' side i (r * side + j) = v (i / W' * W + i % W' + r * W + j) := by
  unfold winW
  rw [show (r * side + j) / side = r from by rw [Nat.add_comm, Nat.add_mul_div_right _ _ (by omega), Nat.div_eq_of_lt hj, Nat.zero_add], show (r * side + j) % side = j from by rw [Nat.add_comm, Nat.add_mul_mod_self_right]; exact Nat.mod_eq_of_lt hj]

/-- A function of the values around a cell, which lie in the block vals. -/
structure OfAt (g : Nat) (caps : Array Value) (vals N : Nat) (Fn : (Nat → Nat) → Nat) (w0 : World) : Prop where
  run : ∀ (u : Nat → Nat) (W : World), BelowM (fun k => k = vals) w0.heap.size w0 W → ValsTo W vals N N u → allB N (fun j => hgtB (u j)) = true →
    Calls Try.prog g (#[.slice (some ⟨vals, 0, none⟩) N N] ++ caps) W fun e W' => e = .returned (.float .f32 (Fn u)) ∧ Below W.heap.size W W'

/-- What around's closure holds. -/
structure ACaps (w : World) (X Y : Int) (W H n b cap : Nat) (v : Nat → Nat) (p pr ps pv po vals rho side N g : Nat) (caps : Array Value) : Prop where
  fld : w.heap[p]? = some (fldO X Y W H (.slice (some ⟨b, 0, none⟩) n cap))
  rad : w.heap[pr]? = some (.cells #[.int .i64 rho] 3)
  sid : w.heap[ps]? = some (.cells #[.int .i64 side] 3)
  vls : w.heap[pv]? = some (.cells #[.slice (some ⟨vals, 0, none⟩) N N] 39)
  ofb : w.heap[po]? = some (.cells #[.func (.func g) #[] caps] 55)
  row : FlAt w b 0 n v
  ne : p ≠ vals ∧ pr ≠ vals ∧ ps ≠ vals ∧ pv ≠ vals ∧ po ≠ vals ∧ b ≠ vals
theorem ACaps.stay {w w' : World} {X Y : Int} {W H n b cap : Nat} {v : Nat → Nat} {p pr ps pv po vals rho side N g : Nat} {caps : Array Value} (h : ACaps w X Y W H n b cap v p pr ps pv po vals rho side N g caps) (hn : 1 ≤ n) (hb : BelowM (fun k => k = vals) w.heap.size w w') : ACaps w' X Y W H n b cap v p pr ps pv po vals rho side N g caps := by
  obtain ⟨h1, h2, h3, h4, h5, h6, n1, n2, n3, n4, n5, n6⟩ := h
  exact ⟨blkStayM h1 hb n1, blkStayM h2 hb n2, blkStayM h3 hb n3, blkStayM h4 hb n4, blkStayM h5 hb n5, flAt_congr h6 (hb.block _ (World.block_lt_of_cell? w _ (h6 0 hn)) n6), n1, n2, n3, n4, n5, n6⟩

theorem enters_around1 : Enters 145 := by intro args W; simp [callFunc, Try.func145, Try.f145]

theorem slice_v_lh (g N lo hi : Nat) (h : lo ≤ hi) (h2 : hi ≤ N) (h3 : lo < N) (W : World) : (Instr.slice 39 (.slice (some ⟨g, 0, none⟩) N N) (some (.int .i64 (lo : Int))) (some (.int .i64 (hi : Int))) none).run Try.prog W = .ok (.slice (some ⟨g, lo, none⟩) (hi - lo) (N - lo)) W := by
  have hs : (sizeOf (Try.prog.elem 39)).run Try.prog W = .ok 1 W := by kernel_rfl
  rw [run_slice_lh W 39 _ N N (by kernel_rfl) .i64 .i64 lo hi (by omega) (by omega) (by omega), hs]
  show Result.ok (sliced _ _ _ _ _) W = _
  unfold sliced
  rw [if_neg (by omega)]
  simp [Addr.add]; omega
theorem slice_v_l (g n cap lo : Nat) (h : lo < n) (hc : n ≤ cap) (W : World) : (Instr.slice 39 (.slice (some ⟨g, 0, none⟩) n cap) (some (.int .i64 (lo : Int))) none none).run Try.prog W = .ok (.slice (some ⟨g, lo, none⟩) (n - lo) (cap - lo)) W := by
  have hs : (sizeOf (Try.prog.elem 39)).run Try.prog W = .ok 1 W := by kernel_rfl
  rw [run_slice_l W 39 _ n cap (by kernel_rfl) .i64 lo (by omega) (by omega), hs]
  show Result.ok (sliced _ _ _ _ _) W = _
  unfold sliced
  rw [if_neg (by omega)]
  simp [Addr.add]; omega

set_option maxRecDepth 100000 in
set_option maxHeartbeats 4000000 in
theorem around1_any (X Y : Int) (W H n b cap : Nat) (v : Nat → Nat) (p pr ps pv po vals rho side N W' H' g : Nat) (caps : Array Value) (Fn : (Nat → Nat) → Nat) (w : World) (hk : ACaps w X Y W H n b cap v p pr ps pv po vals rho side N g caps)
    (h0 : checkR X Y W H = 0) (hn : n = W * H) (hcap : n ≤ cap) (hh : allB n (fun i => hgtB (v i)) = true) (hs : side = 2 * rho + 1) (hN : N = side * side) (hW : W = W' + 2 * rho) (hH : H = H' + 2 * rho) (hW1 : 1 ≤ W') (hH1 : 1 ≤ H') (hcall : Enters g) (hof : OfAt g caps vals N Fn w) :
    Clos2M (fun k => k = vals) (fun _ w => ValsTo w vals N 0 v) 145 #[.pointer (some ⟨p, 0, none⟩), .pointer (some ⟨pr, 0, none⟩), .pointer (some ⟨ps, 0, none⟩), .pointer (some ⟨pv, 0, none⟩), .pointer (some ⟨po, 0, none⟩)] (X + rho) (Y + rho) W' H' (fun i => Fn (winW v W W' side i)) w := by
  obtain ⟨b1, b2, b3, b4, b5, b6, b7, b8, b9⟩ := checkR_zero h0
  intro x y i w2 h1 h2 h3 h4 h5 hb hinv
  have en : ((W : Int) * (H : Int)) = (n : Int) := by rw [hn]; simp
  have hn2 : n ≤ 65536 := by omega
  obtain ⟨ex, ey⟩ := place_of hW1 h1 h2 h3 h5
  have ha : i % W' < W' := Nat.mod_lt _ (by omega)
  have hbq : i / W' < H' := by omega
  have WIN := Lib.hid (fun r j (hj : j < side) => winW_at v W W' side i r j hj)
  show Calls _ _ _ _ fun e W'' => e = .returned (.float .f32 (Fn (winW v W W' side i))) ∧ ValsTo W'' vals N 0 v ∧ BelowM (fun k => k = vals) w2.heap.size w2 W''
  generalize hFN : Fn (winW v W W' side i) = res
  have HFN := Lib.hid hFN
  obtain ⟨U, hU⟩ : ∃ U, U = winW v W W' side i := ⟨_, rfl⟩
  rw [← hU] at HFN WIN
  clear hU hFN
  obtain ⟨qa, hqa⟩ : ∃ q, i % W' = q := ⟨_, rfl⟩
  obtain ⟨qb, hqb⟩ : ∃ q, i / W' = q := ⟨_, rfl⟩
  rw [hqa] at ex ha WIN
  rw [hqb] at ey hbq WIN
  obtain ⟨F, hF⟩ : ∃ F, qb * W + qa = F := ⟨_, rfl⟩
  rw [hF] at WIN
  have HROW := Lib.hid (show ∀ r, r < side → F + r * W + side ≤ n from fun r hr => by
    have q : (qb + r + 1) * W ≤ H * W := Nat.mul_le_mul_right _ (by omega)
    rw [hn, Nat.mul_comm W H, ← hF]
    rw [Nat.add_mul, Nat.add_mul, Nat.one_mul] at q
    omega)
  have HDST := Lib.hid (show ∀ r, r < side → r * side + side ≤ N from fun r hr => by
    have q : (r + 1) * side ≤ side * side := Nat.mul_le_mul_right _ (by omega)
    rw [Nat.add_mul, Nat.one_mul] at q
    omega)
  have hF1 := HROW.out 0 (by omega)
  have HNN := Lib.hid hN
  have hN2 : N ≤ 263169 := by
    have : side * side ≤ 513 * 513 := Nat.mul_le_mul (by omega) (by omega)
    omega
  have K2 := hk.stay (by omega) hb
  have IX := Lib.hid (fun w => index_any X Y W H F (x - rho) (y - rho) w (by omega) (by omega) (by omega) (by omega) (by omega) (by omega) (by omega) (by omega) (by omega) (by omega) (by omega) (by rw [← hF, show y - (rho : Int) - Y = qb by omega, show x - (rho : Int) - X = qa by omega]; simp) (by omega))
  have HGU := Lib.hid (show allB N (fun j => hgtB (U j)) = true from allB_iff.2 fun j hj => by
    have hj1 : j % side < side := Nat.mod_lt _ (by omega)
    have hj2 : j / side < side := Nat.div_lt_of_lt_mul (by omega)
    have := WIN.out (j / side) (j % side) hj1
    rw [Nat.mul_comm, Nat.div_add_mod] at this
    rw [this]
    exact allB_iff.1 hh _ (by have := HROW.out _ hj2; omega))
  have OF := Lib.hid (fun W3 (hB : BelowM (fun k => k = vals) w2.heap.size w2 W3) => hof.run U W3 (hb.trans (hB.mono hb.size)))
  rw [HFN.out] at OF
  have zv : vals < w2.heap.size := by
    obtain ⟨_, q, _⟩ := hinv
    exact (blkC q).2.2
  have HK2 := Lib.hid K2
  have V0 := Lib.hid (hinv.none U)
  have ZB := Lib.hid (World.block_lt_of_cell? w2 _ (K2.row 0 (by omega)))
  obtain ⟨cF, fF, zF⟩ := blkC K2.fld
  obtain ⟨cR, fR, zR⟩ := blkC K2.rad
  obtain ⟨cS, fS, zS⟩ := blkC K2.sid
  obtain ⟨cV, fV, zV⟩ := blkC K2.vls
  obtain ⟨cO, fO, zO⟩ := blkC K2.ofb
  have u1 : IntKind.i64.wrap (x - (rho : Int)) = x - rho := IntWalk.i64_in _ (by omega)
  have u2 : IntKind.i64.wrap (y - (rho : Int)) = y - rho := IntWalk.i64_in _ (by omega)
  have hsideI : (side : Int) ≤ 513 := by omega
  have hWI : (W : Int) ≤ 512 := by omega
  have hNI : (N : Int) ≤ 263169 := by omega
  have hnI : (n : Int) ≤ 65536 := by omega
  have hside1 : 1 ≤ side := by omega
  have hcapn := Lib.hid hcap
  unfold Enters at hcall
  clear hk hof hn en hh hs hN hW hH hF ex ey ha hbq hqa hqb h1 h2 h3 h4 h5 hb hinv K2 b1 b2 b3 b4 b5 b6 b7 b8 b9 h0 hcap
  go_enter Try.func145, Try.ntmps145
  go_wp2_with (go_at_call 112; refine (IX.out _).mono ?_; rintro e w3 ⟨rfl, rfl⟩)
  go_loopw [22] (fun s22 wr => ∃ r : Nat, r ≤ side ∧ s22 = .int .i64 r ∧ ValsTo wr vals N (r * side) U ∧ BelowM (fun k => k = vals) w2.heap.size w2 wr) (fun s22 _ => side - (intOf s22).toNat)
  case atStart => exact ⟨0, Nat.zero_le _, rfl, by rw [Nat.zero_mul]; exact V0.out.congr (heap_alloc_old _ _ zv), Below.toM (by repeat (first | exact Below.refl _ _ | refine Below.alloc ?_ (by first | omega | (simp; done) | (simp; omega)) _ | refine Below.setCell ?_ (by first | omega | (simp; done) | (simp; omega)) _ | refine Below.drew ?_))⟩
  case round =>
    obtain ⟨r, hr, rfl, hv, hb3⟩ := hrel
    have HB3 := Lib.hid hb3
    have HV3 := Lib.hid hv
    clear cF fF cR fR cS fS cV fV cO fO hv
    have K3 := HK2.out.stay (by omega) hb3
    obtain ⟨cF, fF, zF3⟩ := blkC K3.fld
    obtain ⟨cS, fS, zS3⟩ := blkC K3.sid
    obtain ⟨cV, fV, zV3⟩ := blkC K3.vls
    obtain ⟨cO, fO, zO3⟩ := blkC K3.ofb
    have HROW3 := Lib.hid K3.row
    clear K3 hb3
    by_cases hlt : r < side
    · have hq1 := HROW.out r hlt
      have hq2 := HDST.out r hlt
      obtain ⟨rs, hrs⟩ : ∃ q, r * side = q := ⟨_, rfl⟩
      obtain ⟨rW, hrW⟩ : ∃ q, r * W = q := ⟨_, rfl⟩
      rw [hrW] at hq1
      rw [hrs] at hq2 HV3
      obtain ⟨rs2, hrs2⟩ : ∃ q, rs + side = q := ⟨_, rfl⟩
      obtain ⟨q, hq⟩ : ∃ q, F + rW = q := ⟨_, rfl⟩
      rw [hq] at hq1
      rw [hrs2] at hq2
      have e1 : ((r + 1 : Nat) : Int) * (side : Int) = (rs2 : Int) := by rw [← hrs2, ← hrs, ← Int.natCast_mul, Nat.add_mul, Nat.one_mul]
      have u3 : IntKind.i64.wrap ((r : Int) * (side : Int)) = (rs : Int) := by
        rw [show (r : Int) * (side : Int) = (rs : Int) from by rw [← hrs]; simp]
        exact IntWalk.i64_in _ (by omega)
      have u4 : IntKind.i64.wrap (((r : Int) + 1) * (side : Int)) = (rs2 : Int) := by
        rw [show (r : Int) + 1 = ((r + 1 : Nat) : Int) by simp, e1]
        exact IntWalk.i64_in _ (by omega)
      have u5 : IntKind.i64.wrap ((r : Int) * (W : Int)) = (rW : Int) := by
        rw [show (r : Int) * (W : Int) = (rW : Int) from by rw [← hrW]; simp]
        exact IntWalk.i64_in _ (by omega)
      have u6 : IntKind.i64.wrap ((F : Int) + (rW : Int)) = (q : Int) := by rw [← hq, IntWalk.i64_in _ (by omega)]; simp
      have q1 : ¬ (cap = q) := by have := hcapn.out; omega
      have q2 : ¬ (N = rs) := by omega
      have q3 : rs2 - rs = side := by omega
      have q4 : (rs : Int) ≤ (rs2 : Int) := by omega
      have q5 : (rs2 : Int) ≤ (N : Int) := by omega
      have q6 : rs ≤ rs2 := by omega
      have q7 : (q : Int) ≤ (n : Int) := by omega
      have q8 : n ≤ cap := hcapn.out
      obtain ⟨w4, hc, V4, B4⟩ := copy_vals (w := wr.drew) (ty := 3) (b := b) (n := n) (g := vals) (N := N) (s := q) (sLen := n - q) (sCap := cap - q) (o := rs) (dCap := N - rs) (m := side) (v := v) (u := U) (fun i hi => HROW3.out i hi) (HV3.out.congr rfl)
        (fun j hj => by have := WIN.out r j hj; rw [hrs, hrW, hq] at this; exact this) (by omega) (by omega) (by omega)
      have HV4 := Lib.hid (show ValsTo w4 vals N ((r + 1) * side) U from by rw [Nat.add_mul, Nat.one_mul, hrs]; exact V4)
      have HB4 := Lib.hid (show BelowM (fun k => k = vals) w2.heap.size w2 w4 from HB3.out.drew.trans (B4.mono HB3.out.size))
      have hrI : (r : Int) < (side : Int) := by omega
      clear V4 B4 e1 hrs hrW hq hrs2
      go_wp2_with fail
      go_region
      all_goals
        go_wp2
        go_roundw
        case rel => exact ⟨r + 1, hlt, by go_num, HV4.out, HB4.out⟩
        case measure => simp [intOf]; omega
    · have hre : r = side := by omega
      have HV4 := Lib.hid (show ValsTo wr vals N N U from by have := HV3.out; rw [hre, ← HNN.out] at this; exact this)
      have CC := Lib.hid (OF.out wr HB3.out HV4.out HGU.out)
      go_wp2_with fail
      refine CC.out.mono ?_
      rintro e w4 ⟨rfl, hb4⟩
      have H9 := Lib.hid (And.intro (HV4.out.congr (hb4.block vals (by obtain ⟨_, q, _⟩ := HV4.out; exact (blkC q).2.2))) (HB3.out.trans ((Below.toM hb4).mono HB3.out.size)))
      clear hb4 cF fF cS fS cV fV cO fO
      go_wp2
      go_ret
      exact ⟨rfl, H9.out.1.none v, H9.out.2⟩
end Go.Proofs.Ytkcehbnmcdppkaa

/- Contracts: the closures of Kernel and Blur; around. -/
namespace Go.Proofs.Ytkcehbnmcdppkaa
open Go.RowKit Fl
set_option linter.unusedVariables false

theorem BelowM.out {M : Nat → Prop} {B : Nat} {w w' : World} (h : BelowM M B w w') (hM : ∀ k, k < B → ¬ M k) : Below B w w' := ⟨h.os, h.tape, h.output, h.size, fun k hk => h.block k hk (hM k hk)⟩

theorem enters_kernel1 : Enters 89 := by intro args W; simp [callFunc, Try.func89, Try.f89]
theorem enters_blur1 : Enters 98 := by intro args W; simp [callFunc, Try.func98, Try.f98]

set_option maxHeartbeats 1000000 in
theorem kernel1_of (kx kb koff kc vals m : Nat) (kv : Nat → Nat) (w0 : World) (hm : m < 4000) (hkc : m + 1 ≤ kc) (hx : w0.heap[kx]? = some (.cells #[.slice (some ⟨kb, koff, none⟩) (m + 1) kc] 39)) (hk : FlAt w0 kb koff (m + 1) kv) (hkh : allB (m + 1) (fun i => hgtB (kv i)) = true) (n1 : kx ≠ vals) (n2 : kb ≠ vals) :
    OfAt 89 #[.pointer (some ⟨kx, 0, none⟩)] vals (m + 1) (fun u => krnW kv u m) w0 := by
  refine ⟨fun u W hB hv hu => ?_⟩
  have zk : kb < w0.heap.size := World.block_lt_of_cell? w0 _ (hk 0 (by omega))
  have WG := Lib.hid (weigh_any kb koff kc vals (m + 1) m kv u W hm hkc (Nat.le_refl _) (flAt_congr hk (hB.block kb zk n2)) hv.flAt hkh hu)
  obtain ⟨cK, fK, zK⟩ := blkC (blkStayM hx hB n1)
  clear hx hk hkh hB hv hu
  go_enter Try.func89, Try.ntmps89
  go_wp2_with (go_at_call 90; refine WG.out.mono ?_; rintro e w4 ⟨rfl, hb4⟩; have HB4 := Lib.hid hb4; clear hb4)
  go_ret
  exact ⟨rfl, HB4.out⟩

set_option maxHeartbeats 1000000 in
theorem blur1_of (vals m N : Nat) (w0 : World) (hm : m < 4000) (hN : m + 1 = N) : OfAt 98 #[] vals N (fun u => quoW (sumW u m) (floatOfInt .f32 (N : Int))) w0 := by
  refine ⟨fun u W hB hv hu => ?_⟩
  rw [← hN] at hv hu
  have SR := Lib.hid (sumRows_any vals (m + 1) m u W hm (Nat.le_refl _) hv.flAt hu)
  obtain ⟨r, hr, _⟩ := kmean_parts (u := 20) (f := u) (n := m) (by omega) hm (fun i hi => hgt_bd (allB_iff.1 hu i (by omega)))
  rw [hN] at SR hr
  have er : quoW (sumW u m) (floatOfInt .f32 (N : Int)) = r := by unfold quoW; rw [hr]; rfl
  show Calls _ _ _ _ fun e W' => e = .returned (.float .f32 (quoW (sumW u m) (floatOfInt .f32 (N : Int)))) ∧ _
  rw [er]
  have a0 := fun (W : World) => run_float_arith (P := Try.prog) W .quo 22 .f32 _ _ _ hr
  clear hB hv hu er hr
  go_enter Try.func98, Try.ntmps98
  go_wp2_with (go_at_call 99; refine SR.out.mono ?_; rintro e w4 ⟨rfl, hb4⟩; have HB4 := Lib.hid hb4; clear hb4)
  go_ret
  exact ⟨rfl, HB4.out⟩

set_option maxRecDepth 100000 in
set_option maxHeartbeats 4000000 in
theorem fAround_no (X Y : Int) (W H : Nat) (s : Value) (rho g : Nat) (caps : Array Value) (w : World) (h0 : checkR X Y W H = 0) (hr : rho ≤ 256) (h : W ≤ 2 * rho ∨ H ≤ 2 * rho) :
    Calls Try.prog 88 #[fldV X Y W H s, .int .i64 rho, .func (.func g) #[] caps] w fun e w' => e = .returned (.tuple #[fldV 0 0 0 0 (.slice none 0 0), .int .i64 10]) ∧ Below w.heap.size w w' := by
  obtain ⟨b1, b2, b3, b4, b5, b6, b7, b8, b9⟩ := checkR_zero h0
  have WD := Lib.hid (fun w => widen_any X Y W H (-(rho : Int)) w (by omega) (by omega) (by omega) (by omega) (by omega) (by omega) (by omega) (by omega) (by omega) (by omega))
  have u1 : IntKind.i64.wrap (-(rho : Int)) = -(rho : Int) := IntWalk.i64_in _ (by omega)
  have hc : (W : Int) + 2 * -(rho : Int) < 1 ∨ ¬ ((W : Int) + 2 * -(rho : Int) < 1) ∧ (H : Int) + 2 * -(rho : Int) < 1 := by omega
  clear h h0 b1 b2 b3 b4 b5 b6 b7 b8 b9 hr
  generalize (W : Int) + 2 * -(rho : Int) = W' at *
  generalize (H : Int) + 2 * -(rho : Int) = H' at *
  rcases hc with c | ⟨c1, c⟩
  all_goals
    go_enter Try.func88, Try.ntmps88
    go_wp2_with (go_at_call 143; (with_reducible refine Calls.mono (WD.out _) ?_); rintro e w1 ⟨rfl, hb1⟩; have HS1 := Lib.hid (blkStay (b := w.heap.size + 1 + 1 + 1) (o := fldO 0 0 0 0 (.slice none 0 0)) (by ((simp only [heap_alloc_get, heap_size_alloc, if_true]) <;> ((repeat' split) <;> first | rfl | omega))) hb1); have hB1 := Lib.hid (Below.trans (show Below w.heap.size w _ from (by repeat (first | exact Below.refl _ _ | refine Below.alloc ?_ (by first | omega | (simp; done) | (simp; omega)) _ | refine Below.setCell ?_ (by first | omega | (simp; done) | (simp; omega)) _ | refine Below.drew ?_))) (Below.mono hb1 (by first | omega | (simp; done) | (simp; omega)))); clear hb1; obtain ⟨cS, fS, zS⟩ := blkC HS1.out)
    have HRES := fun (u1 u2 u3 u4 u5 : Value) (o : Obj) => (blkC ((heap_alloc_old (set5 w1 (w.heap.size + 1 + 1 + 1) u1 u2 u3 u4 u5) o (by rw [set5_size]; exact zS)).trans (set5_self u1 u2 u3 u4 u5 HS1.out))).1
    simp only [set5] at HRES
    refine bodyPost_ret (v := .tuple #[fldV 0 0 0 0 (.slice none 0 0), .int .i64 10]) (by simp [results, Try.results88, go_sem, HRES]) rfl ?_
    exact ⟨rfl, by repeat (first | exact hB1.out | refine Below.alloc ?_ (by first | (have := hB1.out.size; simp; omega) | omega) _ | refine Below.setCell ?_ (by first | omega | (simp; done) | (simp; omega)) _)⟩
end Go.Proofs.Ytkcehbnmcdppkaa

/- Contract: around, of a region that has cells left. -/
namespace Go.Proofs.Ytkcehbnmcdppkaa
open Go.RowKit Fl
set_option linter.unusedVariables false

set_option maxRecDepth 100000 in
set_option maxHeartbeats 4000000 in
theorem fAround_ok (X Y : Int) (W H n b cap : Nat) (v : Nat → Nat) (rho side N W' H' g : Nat) (caps : Array Value) (Fn : (Nat → Nat) → Nat) (w : World) (h0 : checkR X Y W H = 0) (hn : n = W * H) (hr : FlAt w b 0 n v) (hcap : n ≤ cap) (hh : allB n (fun i => hgtB (v i)) = true)
    (hs : side = 2 * rho + 1) (hN : N = side * side) (hW : W = W' + 2 * rho) (hH : H = H' + 2 * rho) (hW1 : 1 ≤ W') (hH1 : 1 ≤ H') (hcall : Enters g) (hof : ∀ vals w0, Below w.heap.size w w0 → w.heap.size ≤ vals → OfAt g caps vals N Fn w0) :
    Calls Try.prog 88 #[fldV X Y W H (.slice (some ⟨b, 0, none⟩) n cap), .int .i64 rho, .func (.func g) #[] caps] w (ScPost w (X + rho) (Y + rho) W' H' (H' * W') (fun i => Fn (winW v W W' side i)) 0) := by
  obtain ⟨b1, b2, b3, b4, b5, b6, b7, b8, b9⟩ := checkR_zero h0
  have en : ((W : Int) * (H : Int)) = (n : Int) := by rw [hn]; simp
  have hn2 : n ≤ 65536 := by omega
  have hn1 : 1 ≤ n := by rw [hn]; exact Nat.mul_pos (by omega) (by omega)
  have hN2 : N ≤ 65536 := by
    have : side * side ≤ W * H := Nat.mul_le_mul (by omega) (by omega)
    omega
  have zb : b < w.heap.size := World.block_lt_of_cell? w _ (hr 0 hn1)
  have WD := Lib.hid (fun w => show Calls Try.prog 143 #[reg X Y W H, .int .i64 (-(rho : Int))] w fun e w' => e = .returned (reg (X + rho) (Y + rho) W' H') ∧ Below w.heap.size w w' by
    have := widen_any X Y W H (-(rho : Int)) w (by omega) (by omega) (by omega) (by omega) (by omega) (by omega) (by omega) (by omega) (by omega) (by omega)
    rw [show X - -(rho : Int) = X + rho by omega, show Y - -(rho : Int) = Y + rho by omega, show (W : Int) + 2 * -(rho : Int) = W' by omega, show (H : Int) + 2 * -(rho : Int) = H' by omega] at this
    exact this)
  have u1 : IntKind.i64.wrap (-(rho : Int)) = -(rho : Int) := IntWalk.i64_in _ (by omega)
  have u2 : IntKind.i64.wrap (2 * (rho : Int)) = 2 * rho := IntWalk.i64_in _ (by omega)
  have u3 : IntKind.i64.wrap (2 * (rho : Int) + 1) = (side : Int) := by rw [IntWalk.i64_in _ (by omega)]; omega
  have u4 : IntKind.i64.wrap ((side : Int) * (side : Int)) = (N : Int) := by
    rw [show (side : Int) * (side : Int) = (N : Int) from by rw [hN]; simp]
    exact IntWalk.i64_in _ (by omega)
  have hmk := make_f32 N hN2
  have c1 : ¬ ((W' : Int) < 1) := by omega
  have c2 : ¬ ((H' : Int) < 1) := by omega
  have HC := Lib.hid (fun p pr ps pv po vals w1 hk hof => around1_any X Y W H n b cap v p pr ps pv po vals rho side N W' H' g caps Fn w1 hk h0 hn hcap hh hs hN hW hH hW1 hH1 hcall hof)
  have HB := Lib.hid (fun M Inv gg cc f w hst hi he hcl => byPlaceM_any M Inv (X + rho) (Y + rho) W' H' (H' * W') gg cc f w hst hi he hcl (by omega) (by omega) (by omega) (by omega) hW1 (by omega) hH1 (by omega) rfl (by
    have q : H' * W' ≤ W * H := by rw [Nat.mul_comm W H]; exact Nat.mul_le_mul (by omega) (by omega)
    omega))
  have HOF := Lib.hid hof
  have HR := Lib.hid hr
  have HN := Lib.hid hN2
  clear hW hH hn hs hN h0 hof hr hh hcap b1 b2 b3 b4 b5 b6 b7 b8 b9 en hW1 hH1 hn2 hN2 hcall
  go_enter Try.func88, Try.ntmps88
  go_upto_region 6 with (go_at_call 143; (with_reducible refine Calls.mono (WD.out _) ?_); rintro e w1 ⟨rfl, hb1⟩; have HP1 := Lib.hid (blkStay (b := w.heap.size) (o := fldO X Y W H (.slice (some ⟨b, 0, none⟩) n cap)) (by ((simp only [heap_alloc_get, heap_size_alloc, if_true]) <;> ((repeat' split) <;> first | rfl | omega))) hb1); have HR1 := Lib.hid (blkStay (b := w.heap.size + 1) (o := .cells #[.int .i64 rho] 3) (by ((simp only [heap_alloc_get, heap_size_alloc, if_true]) <;> ((repeat' split) <;> first | rfl | omega))) hb1); have HO1 := Lib.hid (blkStay (b := w.heap.size + 1 + 1) (o := .cells #[.func (.func g) #[] caps] 55) (by ((simp only [heap_alloc_get, heap_size_alloc, if_true]) <;> ((repeat' split) <;> first | rfl | omega))) hb1); have HS1 := Lib.hid (blkStay (b := w.heap.size + 1 + 1 + 1) (o := fldO 0 0 0 0 (.slice none 0 0)) (by ((simp only [heap_alloc_get, heap_size_alloc, if_true]) <;> ((repeat' split) <;> first | rfl | omega))) hb1); have hB1 := Lib.hid (Below.trans (show Below w.heap.size w _ from (by repeat (first | exact Below.refl _ _ | refine Below.alloc ?_ (by first | omega | (simp; done) | (simp; omega)) _ | refine Below.setCell ?_ (by first | omega | (simp; done) | (simp; omega)) _ | refine Below.drew ?_))) (Below.mono hb1 (by first | omega | (simp; done) | (simp; omega)))); clear hb1; obtain ⟨cS, fS, zS⟩ := blkC HS1.out; obtain ⟨cR, fR, zR⟩ := blkC HR1.out)
  have hB5 : Below w1.heap.size w1 ((((w1.alloc (regObj (X + rho) (Y + rho) W' H')).alloc (.cells #[.int .i64 side] 3)).alloc (.cells (madeCells #[Value.float .f32 0] N) 22)).alloc (.cells #[.slice (some ⟨w1.heap.size + 1 + 1, 0, none⟩) N N] 39)) := (by repeat (first | exact Below.refl _ _ | refine Below.alloc ?_ (by first | omega | (simp; done) | (simp; omega)) _ | refine Below.setCell ?_ (by first | omega | (simp; done) | (simp; omega)) _ | refine Below.drew ?_))
  have HP5 := Lib.hid (blkStay HP1.out hB5)
  have HR5 := Lib.hid (blkStay HR1.out hB5)
  have HO5 := Lib.hid (blkStay HO1.out hB5)
  have HS5 := Lib.hid (blkStay HS1.out hB5)
  have HG5 := Lib.hid (show ((((w1.alloc (regObj (X + rho) (Y + rho) W' H')).alloc (.cells #[.int .i64 side] 3)).alloc (.cells (madeCells #[Value.float .f32 0] N) 22)).alloc (.cells #[.slice (some ⟨w1.heap.size + 1 + 1, 0, none⟩) N N] 39)).heap[w1.heap.size]? = some (regObj (X + rho) (Y + rho) W' H') from by (first | (rw [heap_alloc_get, if_pos rfl]; done) | ((simp only [heap_alloc_get, heap_size_alloc, if_true]) <;> ((repeat' split) <;> first | rfl | omega))))
  have HD5 := Lib.hid (show ((((w1.alloc (regObj (X + rho) (Y + rho) W' H')).alloc (.cells #[.int .i64 side] 3)).alloc (.cells (madeCells #[Value.float .f32 0] N) 22)).alloc (.cells #[.slice (some ⟨w1.heap.size + 1 + 1, 0, none⟩) N N] 39)).heap[w1.heap.size + 1]? = some (.cells #[.int .i64 side] 3) from by (first | (rw [heap_alloc_get, if_pos rfl]; done) | ((simp only [heap_alloc_get, heap_size_alloc, if_true]) <;> ((repeat' split) <;> first | rfl | omega))))
  have HV5 := Lib.hid (show ((((w1.alloc (regObj (X + rho) (Y + rho) W' H')).alloc (.cells #[.int .i64 side] 3)).alloc (.cells (madeCells #[Value.float .f32 0] N) 22)).alloc (.cells #[.slice (some ⟨w1.heap.size + 1 + 1, 0, none⟩) N N] 39)).heap[w1.heap.size + 1 + 1]? = some (.cells (madeCells #[Value.float .f32 0] N) 22) from by (first | (rw [heap_alloc_get, if_pos rfl]; done) | ((simp only [heap_alloc_get, heap_size_alloc, if_true]) <;> ((repeat' split) <;> first | rfl | omega))))
  have HL5 := Lib.hid (show ((((w1.alloc (regObj (X + rho) (Y + rho) W' H')).alloc (.cells #[.int .i64 side] 3)).alloc (.cells (madeCells #[Value.float .f32 0] N) 22)).alloc (.cells #[.slice (some ⟨w1.heap.size + 1 + 1, 0, none⟩) N N] 39)).heap[w1.heap.size + 1 + 1 + 1]? = some (.cells #[.slice (some ⟨w1.heap.size + 1 + 1, 0, none⟩) N N] 39) from by (first | (rw [heap_alloc_get, if_pos rfl]; done) | ((simp only [heap_alloc_get, heap_size_alloc, if_true]) <;> ((repeat' split) <;> first | rfl | omega))))
  have B5 := Lib.hid (hB1.out.trans (hB5.mono hB1.out.size))
  have Z1 := Lib.hid (show w.heap.size + 1 + 1 + 1 < w1.heap.size from zS)
  unfold regObj at HG5 HD5 HV5 HL5 B5 HP5 HR5 HO5 HS5
  clear hB5 HP1 HR1 HO1 HS1 hB1 cS fS zS cR fR zR hmk
  obtain ⟨z1, hz1⟩ : ∃ z, z = w1.heap.size := ⟨_, rfl⟩
  rw [← hz1] at HG5 HD5 HV5 HL5 B5 HP5 HR5 HO5 HS5 Z1 ⊢
  clear hz1
  generalize ((((w1.alloc (.cells #[.int .i64 (X + rho), .int .i64 (Y + rho), .int .i64 W', .int .i64 H'] 38)).alloc (.cells #[.int .i64 side] 3)).alloc (.cells (madeCells #[Value.float .f32 0] N) 22)).alloc (.cells #[.slice (some ⟨z1 + 1 + 1, 0, none⟩) N N] 39)) = w5 at *
  have zz := Z1.out
  have bb := B5.out
  have hvt : ValsTo w5 (z1 + 1 + 1) N 0 v := ⟨_, HV5.out, by rw [size_madeCells], fun j hj => by omega⟩
  have K5 : ACaps w5 X Y W H n b cap v w.heap.size (w.heap.size + 1) (z1 + 1) (z1 + 1 + 1 + 1) (w.heap.size + 1 + 1) (z1 + 1 + 1) rho side N g caps := ⟨HP5.out, HR5.out, HD5.out, HL5.out, HO5.out, flAt_congr HR.out (bb.block b zb), by omega, by omega, by omega, by omega, by omega, by omega⟩
  have ST5 : State (fun k => k = z1 + 1 + 1) (fun _ w => ValsTo w (z1 + 1 + 1) N 0 v) w5 := ⟨fun k hk => by subst hk; exact (blkC HV5.out).2.2, fun i A B hA hB => hA.congr (hB _ rfl)⟩
  have BY := Lib.hid (HB.out _ _ 145 _ _ w5 ST5 hvt enters_around1 (HC.out _ _ _ _ _ _ w5 K5 (HOF.out _ w5 bb (by omega))))
  obtain ⟨cG, fG, zG⟩ := blkC HG5.out
  have ZG := Lib.hid zG
  clear zz bb hvt K5 ST5 HC HOF HB
  go_wp2_with (go_at_call 144; (with_reducible refine Calls.mono BY.out ?_))
  intro e w4 hmade
  obtain ⟨hinv, hbel, hmade⟩ := hmade
  have zz := Z1.out
  have hS := Lib.hid (blkStayM HS5.out hbel (show ¬ (w.heap.size + 1 + 1 + 1 = z1 + 1 + 1) by omega))
  have HBB := Lib.hid (show Below w.heap.size w w4 from B5.out.trans ((hbel.mono B5.out.size).out (fun k hk => show ¬ (k = z1 + 1 + 1) by omega)))
  have z5 := B5.out.size
  have hlow : w.heap.size + 1 + 1 + 1 < w5.heap.size := by have := (blkC HS5.out).2.2; exact this
  have HL := Lib.hid hlow
  clear hinv hbel zz cG fG zG hlow z5 u1 u2 u3 u4
  obtain ⟨cS, fS, zS⟩ := blkC hS.out
  rcases hmade with ⟨hall, b', cap', rfl, hb', hlt', hrow⟩ | ⟨hall, rfl⟩
  · have HB' := Lib.hid (And.intro hb' (And.intro hlt' (And.intro hrow hall)))
    clear hb' hlt' hrow hall
    go_wp2
    refine bodyPost_ret (v := .tuple #[fldV (X + rho) (Y + rho) W' H' (.slice (some ⟨b', 0, none⟩) (H' * W') cap'), .int .i64 0]) (by simp [results, Try.results88, go_sem, cS]) rfl ?_
    obtain ⟨hb', hlt', hrow, hall⟩ := HB'.out
    have hl := HL.out
    refine .inr ⟨rfl, .inl ⟨hall, b', cap', rfl, by omega, by rw [set5_size]; exact hlt', flAt_congr hrow (set5_heap w4 _ _ _ _ _ _ _ (by omega)), set5_below HBB.out _ _ _ _ _ _ (by omega)⟩⟩
  · have HA := Lib.hid hall
    clear hall
    go_wp2
    refine bodyPost_ret (v := .tuple #[fldV 0 0 0 0 (.slice none 0 0), .int .i64 3]) (by simp [results, Try.results88, go_sem, cS]) rfl ?_
    exact .inr ⟨rfl, .inr ⟨HA.out, rfl, set5_below HBB.out _ _ _ _ _ _ (by omega)⟩⟩
end Go.Proofs.Ytkcehbnmcdppkaa

/- Contracts: Kernel and Blur of a right field. -/
namespace Go.Proofs.Ytkcehbnmcdppkaa
open Go.RowKit Fl
set_option linter.unusedVariables false

/-- An answer with an error. -/
def ErrPost (w : World) (er : Int) (e : Ending) (w' : World) : Prop := e = .returned (.tuple #[fldV 0 0 0 0 (.slice none 0 0), .int .i64 er]) ∧ Below w.heap.size w w'
theorem ErrPost.sc {w w' : World} {er : Int} {e : Ending} (h : ErrPost w er e w') (h0 : er ≠ 0) (X Y W H : Int) (n : Nat) (f : Nat → Nat) : ScPost w X Y W H n f er e w' := .inl ⟨h0, h⟩

section
variable (X Y : Int) (W H n b cap : Nat) (v : Nat → Nat) (w : World) (h0 : checkR X Y W H = 0) (hn : n = W * H) (hr : FlAt w b 0 n v) (hh : allB n (fun i => hgtB (v i)) = true)
include h0 hn hr hh

set_option maxRecDepth 100000 in
set_option maxHeartbeats 2000000 in
theorem kernel_bad (a : Option Addr) (kl kc : Nat) (side : Int) (h : side < 1 ∨ 15 < side ∨ side % 2 = 0) :
    Calls Try.prog 38 #[fldV X Y W H (.slice (some ⟨b, 0, none⟩) n cap), .slice a kl kc, .int .i64 side] w (ErrPost w 3) := by
  obtain ⟨b1, b2, b3, b4, b5, _⟩ := checkR_zero h0
  have h1 : 1 ≤ n := by
    have := Nat.mul_pos (by omega : 0 < W) (by omega : 0 < H)
    omega
  have hlt : b < w.heap.size := World.block_lt_of_cell? w _ (hr 0 h1)
  have CK := Lib.hid (fun W' (hb : Below w.heap.size w W') => check_ok X Y W H n b cap v W' h0 hn (flAt_congr hr (hb.block _ hlt)) hh)
  have WI := Lib.hid (fun w => within_any side 1 15 w)
  have hc : withinB side 1 15 = false ∨ withinB side 1 15 = true ∧ side.tmod 2 = 0 ∧ side % 2 = 0 ∧ ¬ (side < 0) := by
    by_cases c : withinB side 1 15 = false
    · exact .inl c
    · rw [Bool.not_eq_false] at c
      have c2 := withinB_iff.1 c
      have c3 : side % 2 = 0 := by omega
      exact .inr ⟨c, by rw [Int.tmod_eq_emod_of_nonneg (by omega)]; exact c3, c3, by omega⟩
  clear h0 hn hr hh b1 b2 b3 b4 b5 h
  rcases hc with c | ⟨c, c2, c3, c4⟩
  all_goals
    rw [c] at WI
    clear c
    go_enter Try.func38, Try.ntmps38
    go_wp2_with (first
      | (go_at_call 87; (with_reducible refine Calls.mono (CK.out _ (by repeat (first | exact Below.refl _ _ | refine Below.alloc ?_ (by first | omega | (simp; done) | (simp; omega)) _ | refine Below.setCell ?_ (by first | omega | (simp; done) | (simp; omega)) _ | refine Below.drew ?_))) ?_); rintro e w2 ⟨rfl, hb2⟩; have HS2 := Lib.hid (blkStay (b := w.heap.size + 1 + 1) (o := fldO 0 0 0 0 (.slice none 0 0)) (by ((simp only [heap_alloc_get, heap_size_alloc, if_true]) <;> ((repeat' split) <;> first | rfl | omega))) hb2); have hB2 := Lib.hid (Below.trans (show Below w.heap.size w _ from (by repeat (first | exact Below.refl _ _ | refine Below.alloc ?_ (by first | omega | (simp; done) | (simp; omega)) _ | refine Below.setCell ?_ (by first | omega | (simp; done) | (simp; omega)) _ | refine Below.drew ?_))) (Below.mono hb2 (by first | omega | (simp; done) | (simp; omega)))); clear hb2; obtain ⟨cS, fS, zS⟩ := blkC HS2.out)
      | (go_at_call 79; (with_reducible refine Calls.mono (WI.out _) ?_); rintro e w3 ⟨rfl, rfl⟩))
    have HRES := fun (u1 u2 u3 u4 u5 : Value) => (blkC (set5_self u1 u2 u3 u4 u5 HS2.out)).1
    simp only [set5] at HRES
    refine bodyPost_ret (v := .tuple #[fldV 0 0 0 0 (.slice none 0 0), .int .i64 3]) (by simp [results, Try.results38, go_sem, HRES]) rfl ?_
    exact ⟨rfl, set5_below hB2.out _ _ _ _ _ _ (by omega)⟩

set_option maxRecDepth 100000 in
set_option maxHeartbeats 2000000 in
theorem kernel_form (a : Option Addr) (kl kc : Nat) (s : Nat) (h1' : 1 ≤ s) (h2' : s ≤ 15) (h3' : s % 2 = 1) (hl : kl ≠ s * s) (hl2 : kl ≤ 9223372036854775807) :
    Calls Try.prog 38 #[fldV X Y W H (.slice (some ⟨b, 0, none⟩) n cap), .slice a kl kc, .int .i64 s] w (ErrPost w 2) := by
  obtain ⟨b1, b2, b3, b4, b5, _⟩ := checkR_zero h0
  have h1 : 1 ≤ n := by
    have := Nat.mul_pos (by omega : 0 < W) (by omega : 0 < H)
    omega
  have hlt : b < w.heap.size := World.block_lt_of_cell? w _ (hr 0 h1)
  have CK := Lib.hid (fun W' (hb : Below w.heap.size w W') => check_ok X Y W H n b cap v W' h0 hn (flAt_congr hr (hb.block _ hlt)) hh)
  have WI := Lib.hid (fun w => within_any s 1 15 w)
  rw [withinB_iff.2 ⟨by omega, by omega⟩] at WI
  have t1 : (s : Int).tmod 2 = 1 := by rw [Int.tmod_eq_emod_of_nonneg (by omega)]; omega
  have t2 : (s : Int) % 2 = 1 := by omega
  have t3 : (0 : Int) ≤ s := by omega
  obtain ⟨N, hN⟩ : ∃ N, s * s = N := ⟨_, rfl⟩
  have hNle : N ≤ 225 := by rw [← hN]; exact Nat.mul_le_mul h2' h2'
  have u1 : IntKind.i64.wrap ((s : Int) * (s : Int)) = (N : Int) := by
    rw [show (s : Int) * (s : Int) = (N : Int) from by rw [← hN]; simp]
    exact IntWalk.i64_in _ (by omega)
  rw [hN] at hl
  have hne : ¬ ((kl : Int) = (N : Int)) := by omega
  have hne2 : ((kl : Int) != (N : Int)) = true := by simp; omega
  clear h0 hn hr hh b1 b2 b3 b4 b5 h1' h2' h3' hl hN
  go_enter Try.func38, Try.ntmps38
  go_wp2_with (first
    | (go_at_call 87; (with_reducible refine Calls.mono (CK.out _ (by repeat (first | exact Below.refl _ _ | refine Below.alloc ?_ (by first | omega | (simp; done) | (simp; omega)) _ | refine Below.setCell ?_ (by first | omega | (simp; done) | (simp; omega)) _ | refine Below.drew ?_))) ?_); rintro e w2 ⟨rfl, hb2⟩; have HS2 := Lib.hid (blkStay (b := w.heap.size + 1 + 1) (o := fldO 0 0 0 0 (.slice none 0 0)) (by ((simp only [heap_alloc_get, heap_size_alloc, if_true]) <;> ((repeat' split) <;> first | rfl | omega))) hb2); have HK2 := Lib.hid (blkStay (b := w.heap.size + 1) (o := .cells #[.slice a kl kc] 39) (by ((simp only [heap_alloc_get, heap_size_alloc, if_true]) <;> ((repeat' split) <;> first | rfl | omega))) hb2); have hB2 := Lib.hid (Below.trans (show Below w.heap.size w _ from (by repeat (first | exact Below.refl _ _ | refine Below.alloc ?_ (by first | omega | (simp; done) | (simp; omega)) _ | refine Below.setCell ?_ (by first | omega | (simp; done) | (simp; omega)) _ | refine Below.drew ?_))) (Below.mono hb2 (by first | omega | (simp; done) | (simp; omega)))); clear hb2; obtain ⟨cS, fS, zS⟩ := blkC HS2.out; obtain ⟨cK, fK, zK⟩ := blkC HK2.out)
    | (go_at_call 79; (with_reducible refine Calls.mono (WI.out _) ?_); rintro e w3 ⟨rfl, rfl⟩))
  have HRES := fun (u1 u2 u3 u4 u5 : Value) => (blkC (set5_self u1 u2 u3 u4 u5 HS2.out)).1
  simp only [set5] at HRES
  refine bodyPost_ret (v := .tuple #[fldV 0 0 0 0 (.slice none 0 0), .int .i64 2]) (by simp [results, Try.results38, go_sem, HRES]) rfl ?_
  exact ⟨rfl, set5_below hB2.out _ _ _ _ _ _ (by omega)⟩

set_option maxRecDepth 100000 in
set_option maxHeartbeats 4000000 in
theorem kernel_k (kb koff kc s m : Nat) (kv : Nat → Nat) (h1' : 1 ≤ s) (h2' : s ≤ 15) (h3' : s % 2 = 1) (hm : m + 1 = s * s) (hk : FlAt w kb koff (m + 1) kv) (her : fldE (m + 1) kv ≠ 0) :
    Calls Try.prog 38 #[fldV X Y W H (.slice (some ⟨b, 0, none⟩) n cap), .slice (some ⟨kb, koff, none⟩) (m + 1) kc, .int .i64 s] w (ErrPost w (fldE (m + 1) kv)) := by
  obtain ⟨b1, b2, b3, b4, b5, _⟩ := checkR_zero h0
  have h1 : 1 ≤ n := by
    have := Nat.mul_pos (by omega : 0 < W) (by omega : 0 < H)
    omega
  have hlt : b < w.heap.size := World.block_lt_of_cell? w _ (hr 0 h1)
  have hlk : kb < w.heap.size := World.block_lt_of_cell? w _ (hk 0 (by omega))
  have CK := Lib.hid (fun W' (hb : Below w.heap.size w W') => check_ok X Y W H n b cap v W' h0 hn (flAt_congr hr (hb.block _ hlt)) hh)
  have hNle : m + 1 ≤ 225 := by rw [hm]; exact Nat.mul_le_mul h2' h2'
  have CH := Lib.hid (fun W' (hb : Below w.heap.size w W') => CheckHeights_row kb koff kc (m + 1) kv (by omega) W' (flAt_congr hk (hb.block _ hlk)))
  have WI := Lib.hid (fun w => within_any s 1 15 w)
  rw [withinB_iff.2 ⟨by omega, by omega⟩] at WI
  have t1 : (s : Int).tmod 2 = 1 := by rw [Int.tmod_eq_emod_of_nonneg (by omega)]; omega
  have t2 : (s : Int) % 2 = 1 := by omega
  have t3 : (0 : Int) ≤ s := by omega
  obtain ⟨N, hN⟩ : ∃ N, m + 1 = N := ⟨_, rfl⟩
  have u1 : IntKind.i64.wrap ((s : Int) * (s : Int)) = (N : Int) := by
    rw [show (s : Int) * (s : Int) = (N : Int) from by rw [← hN, hm]; simp]
    exact IntWalk.i64_in _ (by omega)
  rw [hN] at CH her ⊢
  have hbe : (fldE N kv != 0) = true := by simpa using her
  generalize fldE N kv = er at *
  clear h0 hn hr hh b1 b2 b3 b4 b5 h1' h2' h3' hN hm hk her hNle
  go_enter Try.func38, Try.ntmps38
  go_wp2_with (first
    | (go_at_call 87; (with_reducible refine Calls.mono (CK.out _ (by repeat (first | exact Below.refl _ _ | refine Below.alloc ?_ (by first | omega | (simp; done) | (simp; omega)) _ | refine Below.setCell ?_ (by first | omega | (simp; done) | (simp; omega)) _ | refine Below.drew ?_))) ?_); rintro e w2 ⟨rfl, hb2⟩; have HS2 := Lib.hid (blkStay (b := w.heap.size + 1 + 1) (o := fldO 0 0 0 0 (.slice none 0 0)) (by ((simp only [heap_alloc_get, heap_size_alloc, if_true]) <;> ((repeat' split) <;> first | rfl | omega))) hb2); have HK2 := Lib.hid (blkStay (b := w.heap.size + 1) (o := .cells #[.slice (some ⟨kb, koff, none⟩) N kc] 39) (by ((simp only [heap_alloc_get, heap_size_alloc, if_true]) <;> ((repeat' split) <;> first | rfl | omega))) hb2); have hB2 := Lib.hid (Below.trans (show Below w.heap.size w _ from (by repeat (first | exact Below.refl _ _ | refine Below.alloc ?_ (by first | omega | (simp; done) | (simp; omega)) _ | refine Below.setCell ?_ (by first | omega | (simp; done) | (simp; omega)) _ | refine Below.drew ?_))) (Below.mono hb2 (by first | omega | (simp; done) | (simp; omega)))); clear hb2; obtain ⟨cS, fS, zS⟩ := blkC HS2.out; obtain ⟨cK, fK, zK⟩ := blkC HK2.out)
    | (go_at_call 79; (with_reducible refine Calls.mono (WI.out _) ?_); rintro e w3 ⟨rfl, rfl⟩)
    | (go_at_call 76; (with_reducible refine Calls.mono (CH.out _ hB2.out) ?_); rintro e w3 ⟨rfl, rfl⟩))
  have HRES := fun (u1 u2 u3 u4 u5 : Value) => (blkC (set5_self u1 u2 u3 u4 u5 HS2.out)).1
  simp only [set5] at HRES
  refine bodyPost_ret (v := .tuple #[fldV 0 0 0 0 (.slice none 0 0), .int .i64 er]) (by simp [results, Try.results38, go_sem, HRES]) rfl ?_
  exact ⟨rfl, set5_below hB2.out _ _ _ _ _ _ (by omega)⟩
end
end Go.Proofs.Ytkcehbnmcdppkaa

/- Contracts: Kernel and Blur of a right field, by around. -/
namespace Go.Proofs.Ytkcehbnmcdppkaa
open Go.RowKit Fl
set_option linter.unusedVariables false

/-- What Kernel makes of the cell number i. -/
def krnF (v kv : Nat → Nat) (W W' side m i : Nat) : Nat := krnW kv (winW v W W' side i) m
/-- What Blur makes of the cell number i. -/
def blrF (v : Nat → Nat) (W W' side m i : Nat) : Nat := quoW (sumW (winW v W W' side i) m) (floatOfInt .f32 ((m + 1 : Nat) : Int))

section
variable (X Y : Int) (W H n b cap : Nat) (v : Nat → Nat) (w : World) (h0 : checkR X Y W H = 0) (hn : n = W * H) (hr : FlAt w b 0 n v) (hh : allB n (fun i => hgtB (v i)) = true)
include h0 hn hr hh

set_option maxRecDepth 100000 in
set_option maxHeartbeats 4000000 in
theorem kernel_none (kb koff kc s m rho : Nat) (kv : Nat → Nat) (h2' : s ≤ 15) (hs : s = 2 * rho + 1) (hm : m + 1 = s * s) (hk : FlAt w kb koff (m + 1) kv) (her : fldE (m + 1) kv = 0) (hno : W ≤ 2 * rho ∨ H ≤ 2 * rho) :
    Calls Try.prog 38 #[fldV X Y W H (.slice (some ⟨b, 0, none⟩) n cap), .slice (some ⟨kb, koff, none⟩) (m + 1) kc, .int .i64 s] w (ErrPost w 10) := by
  obtain ⟨b1, b2, b3, b4, b5, _⟩ := checkR_zero h0
  have h1 : 1 ≤ n := by
    have := Nat.mul_pos (by omega : 0 < W) (by omega : 0 < H)
    omega
  have hlt : b < w.heap.size := World.block_lt_of_cell? w _ (hr 0 h1)
  have hlk : kb < w.heap.size := World.block_lt_of_cell? w _ (hk 0 (by omega))
  have CK := Lib.hid (fun W' (hb : Below w.heap.size w W') => check_ok X Y W H n b cap v W' h0 hn (flAt_congr hr (hb.block _ hlt)) hh)
  have hNle : m + 1 ≤ 225 := by rw [hm]; exact Nat.mul_le_mul h2' h2'
  have CH := Lib.hid (fun W' (hb : Below w.heap.size w W') => CheckHeights_row kb koff kc (m + 1) kv (by omega) W' (flAt_congr hk (hb.block _ hlk)))
  have AN := Lib.hid (fun g caps w => fAround_no X Y W H (.slice (some ⟨b, 0, none⟩) n cap) rho g caps w h0 (by omega) hno)
  have WI := Lib.hid (fun w => within_any s 1 15 w)
  rw [withinB_iff.2 ⟨by omega, by omega⟩] at WI
  have t1 : (s : Int).tmod 2 = 1 := by rw [Int.tmod_eq_emod_of_nonneg (by omega)]; omega
  have t2 : (s : Int) % 2 = 1 := by omega
  have t3 : (0 : Int) ≤ s := by omega
  have t4 : ((s : Int) - 1).tdiv 2 = (rho : Int) := by rw [Int.tdiv_eq_ediv_of_nonneg (by omega)]; omega
  have t5 : ((s : Int) - 1) / 2 = (rho : Int) := by omega
  have t6 : (0 : Int) ≤ (s : Int) - 1 := by omega
  have u2 : IntKind.i64.wrap ((s : Int) - 1) = (s : Int) - 1 := IntWalk.i64_in _ (by omega)
  have u3 : IntKind.i64.wrap (rho : Int) = (rho : Int) := IntWalk.i64_in _ (by omega)
  obtain ⟨N, hN⟩ : ∃ N, m + 1 = N := ⟨_, rfl⟩
  have u1 : IntKind.i64.wrap ((s : Int) * (s : Int)) = (N : Int) := by
    rw [show (s : Int) * (s : Int) = (N : Int) from by rw [← hN, hm]; simp]
    exact IntWalk.i64_in _ (by omega)
  rw [hN] at CH her ⊢
  rw [her] at CH
  clear h0 hn hr hh b1 b2 b3 b4 b5 h2' hs hN hm hk her hNle hno
  go_enter Try.func38, Try.ntmps38
  go_wp2_with (first
    | (go_at_call 87; (with_reducible refine Calls.mono (CK.out _ (by repeat (first | exact Below.refl _ _ | refine Below.alloc ?_ (by first | omega | (simp; done) | (simp; omega)) _ | refine Below.setCell ?_ (by first | omega | (simp; done) | (simp; omega)) _ | refine Below.drew ?_))) ?_); rintro e w2 ⟨rfl, hb2⟩; have HF2 := Lib.hid (blkStay (b := w.heap.size) (o := fldO X Y W H (.slice (some ⟨b, 0, none⟩) n cap)) (by ((simp only [heap_alloc_get, heap_size_alloc, if_true]) <;> ((repeat' split) <;> first | rfl | omega))) hb2); have HS2 := Lib.hid (blkStay (b := w.heap.size + 1 + 1) (o := fldO 0 0 0 0 (.slice none 0 0)) (by ((simp only [heap_alloc_get, heap_size_alloc, if_true]) <;> ((repeat' split) <;> first | rfl | omega))) hb2); have HK2 := Lib.hid (blkStay (b := w.heap.size + 1) (o := .cells #[.slice (some ⟨kb, koff, none⟩) N kc] 39) (by ((simp only [heap_alloc_get, heap_size_alloc, if_true]) <;> ((repeat' split) <;> first | rfl | omega))) hb2); have hB2 := Lib.hid (Below.trans (show Below w.heap.size w _ from (by repeat (first | exact Below.refl _ _ | refine Below.alloc ?_ (by first | omega | (simp; done) | (simp; omega)) _ | refine Below.setCell ?_ (by first | omega | (simp; done) | (simp; omega)) _ | refine Below.drew ?_))) (Below.mono hb2 (by first | omega | (simp; done) | (simp; omega)))); clear hb2; obtain ⟨cF, fF, zF⟩ := blkC HF2.out; obtain ⟨cS, fS, zS⟩ := blkC HS2.out; obtain ⟨cK, fK, zK⟩ := blkC HK2.out)
    | (go_at_call 79; (with_reducible refine Calls.mono (WI.out _) ?_); rintro e w3 ⟨rfl, rfl⟩)
    | (go_at_call 76; (with_reducible refine Calls.mono (CH.out _ hB2.out) ?_); rintro e w3 ⟨rfl, rfl⟩)
    | (go_at_call 88; (with_reducible refine Calls.mono (AN.out _ _ _) ?_); rintro e w4 ⟨rfl, hb4⟩; have HS4 := Lib.hid (blkStay HS2.out hb4); have hB4 := Lib.hid (hB2.out.trans (hb4.mono hB2.out.size)); clear hb4 cS fS zS; obtain ⟨cS, fS, zS⟩ := blkC HS4.out))
  have HRES := fun (u1 u2 u3 u4 u5 : Value) => (blkC (set5_self u1 u2 u3 u4 u5 HS4.out)).1
  simp only [set5] at HRES
  refine bodyPost_ret (v := .tuple #[fldV 0 0 0 0 (.slice none 0 0), .int .i64 10]) (by simp [results, Try.results38, go_sem, HRES]) rfl ?_
  exact ⟨rfl, set5_below hB4.out _ _ _ _ _ _ (by omega)⟩

set_option maxRecDepth 100000 in
set_option maxHeartbeats 4000000 in
theorem kernel_ok (kb koff kc s m rho W' H' : Nat) (kv : Nat → Nat) (hcap : n ≤ cap) (hkc : m + 1 ≤ kc) (h2' : s ≤ 15) (hs : s = 2 * rho + 1) (hm : m + 1 = s * s) (hk : FlAt w kb koff (m + 1) kv) (her : fldE (m + 1) kv = 0) (hW : W = W' + 2 * rho) (hH : H = H' + 2 * rho) (hW1 : 1 ≤ W') (hH1 : 1 ≤ H') :
    Calls Try.prog 38 #[fldV X Y W H (.slice (some ⟨b, 0, none⟩) n cap), .slice (some ⟨kb, koff, none⟩) (m + 1) kc, .int .i64 s] w (ScPost w (X + rho) (Y + rho) W' H' (H' * W') (krnF v kv W W' s m) 0) := by
  obtain ⟨b1, b2, b3, b4, b5, _⟩ := checkR_zero h0
  have h1 : 1 ≤ n := by
    have := Nat.mul_pos (by omega : 0 < W) (by omega : 0 < H)
    omega
  have hlt : b < w.heap.size := World.block_lt_of_cell? w _ (hr 0 h1)
  have hlk : kb < w.heap.size := World.block_lt_of_cell? w _ (hk 0 (by omega))
  have CK := Lib.hid (fun W' (hb : Below w.heap.size w W') => check_ok X Y W H n b cap v W' h0 hn (flAt_congr hr (hb.block _ hlt)) hh)
  have hNle : m + 1 ≤ 225 := by rw [hm]; exact Nat.mul_le_mul h2' h2'
  have CH := Lib.hid (fun W' (hb : Below w.heap.size w W') => CheckHeights_row kb koff kc (m + 1) kv (by omega) W' (flAt_congr hk (hb.block _ hlk)))
  have hkh : allB (m + 1) (fun i => hgtB (kv i)) = true := fldE_zero.1 her
  have AO := Lib.hid (fun kx W2 (hb : Below w.heap.size w W2) (hx : W2.heap[kx]? = some (.cells #[.slice (some ⟨kb, koff, none⟩) (m + 1) kc] 39)) =>
    fAround_ok X Y W H n b cap v rho s (m + 1) W' H' 89 #[.pointer (some ⟨kx, 0, none⟩)] (fun u => krnW kv u m) W2 h0 hn (flAt_congr hr (hb.block _ hlt)) hcap hh hs hm hW hH hW1 hH1 enters_kernel1
      (fun vals w0 hb0 hv0 => kernel1_of kx kb koff kc vals m kv w0 (by omega) hkc (blkStay hx hb0) (flAt_congr hk ((hb.trans (hb0.mono hb.size)).block _ hlk)) hkh (by have := (blkC hx).2.2; omega) (by have := hb.size; omega)))
  have WI := Lib.hid (fun w => within_any s 1 15 w)
  rw [withinB_iff.2 ⟨by omega, by omega⟩] at WI
  have t1 : (s : Int).tmod 2 = 1 := by rw [Int.tmod_eq_emod_of_nonneg (by omega)]; omega
  have t2 : (s : Int) % 2 = 1 := by omega
  have t3 : (0 : Int) ≤ s := by omega
  have t4 : ((s : Int) - 1).tdiv 2 = (rho : Int) := by rw [Int.tdiv_eq_ediv_of_nonneg (by omega)]; omega
  have t5 : ((s : Int) - 1) / 2 = (rho : Int) := by omega
  have t6 : (0 : Int) ≤ (s : Int) - 1 := by omega
  have u2 : IntKind.i64.wrap ((s : Int) - 1) = (s : Int) - 1 := IntWalk.i64_in _ (by omega)
  have u3 : IntKind.i64.wrap (rho : Int) = (rho : Int) := IntWalk.i64_in _ (by omega)
  obtain ⟨N, hN⟩ : ∃ N, m + 1 = N := ⟨_, rfl⟩
  have u1 : IntKind.i64.wrap ((s : Int) * (s : Int)) = (N : Int) := by
    rw [show (s : Int) * (s : Int) = (N : Int) from by rw [← hN, hm]; simp]
    exact IntWalk.i64_in _ (by omega)
  rw [hN] at CH her AO ⊢
  rw [her] at CH
  clear h0 hn hr hh b1 b2 b3 b4 b5 h2' hs hN hm hk her hNle hcap hkc hW hH hW1 hH1 hkh
  go_enter Try.func38, Try.ntmps38
  go_wp2_with (first
    | (go_at_call 87; (with_reducible refine Calls.mono (CK.out _ (by repeat (first | exact Below.refl _ _ | refine Below.alloc ?_ (by first | omega | (simp; done) | (simp; omega)) _ | refine Below.setCell ?_ (by first | omega | (simp; done) | (simp; omega)) _ | refine Below.drew ?_))) ?_); rintro e w2 ⟨rfl, hb2⟩; have HF2 := Lib.hid (blkStay (b := w.heap.size) (o := fldO X Y W H (.slice (some ⟨b, 0, none⟩) n cap)) (by ((simp only [heap_alloc_get, heap_size_alloc, if_true]) <;> ((repeat' split) <;> first | rfl | omega))) hb2); have HS2 := Lib.hid (blkStay (b := w.heap.size + 1 + 1) (o := fldO 0 0 0 0 (.slice none 0 0)) (by ((simp only [heap_alloc_get, heap_size_alloc, if_true]) <;> ((repeat' split) <;> first | rfl | omega))) hb2); have HK2 := Lib.hid (blkStay (b := w.heap.size + 1) (o := .cells #[.slice (some ⟨kb, koff, none⟩) N kc] 39) (by ((simp only [heap_alloc_get, heap_size_alloc, if_true]) <;> ((repeat' split) <;> first | rfl | omega))) hb2); have hB2 := Lib.hid (Below.trans (show Below w.heap.size w _ from (by repeat (first | exact Below.refl _ _ | refine Below.alloc ?_ (by first | omega | (simp; done) | (simp; omega)) _ | refine Below.setCell ?_ (by first | omega | (simp; done) | (simp; omega)) _ | refine Below.drew ?_))) (Below.mono hb2 (by first | omega | (simp; done) | (simp; omega)))); clear hb2; obtain ⟨cF, fF, zF⟩ := blkC HF2.out; obtain ⟨cS, fS, zS⟩ := blkC HS2.out; obtain ⟨cK, fK, zK⟩ := blkC HK2.out)
    | (go_at_call 79; (with_reducible refine Calls.mono (WI.out _) ?_); rintro e w3 ⟨rfl, rfl⟩)
    | (go_at_call 76; (with_reducible refine Calls.mono (CH.out _ hB2.out) ?_); rintro e w3 ⟨rfl, rfl⟩)
    | (go_at_call 88; (with_reducible refine Calls.mono (AO.out _ _ hB2.out HK2.out) ?_)))
  intro e w4 hp
  rcases hp with ⟨q, _⟩ | ⟨_, hmade⟩
  · exact absurd rfl q
  rcases hmade with ⟨hall, b', cap', rfl, hb', hlt', hrow, hbel⟩ | ⟨hall, rfl, hbel⟩
  · have HS4 := Lib.hid (blkStay HS2.out hbel)
    have HM := Lib.hid (And.intro hall (And.intro hb' (And.intro hlt' (And.intro hrow hbel))))
    clear hall hb' hlt' hrow hbel cS fS cF fF cK fK
    obtain ⟨cS, fS, zS4⟩ := blkC HS4.out
    go_wp2
    refine bodyPost_ret (v := .tuple #[fldV (X + rho) (Y + rho) W' H' (.slice (some ⟨b', 0, none⟩) (H' * W') cap'), .int .i64 0]) (by simp [results, Try.results38, go_sem, cS]) rfl ?_
    obtain ⟨hall, hb', hlt', hrow, hbel⟩ := HM.out
    have z2 := hB2.out.size
    exact .inr ⟨rfl, .inl ⟨hall, b', cap', rfl, by omega, by rw [set5_size]; exact hlt', flAt_congr hrow (set5_heap w4 _ _ _ _ _ _ _ (by omega)), set5_below (hB2.out.trans (hbel.mono z2)) _ _ _ _ _ _ (by omega)⟩⟩
  · have HS4 := Lib.hid (blkStay HS2.out hbel)
    have HM := Lib.hid (And.intro hall hbel)
    clear hall hbel cS fS cF fF cK fK
    obtain ⟨cS, fS, zS4⟩ := blkC HS4.out
    go_wp2
    refine bodyPost_ret (v := .tuple #[fldV 0 0 0 0 (.slice none 0 0), .int .i64 3]) (by simp [results, Try.results38, go_sem, cS]) rfl ?_
    exact .inr ⟨rfl, .inr ⟨HM.out.1, rfl, set5_below (hB2.out.trans (HM.out.2.mono hB2.out.size)) _ _ _ _ _ _ (by omega)⟩⟩

set_option maxRecDepth 100000 in
set_option maxHeartbeats 2000000 in
theorem blur_bad (rd : Int) (h : rd < 0 ∨ 16 < rd) :
    Calls Try.prog 41 #[fldV X Y W H (.slice (some ⟨b, 0, none⟩) n cap), .int .i64 rd] w (ErrPost w 3) := by
  obtain ⟨b1, b2, b3, b4, b5, _⟩ := checkR_zero h0
  have h1 : 1 ≤ n := by
    have := Nat.mul_pos (by omega : 0 < W) (by omega : 0 < H)
    omega
  have hlt : b < w.heap.size := World.block_lt_of_cell? w _ (hr 0 h1)
  have CK := Lib.hid (fun W' (hb : Below w.heap.size w W') => check_ok X Y W H n b cap v W' h0 hn (flAt_congr hr (hb.block _ hlt)) hh)
  have WI := Lib.hid (fun w => within_any rd 0 16 w)
  rw [withinB_no.2 h] at WI
  clear h0 hn hr hh b1 b2 b3 b4 b5 h
  go_enter Try.func41, Try.ntmps41
  go_wp2_with (first
    | (go_at_call 87; (with_reducible refine Calls.mono (CK.out _ (by repeat (first | exact Below.refl _ _ | refine Below.alloc ?_ (by first | omega | (simp; done) | (simp; omega)) _ | refine Below.setCell ?_ (by first | omega | (simp; done) | (simp; omega)) _ | refine Below.drew ?_))) ?_); rintro e w2 ⟨rfl, hb2⟩; have HS2 := Lib.hid (blkStay (b := w.heap.size + 1) (o := fldO 0 0 0 0 (.slice none 0 0)) (by ((simp only [heap_alloc_get, heap_size_alloc, if_true]) <;> ((repeat' split) <;> first | rfl | omega))) hb2); have hB2 := Lib.hid (Below.trans (show Below w.heap.size w _ from (by repeat (first | exact Below.refl _ _ | refine Below.alloc ?_ (by first | omega | (simp; done) | (simp; omega)) _ | refine Below.setCell ?_ (by first | omega | (simp; done) | (simp; omega)) _ | refine Below.drew ?_))) (Below.mono hb2 (by first | omega | (simp; done) | (simp; omega)))); clear hb2; obtain ⟨cS, fS, zS⟩ := blkC HS2.out)
    | (go_at_call 79; (with_reducible refine Calls.mono (WI.out _) ?_); rintro e w3 ⟨rfl, rfl⟩))
  have HRES := fun (u1 u2 u3 u4 u5 : Value) => (blkC (set5_self u1 u2 u3 u4 u5 HS2.out)).1
  simp only [set5] at HRES
  refine bodyPost_ret (v := .tuple #[fldV 0 0 0 0 (.slice none 0 0), .int .i64 3]) (by simp [results, Try.results41, go_sem, HRES]) rfl ?_
  exact ⟨rfl, set5_below hB2.out _ _ _ _ _ _ (by omega)⟩

set_option maxRecDepth 100000 in
set_option maxHeartbeats 2000000 in
theorem blur_none (rho : Nat) (hrho : rho ≤ 16) (hno : W ≤ 2 * rho ∨ H ≤ 2 * rho) :
    Calls Try.prog 41 #[fldV X Y W H (.slice (some ⟨b, 0, none⟩) n cap), .int .i64 rho] w (ErrPost w 10) := by
  obtain ⟨b1, b2, b3, b4, b5, _⟩ := checkR_zero h0
  have h1 : 1 ≤ n := by
    have := Nat.mul_pos (by omega : 0 < W) (by omega : 0 < H)
    omega
  have hlt : b < w.heap.size := World.block_lt_of_cell? w _ (hr 0 h1)
  have CK := Lib.hid (fun W' (hb : Below w.heap.size w W') => check_ok X Y W H n b cap v W' h0 hn (flAt_congr hr (hb.block _ hlt)) hh)
  have AN := Lib.hid (fun g caps w => fAround_no X Y W H (.slice (some ⟨b, 0, none⟩) n cap) rho g caps w h0 (by omega) hno)
  have WI := Lib.hid (fun w => within_any rho 0 16 w)
  rw [withinB_iff.2 ⟨by omega, by omega⟩] at WI
  clear h0 hn hr hh b1 b2 b3 b4 b5 hno hrho
  go_enter Try.func41, Try.ntmps41
  go_wp2_with (first
    | (go_at_call 87; (with_reducible refine Calls.mono (CK.out _ (by repeat (first | exact Below.refl _ _ | refine Below.alloc ?_ (by first | omega | (simp; done) | (simp; omega)) _ | refine Below.setCell ?_ (by first | omega | (simp; done) | (simp; omega)) _ | refine Below.drew ?_))) ?_); rintro e w2 ⟨rfl, hb2⟩; have HF2 := Lib.hid (blkStay (b := w.heap.size) (o := fldO X Y W H (.slice (some ⟨b, 0, none⟩) n cap)) (by ((simp only [heap_alloc_get, heap_size_alloc, if_true]) <;> ((repeat' split) <;> first | rfl | omega))) hb2); have HS2 := Lib.hid (blkStay (b := w.heap.size + 1) (o := fldO 0 0 0 0 (.slice none 0 0)) (by ((simp only [heap_alloc_get, heap_size_alloc, if_true]) <;> ((repeat' split) <;> first | rfl | omega))) hb2); have hB2 := Lib.hid (Below.trans (show Below w.heap.size w _ from (by repeat (first | exact Below.refl _ _ | refine Below.alloc ?_ (by first | omega | (simp; done) | (simp; omega)) _ | refine Below.setCell ?_ (by first | omega | (simp; done) | (simp; omega)) _ | refine Below.drew ?_))) (Below.mono hb2 (by first | omega | (simp; done) | (simp; omega)))); clear hb2; obtain ⟨cF, fF, zF⟩ := blkC HF2.out; obtain ⟨cS, fS, zS⟩ := blkC HS2.out)
    | (go_at_call 79; (with_reducible refine Calls.mono (WI.out _) ?_); rintro e w3 ⟨rfl, rfl⟩)
    | (go_at_call 88; (with_reducible refine Calls.mono (AN.out _ _ _) ?_); rintro e w4 ⟨rfl, hb4⟩; have HS4 := Lib.hid (blkStay HS2.out hb4); have hB4 := Lib.hid (hB2.out.trans (hb4.mono hB2.out.size)); clear hb4 cS fS zS; obtain ⟨cS, fS, zS⟩ := blkC HS4.out))
  have HRES := fun (u1 u2 u3 u4 u5 : Value) => (blkC (set5_self u1 u2 u3 u4 u5 HS4.out)).1
  simp only [set5] at HRES
  refine bodyPost_ret (v := .tuple #[fldV 0 0 0 0 (.slice none 0 0), .int .i64 10]) (by simp [results, Try.results41, go_sem, HRES]) rfl ?_
  exact ⟨rfl, set5_below hB4.out _ _ _ _ _ _ (by omega)⟩

set_option maxRecDepth 100000 in
set_option maxHeartbeats 4000000 in
theorem blur_ok (s m rho W' H' : Nat) (hcap : n ≤ cap) (hrho : rho ≤ 16) (hs : s = 2 * rho + 1) (hm : m + 1 = s * s) (hW : W = W' + 2 * rho) (hH : H = H' + 2 * rho) (hW1 : 1 ≤ W') (hH1 : 1 ≤ H') :
    Calls Try.prog 41 #[fldV X Y W H (.slice (some ⟨b, 0, none⟩) n cap), .int .i64 rho] w (ScPost w (X + rho) (Y + rho) W' H' (H' * W') (blrF v W W' s m) 0) := by
  obtain ⟨b1, b2, b3, b4, b5, _⟩ := checkR_zero h0
  have h1 : 1 ≤ n := by
    have := Nat.mul_pos (by omega : 0 < W) (by omega : 0 < H)
    omega
  have hlt : b < w.heap.size := World.block_lt_of_cell? w _ (hr 0 h1)
  have CK := Lib.hid (fun W' (hb : Below w.heap.size w W') => check_ok X Y W H n b cap v W' h0 hn (flAt_congr hr (hb.block _ hlt)) hh)
  have hNle : m + 1 ≤ 33 * 33 := by rw [hm]; exact Nat.mul_le_mul (show s ≤ 33 by omega) (show s ≤ 33 by omega)
  have AO := Lib.hid (fun W2 (hb : Below w.heap.size w W2) =>
    fAround_ok X Y W H n b cap v rho s (m + 1) W' H' 98 #[] (fun u => quoW (sumW u m) (floatOfInt .f32 ((m + 1 : Nat) : Int))) W2 h0 hn (flAt_congr hr (hb.block _ hlt)) hcap hh hs hm hW hH hW1 hH1 enters_blur1
      (fun vals w0 hb0 hv0 => blur1_of vals m (m + 1) w0 (by omega) rfl))
  have WI := Lib.hid (fun w => within_any rho 0 16 w)
  rw [withinB_iff.2 ⟨by omega, by omega⟩] at WI
  clear h0 hn hr hh b1 b2 b3 b4 b5 hrho hs hm hNle hcap hW hH hW1 hH1
  go_enter Try.func41, Try.ntmps41
  go_wp2_with (first
    | (go_at_call 87; (with_reducible refine Calls.mono (CK.out _ (by repeat (first | exact Below.refl _ _ | refine Below.alloc ?_ (by first | omega | (simp; done) | (simp; omega)) _ | refine Below.setCell ?_ (by first | omega | (simp; done) | (simp; omega)) _ | refine Below.drew ?_))) ?_); rintro e w2 ⟨rfl, hb2⟩; have HF2 := Lib.hid (blkStay (b := w.heap.size) (o := fldO X Y W H (.slice (some ⟨b, 0, none⟩) n cap)) (by ((simp only [heap_alloc_get, heap_size_alloc, if_true]) <;> ((repeat' split) <;> first | rfl | omega))) hb2); have HS2 := Lib.hid (blkStay (b := w.heap.size + 1) (o := fldO 0 0 0 0 (.slice none 0 0)) (by ((simp only [heap_alloc_get, heap_size_alloc, if_true]) <;> ((repeat' split) <;> first | rfl | omega))) hb2); have hB2 := Lib.hid (Below.trans (show Below w.heap.size w _ from (by repeat (first | exact Below.refl _ _ | refine Below.alloc ?_ (by first | omega | (simp; done) | (simp; omega)) _ | refine Below.setCell ?_ (by first | omega | (simp; done) | (simp; omega)) _ | refine Below.drew ?_))) (Below.mono hb2 (by first | omega | (simp; done) | (simp; omega)))); clear hb2; obtain ⟨cF, fF, zF⟩ := blkC HF2.out; obtain ⟨cS, fS, zS⟩ := blkC HS2.out)
    | (go_at_call 79; (with_reducible refine Calls.mono (WI.out _) ?_); rintro e w3 ⟨rfl, rfl⟩)
    | (go_at_call 88; (with_reducible refine Calls.mono (AO.out _ hB2.out) ?_)))
  intro e w4 hp
  rcases hp with ⟨q, _⟩ | ⟨_, hmade⟩
  · exact absurd rfl q
  rcases hmade with ⟨hall, b', cap', rfl, hb', hlt', hrow, hbel⟩ | ⟨hall, rfl, hbel⟩
  · have HS4 := Lib.hid (blkStay HS2.out hbel)
    have HM := Lib.hid (And.intro hall (And.intro hb' (And.intro hlt' (And.intro hrow hbel))))
    clear hall hb' hlt' hrow hbel cS fS cF fF
    obtain ⟨cS, fS, zS4⟩ := blkC HS4.out
    go_wp2
    refine bodyPost_ret (v := .tuple #[fldV (X + rho) (Y + rho) W' H' (.slice (some ⟨b', 0, none⟩) (H' * W') cap'), .int .i64 0]) (by simp [results, Try.results41, go_sem, cS]) rfl ?_
    obtain ⟨hall, hb', hlt', hrow, hbel⟩ := HM.out
    have z2 := hB2.out.size
    exact .inr ⟨rfl, .inl ⟨hall, b', cap', rfl, by omega, by rw [set5_size]; exact hlt', flAt_congr hrow (set5_heap w4 _ _ _ _ _ _ _ (by omega)), set5_below (hB2.out.trans (hbel.mono z2)) _ _ _ _ _ _ (by omega)⟩⟩
  · have HS4 := Lib.hid (blkStay HS2.out hbel)
    have HM := Lib.hid (And.intro hall hbel)
    clear hall hbel cS fS cF fF
    obtain ⟨cS, fS, zS4⟩ := blkC HS4.out
    go_wp2
    refine bodyPost_ret (v := .tuple #[fldV 0 0 0 0 (.slice none 0 0), .int .i64 3]) (by simp [results, Try.results41, go_sem, cS]) rfl ?_
    exact .inr ⟨rfl, .inr ⟨HM.out.1, rfl, set5_below (hB2.out.trans (HM.out.2.mono hB2.out.size)) _ _ _ _ _ _ (by omega)⟩⟩
end
end Go.Proofs.Ytkcehbnmcdppkaa

/- The closures of the reference's Kernel and Blur. -/
namespace Go.Proofs.Ytkcehbnmcdppkaa
open Go.RowKit Fl
set_option linter.unusedVariables false

theorem enters_rKernel1 : Enters 93 := by intro args W; simp [callFunc, Try.func93, Try.f93]
theorem enters_rBlur1 : Enters 100 := by intro args W; simp [callFunc, Try.func100, Try.f100]

/-- What both closures hold. -/
structure RBox (w : World) (X Y : Int) (W H n b cap : Nat) (v : Nat → Nat) (pf pr ps rho side : Nat) : Prop where
  fld : w.heap[pf]? = some (fldO X Y W H (.slice (some ⟨b, 0, none⟩) n cap))
  rad : w.heap[pr]? = some (.cells #[.int .i64 rho] 3)
  sid : w.heap[ps]? = some (.cells #[.int .i64 side] 3)
  row : FlAt w b 0 n v
theorem RBox.stay {w w' : World} {X Y : Int} {W H n b cap : Nat} {v : Nat → Nat} {pf pr ps rho side : Nat} (h : RBox w X Y W H n b cap v pf pr ps rho side) (hn : 1 ≤ n) (hb : Below w.heap.size w w') : RBox w' X Y W H n b cap v pf pr ps rho side :=
  ⟨blkStay h.fld hb, blkStay h.rad hb, blkStay h.sid hb, flAt_congr h.row (hb.block _ (World.block_lt_of_cell? w _ (h.row 0 hn)))⟩

/-- The value number k of those around a cell is read at its place. -/
theorem win_at {X Y : Int} {W H n b cap rho side N W' H' : Nat} {v : Nat → Nat} (h0 : checkR X Y W H = 0) (hn : n = W * H) (hs : side = 2 * rho + 1) (hN : N = side * side) (hW : W = W' + 2 * rho) (hH : H = H' + 2 * rho) (hW1 : 1 ≤ W') (hH1 : 1 ≤ H')
    {x y : Int} {i : Nat} (h1 : X + rho ≤ x) (h2 : x < X + rho + W') (h3 : Y + rho ≤ y) (h4 : y < Y + rho + H') (h5 : (i : Int) = (y - (Y + rho)) * W' + (x - (X + rho))) {k : Nat} (hk : k < N) (w : World) (hr : FlAt w b 0 n v) :
    Calls Try.prog 95 #[fldV X Y W H (.slice (some ⟨b, 0, none⟩) n cap), .int .i64 (x - rho + ((k % side : Nat) : Int)), .int .i64 (y - rho + ((k / side : Nat) : Int))] w fun e w' => e = .returned (.float .f32 (winW v W W' side i k)) ∧ w.alloc (fldO X Y W H (.slice (some ⟨b, 0, none⟩) n cap)) = w' := by
  obtain ⟨b1, b2, b3, b4, b5, b6, b7, b8, b9⟩ := checkR_zero h0
  have en : ((W : Int) * (H : Int)) = (n : Int) := by rw [hn]; simp
  obtain ⟨ex, ey⟩ := place_of hW1 h1 h2 h3 h5
  have ha : i % W' < W' := Nat.mod_lt _ (by omega)
  have hbq : i / W' < H' := by omega
  have k1 : k % side < side := Nat.mod_lt _ (by omega)
  have k2 : k / side < side := Nat.div_lt_of_lt_mul (by omega)
  unfold winW
  generalize i % W' = qa at *
  generalize i / W' = qb at *
  generalize k % side = ka at *
  generalize k / side = kq at *
  have hlt : qb * W + qa + kq * W + ka < n := by
    have q : (qb + kq + 1) * W ≤ H * W := Nat.mul_le_mul_right _ (by omega)
    rw [hn, Nat.mul_comm W H]
    rw [Nat.add_mul, Nat.add_mul, Nat.one_mul] at q
    omega
  exact refAt_any X Y W H n b cap _ v _ _ w (by omega) (by omega) (by omega) (by omega) (by omega) (by omega) (by omega) (by omega) (by omega) (by omega) (by omega)
    (by rw [show y - (rho : Int) + (kq : Int) - Y = ((qb + kq : Nat) : Int) by omega, show x - (rho : Int) + (ka : Int) - X = ((qa + ka : Nat) : Int) by omega, ← Int.natCast_mul, ← Int.natCast_add, Nat.add_mul]; congr 1; omega) hlt (by omega) hr

set_option maxRecDepth 100000 in
set_option maxHeartbeats 4000000 in
theorem rkernel1_any (X Y : Int) (W H n b cap : Nat) (v : Nat → Nat) (pk pf pr ps kb koff kc rho side m W' H' : Nat) (kv : Nat → Nat) (w : World) (hx : RBox w X Y W H n b cap v pf pr ps rho side)
    (hkx : w.heap[pk]? = some (.cells #[.slice (some ⟨kb, koff, none⟩) (m + 1) kc] 39)) (hk : FlAt w kb koff (m + 1) kv) (hkh : allB (m + 1) (fun i => hgtB (kv i)) = true)
    (h0 : checkR X Y W H = 0) (hn : n = W * H) (hh : allB n (fun i => hgtB (v i)) = true) (hs : side = 2 * rho + 1) (hm : m + 1 = side * side) (hm4 : m < 4000) (hW : W = W' + 2 * rho) (hH : H = H' + 2 * rho) (hW1 : 1 ≤ W') (hH1 : 1 ≤ H') :
    Clos2 93 #[.pointer (some ⟨pk, 0, none⟩), .pointer (some ⟨pf, 0, none⟩), .pointer (some ⟨pr, 0, none⟩), .pointer (some ⟨ps, 0, none⟩)] (X + rho) (Y + rho) W' H' (krnF v kv W W' side m) w := by
  intro x y i w2 h1 h2 h3 h4 h5 hb
  have hn1 : 1 ≤ n := by rw [hn]; exact Nat.mul_pos (by omega) (by omega)
  obtain ⟨b1, b2, b3, b4, b5, b6, b7, b8, b9⟩ := checkR_zero h0
  have zk : kb < w2.heap.size := Nat.lt_of_lt_of_le (World.block_lt_of_cell? w _ (hk 0 (by omega))) hb.size
  have zb : b < w2.heap.size := Nat.lt_of_lt_of_le (World.block_lt_of_cell? w _ (hx.row 0 hn1)) hb.size
  have HX2 := Lib.hid (hx.stay hn1 hb)
  have HK2 := Lib.hid (blkStay hkx hb)
  have HKS := Lib.hid (flAt_congr hk (hb.block kb (World.block_lt_of_cell? w _ (hk 0 (by omega)))))
  have WA := Lib.hid (fun k w3 (hb3 : Below w2.heap.size w2 w3) (hk : k < m + 1) => win_at h0 hn hs hm hW hH hW1 hH1 h1 h2 h3 h4 h5 hk w3 (flAt_congr HX2.out.row (hb3.block b zb)) (cap := cap))
  have hwin : allB (m + 1) (fun k => hgtB (winW v W W' side i k)) = true := allB_iff.2 fun k hk => by
    obtain ⟨ex, ey⟩ := place_of hW1 h1 h2 h3 h5
    have ha : i % W' < W' := Nat.mod_lt _ (by omega)
    have hbq : i / W' < H' := by omega
    have k1 : k % side < side := Nat.mod_lt _ (by omega)
    have k2 : k / side < side := Nat.div_lt_of_lt_mul (by omega)
    refine allB_iff.1 hh _ ?_
    generalize i % W' = qa at *
    generalize i / W' = qb at *
    generalize k % side = ka at *
    generalize k / side = kq at *
    have q : (qb + kq + 1) * W ≤ H * W := Nat.mul_le_mul_right _ (by omega)
    rw [hn, Nat.mul_comm W H]
    rw [Nat.add_mul, Nat.add_mul, Nat.one_mul] at q
    omega
  show Calls _ _ _ _ fun e W'' => e = .returned (.float .f32 (krnW kv (winW v W W' side i) m)) ∧ _
  generalize winW v W W' side i = U at *
  have MU := Lib.hid (fun i (hi : i ≤ m) => kmul_hgt (allB_iff.1 hkh i (by omega)) (allB_iff.1 hwin i (by omega)))
  have ST := Lib.hid (fun k (hk : k < m) => (ksum_step (u := 40) (f := fun i => mulW (kv i) (U i)) (by omega) hm4 (fun i hi => (MU.out i hi).2.2) hk))
  have hside : 1 ≤ side := by omega
  have hsd := Lib.hid (fun k (hk : k < m + 1) => show k % side < side ∧ k / side < side from ⟨Nat.mod_lt _ (by omega), Nat.div_lt_of_lt_mul (by omega)⟩)
  obtain ⟨N, hN⟩ : ∃ N, m + 1 = N := ⟨_, rfl⟩
  rw [hN] at HK2 HKS WA hsd
  have HN := Lib.hid hN
  have HN1 := Lib.hid hn1
  have hNI : (N : Int) ≤ 4000 := by omega
  have hx1 : -4194304 ≤ x - rho := by omega
  have hx2 : x - rho ≤ 4194304 := by omega
  have hy1 : -4194304 ≤ y - rho := by omega
  have hy2 : y - rho ≤ 4194304 := by omega
  have hside2 : side ≤ 513 := by omega
  have v1 : IntKind.i64.wrap (x - (rho : Int)) = x - rho := IntWalk.i64_in _ (by omega)
  have v2 : IntKind.i64.wrap (y - (rho : Int)) = y - rho := IntWalk.i64_in _ (by omega)
  obtain ⟨cK, fK, zK⟩ := blkC HK2.out
  have B0 := Lib.hid (Below.refl w2.heap.size w2)
  clear hx hkx hk hkh h0 hn hh hs hm hm4 hW hH hW1 hH1 h1 h2 h3 h4 h5 hb hn1 b1 b2 b3 b4 b5 b6 b7 b8 b9 hwin hN
  go_enter Try.func93, Try.ntmps93
  go_wp2_with fail
  go_loopw [9, 14] (fun s9 s14 wr => ∃ k : Nat, k ≤ N ∧ s14 = .int .i64 k ∧ (k = 0 ∨ ∃ k', k = k' + 1 ∧ s9 = .float .f32 (krnW kv U k')) ∧ Below w2.heap.size w2 wr) (fun _ s14 _ => N - (intOf s14).toNat)
  case atStart => exact ⟨0, Nat.zero_le _, rfl, .inl rfl, B0.out⟩
  case round =>
    obtain ⟨k, hk, rfl, hacc, hb3⟩ := hrel
    have HB3 := Lib.hid hb3
    have HA := Lib.hid hacc
    clear cK fK hacc
    obtain ⟨hF, hR, hS, hrow⟩ := HX2.out.stay HN1.out hb3
    have GK := Lib.hid (blkStay HK2.out hb3)
    have GF := Lib.hid hF
    have GR := Lib.hid hR
    have GS := Lib.hid hS
    have GKS := Lib.hid (flAt_congr HKS.out (hb3.block kb zk))
    have zk3 : kb < wr.heap.size := Nat.lt_of_lt_of_le zk hb3.size
    clear hF hR hS hrow hb3
    obtain ⟨cK, fK, zK3⟩ := blkC GK.out
    by_cases hlt : k < N
    · have hAT := Lib.hid (fun W3 (hB : Below wr.heap.size wr W3) => WA.out k W3 (HB3.out.trans (hB.mono HB3.out.size)) hlt)
      have hMU := MU.out k (by have := HN.out; omega)
      have RM := Lib.hid (fun w => refMul_any 40 (kv k) (U k) _ hMU.2.1 hMU.1 w)
      have hcell := GKS.out k hlt
      obtain ⟨j1, j2⟩ := hsd.out k hlt
      have t1 : (k : Int).tmod (side : Int) = ((k % side : Nat) : Int) := by rw [Int.tmod_eq_emod_of_nonneg (by omega)]; simp
      have t2 : (k : Int).tdiv (side : Int) = ((k / side : Nat) : Int) := by rw [Int.tdiv_eq_ediv_of_nonneg (by omega)]; simp
      have t3 : (k : Int) % (side : Int) = ((k % side : Nat) : Int) := by simp
      have t4 : (k : Int) / (side : Int) = ((k / side : Nat) : Int) := by simp
      obtain ⟨ka, hka⟩ : ∃ q, k % side = q := ⟨_, rfl⟩
      obtain ⟨kq, hkq⟩ : ∃ q, k / side = q := ⟨_, rfl⟩
      rw [hka] at t1 t3 hAT j1
      rw [hkq] at t2 t4 hAT j2
      have v3 : IntKind.i64.wrap (kq : Int) = kq := IntWalk.i64_in _ (by omega)
      have v4 : IntKind.i64.wrap (x - (rho : Int) + (ka : Int)) = x - rho + ka := IntWalk.i64_in _ (by omega)
      have v5 : IntKind.i64.wrap (y - (rho : Int) + (kq : Int)) = y - rho + kq := IntWalk.i64_in _ (by omega)
      have w0 : ¬ ((side : Int) = 0) := by omega
      have w0' : ¬ (side = 0) := by omega
      have hkI : (k : Int) < (N : Int) := by omega
      have HLT := Lib.hid hlt
      obtain ⟨cF, fF, zF3⟩ := blkC GF.out
      obtain ⟨cR, fR, zR3⟩ := blkC GR.out
      obtain ⟨cS, fS, zS3⟩ := blkC GS.out
      clear hMU hka hkq
      generalize hpm : mulW (kv k) (U k) = pm at *
      have HPM := Lib.hid hpm
      clear hpm
      go_upto_region 5 with fail
      go_region_held3 (fun w' => (∀ o, w'.cell? ⟨pf, o, none⟩ = #[.int .i64 X, .int .i64 Y, .int .i64 W, .int .i64 H, .slice (some ⟨b, 0, none⟩) n cap][o]?) ∧ (∀ o, w'.cell? ⟨pr, o, none⟩ = #[.int .i64 rho][o]?) ∧ (∀ o, w'.cell? ⟨ps, o, none⟩ = #[.int .i64 side][o]?) ∧ (∀ o, w'.cell? ⟨pk, o, none⟩ = #[.slice (some ⟨kb, koff, none⟩) N kc][o]?) ∧ w'.cell? ⟨kb, koff + k, none⟩ = some (.float .f32 (kv k)) ∧ Below wr.heap.size wr w') (first | exact ⟨(blkC (blkStay GF.out (by repeat (first | exact Below.refl _ _ | refine Below.alloc ?_ (by first | omega | (simp; done) | (simp; omega)) _ | refine Below.setCell ?_ (by first | omega | (simp; done) | (simp; omega)) _ | refine Below.drew ?_)))).1, (blkC (blkStay GR.out (by repeat (first | exact Below.refl _ _ | refine Below.alloc ?_ (by first | omega | (simp; done) | (simp; omega)) _ | refine Below.setCell ?_ (by first | omega | (simp; done) | (simp; omega)) _ | refine Below.drew ?_)))).1, (blkC (blkStay GS.out (by repeat (first | exact Below.refl _ _ | refine Below.alloc ?_ (by first | omega | (simp; done) | (simp; omega)) _ | refine Below.setCell ?_ (by first | omega | (simp; done) | (simp; omega)) _ | refine Below.drew ?_)))).1, (blkC (blkStay GK.out (by repeat (first | exact Below.refl _ _ | refine Below.alloc ?_ (by first | omega | (simp; done) | (simp; omega)) _ | refine Below.setCell ?_ (by first | omega | (simp; done) | (simp; omega)) _ | refine Below.drew ?_)))).1, (flAt_congr GKS.out ((show Below wr.heap.size wr _ from (by repeat (first | exact Below.refl _ _ | refine Below.alloc ?_ (by first | omega | (simp; done) | (simp; omega)) _ | refine Below.setCell ?_ (by first | omega | (simp; done) | (simp; omega)) _ | refine Below.drew ?_))).block kb zk3)) k HLT.out, (by repeat (first | exact Below.refl _ _ | refine Below.alloc ?_ (by first | omega | (simp; done) | (simp; omega)) _ | refine Below.setCell ?_ (by first | omega | (simp; done) | (simp; omega)) _ | refine Below.drew ?_))⟩) (first | (go_at_call 95; (with_reducible refine Calls.mono (hAT.out _ (by repeat (first | exact Below.refl _ _ | refine Below.alloc ?_ (by first | omega | (simp; done) | (simp; omega)) _ | refine Below.setCell ?_ (by first | omega | (simp; done) | (simp; omega)) _ | refine Below.drew ?_))) ?_); rintro e w' ⟨rfl, rfl⟩) | (go_at_call 94; (with_reducible refine Calls.mono (RM.out _) ?_); rintro e w' ⟨rfl, rfl⟩))
      rename_i hHeld
      have HB5 := Lib.hid (HB3.out.trans (hHeld.2.2.2.2.2.mono HB3.out.size))
      clear hHeld cF fF cR fR cS fS cK fK hcell
      generalize (wr.alloc (fldO X Y W H (.slice (some ⟨b, 0, none⟩) n cap))).drew = w5 at *
      by_cases hk0 : k = 0
      · have hk0' : (k : Int) = 0 := by omega
        have HR := Lib.hid (show pm = krnW kv U 0 from by rw [← HPM.out, hk0]; rfl)
        go_wp2_with fail
        go_roundw
        case rel => exact ⟨k + 1, HLT.out, by go_num, .inr ⟨k, rfl, by rw [HR.out, hk0]⟩, HB5.out⟩
        case measure => have := HLT.out; simp [intOf]; omega
      · have hk0' : ¬ ((k : Int) = 0) := by omega
        rcases HA.out with c | ⟨k', hk', rfl⟩
        · exact absurd c hk0
        have hst := ST.out k' (by have := HN.out; have := HLT.out; omega)
        have e1 : mulW (kv (k' + 1)) (U (k' + 1)) = pm := by rw [← hk']; exact HPM.out
        have RA := Lib.hid (fun w => refAdd_any 53 (krnW kv U k') pm (krnW kv U k) (by have := hst.2; rw [e1] at this; exact this) (by have := hst.1; rw [e1] at this; rw [hk']; exact this) w)
        clear hst e1 hk'
        go_wp2_with (go_at_call 96; (with_reducible refine Calls.mono (RA.out _) ?_); rintro e w' ⟨rfl, rfl⟩)
        go_roundw
        case rel => exact ⟨k + 1, HLT.out, by go_num, .inr ⟨k, rfl, rfl⟩, HB5.out⟩
        case measure => have := HLT.out; simp [intOf]; omega
    · have hke : k = N := by omega
      have hkI : ¬ ((k : Int) < (N : Int)) := by omega
      rcases HA.out with c | ⟨k', hk', rfl⟩
      · exact absurd c (by have := HN.out; omega)
      have e : k' = m := by have := HN.out; omega
      subst e
      clear hk' hke
      go_wp2_with fail
      go_ret
      exact ⟨rfl, HB3.out⟩
end Go.Proofs.Ytkcehbnmcdppkaa

/- The closure of the reference's Blur. -/
namespace Go.Proofs.Ytkcehbnmcdppkaa
open Go.RowKit Fl
set_option linter.unusedVariables false

set_option maxRecDepth 100000 in
set_option maxHeartbeats 4000000 in
theorem rblur1_any (X Y : Int) (W H n b cap : Nat) (v : Nat → Nat) (pf pr ps rho side m W' H' : Nat) (w : World) (hx : RBox w X Y W H n b cap v pf pr ps rho side)
    (h0 : checkR X Y W H = 0) (hn : n = W * H) (hh : allB n (fun i => hgtB (v i)) = true) (hs : side = 2 * rho + 1) (hm : m + 1 = side * side) (hm4 : m < 4000) (hW : W = W' + 2 * rho) (hH : H = H' + 2 * rho) (hW1 : 1 ≤ W') (hH1 : 1 ≤ H') :
    Clos2 100 #[.pointer (some ⟨pf, 0, none⟩), .pointer (some ⟨pr, 0, none⟩), .pointer (some ⟨ps, 0, none⟩)] (X + rho) (Y + rho) W' H' (blrF v W W' side m) w := by
  intro x y i w2 h1 h2 h3 h4 h5 hb
  have hn1 : 1 ≤ n := by rw [hn]; exact Nat.mul_pos (by omega) (by omega)
  obtain ⟨b1, b2, b3, b4, b5, b6, b7, b8, b9⟩ := checkR_zero h0
  have zb : b < w2.heap.size := Nat.lt_of_lt_of_le (World.block_lt_of_cell? w _ (hx.row 0 hn1)) hb.size
  have HX2 := Lib.hid (hx.stay hn1 hb)
  have WA := Lib.hid (fun k w3 (hb3 : Below w2.heap.size w2 w3) (hk : k < m + 1) => win_at h0 hn hs hm hW hH hW1 hH1 h1 h2 h3 h4 h5 hk w3 (flAt_congr HX2.out.row (hb3.block b zb)) (cap := cap))
  have hwin : allB (m + 1) (fun k => hgtB (winW v W W' side i k)) = true := allB_iff.2 fun k hk => by
    obtain ⟨ex, ey⟩ := place_of hW1 h1 h2 h3 h5
    have ha : i % W' < W' := Nat.mod_lt _ (by omega)
    have hbq : i / W' < H' := by omega
    have k1 : k % side < side := Nat.mod_lt _ (by omega)
    have k2 : k / side < side := Nat.div_lt_of_lt_mul (by omega)
    refine allB_iff.1 hh _ ?_
    generalize i % W' = qa at *
    generalize i / W' = qb at *
    generalize k % side = ka at *
    generalize k / side = kq at *
    have q : (qb + kq + 1) * W ≤ H * W := Nat.mul_le_mul_right _ (by omega)
    rw [hn, Nat.mul_comm W H]
    rw [Nat.add_mul, Nat.add_mul, Nat.one_mul] at q
    omega
  show Calls _ _ _ _ fun e W'' => e = .returned (.float .f32 (quoW (sumW (winW v W W' side i) m) (floatOfInt .f32 ((m + 1 : Nat) : Int)))) ∧ _
  generalize winW v W W' side i = U at *
  have ST := Lib.hid (fun k (hk : k < m) => (ksum_step (u := 20) (f := U) (by omega) hm4 (fun i hi => hgt_bd (allB_iff.1 hwin i (by omega))) hk))
  obtain ⟨r, hr, hsame⟩ := kmean_parts (u := 20) (f := U) (n := m) (by omega) hm4 (fun i hi => hgt_bd (allB_iff.1 hwin i (by omega)))
  have er : quoW (sumW U m) (floatOfInt .f32 ((m + 1 : Nat) : Int)) = r := by unfold quoW; rw [hr]; rfl
  rw [er]
  have hsd := Lib.hid (fun k (hk : k < m + 1) => show k % side < side ∧ k / side < side from ⟨Nat.mod_lt _ (by omega), Nat.div_lt_of_lt_mul (by omega)⟩)
  obtain ⟨N, hN⟩ : ∃ N, m + 1 = N := ⟨_, rfl⟩
  rw [hN] at WA hsd hr hsame
  have RD := Lib.hid (fun w => refDiv_any 32 _ _ r hsame hr w)
  have RC := Lib.hid (fun w => refConv_any (N : Int) w)
  have HN := Lib.hid hN
  have HN1 := Lib.hid hn1
  have hNI : (N : Int) ≤ 4000 := by omega
  have uN : IntKind.i64.wrap ((side : Int) * (side : Int)) = (N : Int) := by
    rw [show (side : Int) * (side : Int) = (N : Int) from by rw [← hN, hm]; simp]
    exact IntWalk.i64_in _ (by omega)
  have hx1 : -4194304 ≤ x - rho := by omega
  have hx2 : x - rho ≤ 4194304 := by omega
  have hy1 : -4194304 ≤ y - rho := by omega
  have hy2 : y - rho ≤ 4194304 := by omega
  have hside2 : side ≤ 513 := by omega
  have hside : 1 ≤ side := by omega
  have v1 : IntKind.i64.wrap (x - (rho : Int)) = x - rho := IntWalk.i64_in _ (by omega)
  have v2 : IntKind.i64.wrap (y - (rho : Int)) = y - rho := IntWalk.i64_in _ (by omega)
  have A0 := Lib.hid (fun W3 (hB : Below w2.heap.size w2 W3) => show Calls Try.prog 95 #[fldV X Y W H (.slice (some ⟨b, 0, none⟩) n cap), .int .i64 (x - rho), .int .i64 (y - rho)] W3 fun e w' => e = .returned (.float .f32 (U 0)) ∧ W3.alloc (fldO X Y W H (.slice (some ⟨b, 0, none⟩) n cap)) = w' by
    have := WA.out 0 W3 hB (by omega)
    simp only [Nat.zero_mod, Nat.zero_div, Int.natCast_zero, Int.add_zero] at this
    exact this)
  obtain ⟨cF, fF, zF⟩ := blkC HX2.out.fld
  obtain ⟨cR, fR, zR⟩ := blkC HX2.out.rad
  obtain ⟨cS, fS, zS⟩ := blkC HX2.out.sid
  clear hx h0 hn hh hs hm hm4 hW hH hW1 hH1 h1 h2 h3 h4 h5 hb hn1 b1 b2 b3 b4 b5 b6 b7 b8 b9 hwin hN hr hsame er
  go_enter Try.func100, Try.ntmps100
  go_wp2_with (go_at_call 95; (with_reducible refine Calls.mono (A0.out _ (by repeat (first | exact Below.refl _ _ | refine Below.alloc ?_ (by first | omega | (simp; done) | (simp; omega)) _ | refine Below.setCell ?_ (by first | omega | (simp; done) | (simp; omega)) _ | refine Below.drew ?_))) ?_); rintro e w' ⟨rfl, rfl⟩)
  have B0 := Lib.hid (show Below w2.heap.size w2 (w2.alloc (fldO X Y W H (.slice (some ⟨b, 0, none⟩) n cap))) from (by repeat (first | exact Below.refl _ _ | refine Below.alloc ?_ (by first | omega | (simp; done) | (simp; omega)) _ | refine Below.setCell ?_ (by first | omega | (simp; done) | (simp; omega)) _ | refine Below.drew ?_)))
  clear cF fF cR fR cS fS
  generalize w2.alloc (fldO X Y W H (.slice (some ⟨b, 0, none⟩) n cap)) = w3 at *
  go_loopw [8, 9] (fun s8 s9 wr => ∃ k : Nat, k ≤ m ∧ s9 = .int .i64 ((k : Int) + 1) ∧ s8 = .float .f32 (sumW U k) ∧ Below w2.heap.size w2 wr) (fun _ s9 _ => N - (intOf s9).toNat)
  case atStart => exact ⟨0, Nat.zero_le _, rfl, rfl, B0.out⟩
  case round =>
    obtain ⟨k, hk, rfl, rfl, hb3⟩ := hrel
    have HB3 := Lib.hid hb3
    obtain ⟨hF, hR, hS, hrow⟩ := HX2.out.stay HN1.out hb3
    have GF := Lib.hid hF
    have GR := Lib.hid hR
    have GS := Lib.hid hS
    clear hF hR hS hrow hb3
    obtain ⟨cF, fF, zF3⟩ := blkC GF.out
    obtain ⟨cR, fR, zR3⟩ := blkC GR.out
    obtain ⟨cS, fS, zS3⟩ := blkC GS.out
    have hkc : ((k : Int) + 1) = ((k + 1 : Nat) : Int) := by simp
    by_cases hlt : k < m
    · have hAT := Lib.hid (fun W3 (hB : Below wr.heap.size wr W3) => WA.out (k + 1) W3 (HB3.out.trans (hB.mono HB3.out.size)) (by have := HN.out; omega))
      have hst := ST.out k hlt
      have RA := Lib.hid (fun w => refAdd_any 33 (sumW U k) (U (k + 1)) (sumW U (k + 1)) hst.2 hst.1 w)
      obtain ⟨j1, j2⟩ := hsd.out (k + 1) (by have := HN.out; omega)
      obtain ⟨k1, hk1⟩ : ∃ q, k + 1 = q := ⟨_, rfl⟩
      rw [hk1] at hAT RA j1 j2
      have kc : (k : Int) + 1 = (k1 : Int) := by omega
      have HKK := Lib.hid kc
      have t1 : (k1 : Int).tmod (side : Int) = ((k1 % side : Nat) : Int) := by rw [Int.tmod_eq_emod_of_nonneg (by omega)]; simp
      have t2 : (k1 : Int).tdiv (side : Int) = ((k1 / side : Nat) : Int) := by rw [Int.tdiv_eq_ediv_of_nonneg (by omega)]; simp
      have t3 : (k1 : Int) % (side : Int) = ((k1 % side : Nat) : Int) := by simp
      have t4 : (k1 : Int) / (side : Int) = ((k1 / side : Nat) : Int) := by simp
      obtain ⟨ka, hka⟩ : ∃ q, k1 % side = q := ⟨_, rfl⟩
      obtain ⟨kq, hkq⟩ : ∃ q, k1 / side = q := ⟨_, rfl⟩
      rw [hka] at t1 t3 hAT j1
      rw [hkq] at t2 t4 hAT j2
      have v3 : IntKind.i64.wrap (kq : Int) = kq := IntWalk.i64_in _ (by omega)
      have v4 : IntKind.i64.wrap (x - (rho : Int) + (ka : Int)) = x - rho + ka := IntWalk.i64_in _ (by omega)
      have v5 : IntKind.i64.wrap (y - (rho : Int) + (kq : Int)) = y - rho + kq := IntWalk.i64_in _ (by omega)
      have w0 : ¬ ((side : Int) = 0) := by omega
      have w0' : ¬ (side = 0) := by omega
      have hkI : (k1 : Int) < (N : Int) := by have := HN.out; omega
      have HLT := Lib.hid hlt
      have HK1 := Lib.hid hk1
      clear hka hkq hkc hst hk1
      rw [kc]
      clear kc
      go_upto_region 5 with fail
      go_region_held3 (fun w' => (∀ o, w'.cell? ⟨pf, o, none⟩ = #[.int .i64 X, .int .i64 Y, .int .i64 W, .int .i64 H, .slice (some ⟨b, 0, none⟩) n cap][o]?) ∧ (∀ o, w'.cell? ⟨pr, o, none⟩ = #[.int .i64 rho][o]?) ∧ (∀ o, w'.cell? ⟨ps, o, none⟩ = #[.int .i64 side][o]?) ∧ Below wr.heap.size wr w') (first | exact ⟨(blkC (blkStay GF.out (by repeat (first | exact Below.refl _ _ | refine Below.alloc ?_ (by first | omega | (simp; done) | (simp; omega)) _ | refine Below.setCell ?_ (by first | omega | (simp; done) | (simp; omega)) _ | refine Below.drew ?_)))).1, (blkC (blkStay GR.out (by repeat (first | exact Below.refl _ _ | refine Below.alloc ?_ (by first | omega | (simp; done) | (simp; omega)) _ | refine Below.setCell ?_ (by first | omega | (simp; done) | (simp; omega)) _ | refine Below.drew ?_)))).1, (blkC (blkStay GS.out (by repeat (first | exact Below.refl _ _ | refine Below.alloc ?_ (by first | omega | (simp; done) | (simp; omega)) _ | refine Below.setCell ?_ (by first | omega | (simp; done) | (simp; omega)) _ | refine Below.drew ?_)))).1, (by repeat (first | exact Below.refl _ _ | refine Below.alloc ?_ (by first | omega | (simp; done) | (simp; omega)) _ | refine Below.setCell ?_ (by first | omega | (simp; done) | (simp; omega)) _ | refine Below.drew ?_))⟩) (first | (go_at_call 95; (with_reducible refine Calls.mono (hAT.out _ (by repeat (first | exact Below.refl _ _ | refine Below.alloc ?_ (by first | omega | (simp; done) | (simp; omega)) _ | refine Below.setCell ?_ (by first | omega | (simp; done) | (simp; omega)) _ | refine Below.drew ?_))) ?_); rintro e w' ⟨rfl, rfl⟩) | (go_at_call 96; (with_reducible refine Calls.mono (RA.out _) ?_); rintro e w' ⟨rfl, rfl⟩))
      rename_i hHeld
      have HB5 := Lib.hid (HB3.out.trans (hHeld.2.2.2.mono HB3.out.size))
      clear hHeld cF fF cR fR cS fS
      generalize (wr.alloc (fldO X Y W H (.slice (some ⟨b, 0, none⟩) n cap))).drew = w5 at *
      go_wp2_with fail
      go_roundw
      case rel => exact ⟨k1, by have := HK1.out; have := HLT.out; omega, by go_num, rfl, HB5.out⟩
      case measure => have := HK1.out; have := HLT.out; have := HN.out; simp [intOf]; omega
    · have hke : k = m := by omega
      subst hke
      have hkN : (k : Int) + 1 = (N : Int) := by have := HN.out; omega
      have hkI : ¬ ((N : Int) < (N : Int)) := by omega
      rw [hkN]
      clear hkN hkc hlt
      go_wp2_with (first | (go_at_call 102; (with_reducible refine Calls.mono (RC.out _) ?_); rintro e w' ⟨rfl, rfl⟩) | (go_at_call 101; (with_reducible refine Calls.mono (RD.out _) ?_); rintro e w' ⟨rfl, rfl⟩))
      go_ret
      exact ⟨rfl, HB3.out⟩
end Go.Proofs.Ytkcehbnmcdppkaa

/- Contracts: the reference's Kernel and Blur of a right field. -/
namespace Go.Proofs.Ytkcehbnmcdppkaa
open Go.RowKit Fl
set_option linter.unusedVariables false

theorem mulW_lt (x y : Nat) : mulW x y < 4294967296 := by
  unfold mulW
  cases h : floatBits .mul .f32 x y with
  | none => simp
  | some r => exact mul_lt h
theorem addW_lt (x y : Nat) : addW x y < 4294967296 := by
  unfold addW
  cases h : floatBits .add .f32 x y with
  | none => simp
  | some r => exact add_lt h
theorem kquo_lt {x y r : Nat} (h : floatBits .quo .f32 x y = some r) : r < 4294967296 := opt_lt (d := (Ieee.single.read x).quotient _ (Ieee.single.read y)) h
theorem krnF_lt (v kv : Nat → Nat) (W W' side m i : Nat) : krnF v kv W W' side m i < 4294967296 := by
  unfold krnF krnW
  cases m with
  | zero => exact mulW_lt _ _
  | succ k => exact addW_lt _ _
theorem blrF_lt (v : Nat → Nat) (W W' side m i : Nat) : blrF v W W' side m i < 4294967296 := by
  unfold blrF quoW
  cases h : floatBits .quo .f32 (sumW (winW v W W' side i) m) (floatOfInt .f32 ((m + 1 : Nat) : Int)) with
  | none => simp
  | some r => exact kquo_lt h

section
variable (X Y : Int) (W H n b cap : Nat) (v : Nat → Nat) (w : World)

set_option maxRecDepth 100000 in
set_option maxHeartbeats 2000000 in
theorem rkernel_bad (s : Value) (a : Option Addr) (kl kc : Nat) (side : Int) (h : side < 1 ∨ 15 < side ∨ side % 2 = 0) :
    Calls Try.prog 39 #[fldV X Y W H s, .slice a kl kc, .int .i64 side] w (ErrPost w 3) := by
  have hc : side < 1 ∨ (¬ (side < 1) ∧ 15 < side) ∨ (¬ (side < 1) ∧ ¬ (15 < side) ∧ side.tmod 2 = 0 ∧ side % 2 = 0 ∧ ¬ (side < 0)) := by
    by_cases c : side < 1
    · exact .inl c
    · by_cases c2 : 15 < side
      · exact .inr (.inl ⟨c, c2⟩)
      · have c3 : side % 2 = 0 := by omega
        exact .inr (.inr ⟨c, c2, by rw [Int.tmod_eq_emod_of_nonneg (by omega)]; exact c3, c3, by omega⟩)
  clear h
  rcases hc with c | ⟨c, c1⟩ | ⟨c, c1, c2, c3, c4⟩
  all_goals
    go_enter Try.func39, Try.ntmps39
    go_wp2_with fail
    refine bodyPost_ret (v := .tuple #[fldV 0 0 0 0 (.slice none 0 0), .int .i64 3]) (by simp [results, Try.results39, go_sem]) rfl ⟨rfl, (by repeat (first | exact Below.refl _ _ | refine Below.alloc ?_ (by first | omega | (simp; done) | (simp; omega)) _ | refine Below.setCell ?_ (by first | omega | (simp; done) | (simp; omega)) _ | refine Below.drew ?_))⟩

set_option maxRecDepth 100000 in
set_option maxHeartbeats 2000000 in
theorem rkernel_form (s0 : Value) (a : Option Addr) (kl kc : Nat) (s : Nat) (h1' : 1 ≤ s) (h2' : s ≤ 15) (h3' : s % 2 = 1) (hl : kl ≠ s * s) (hl2 : kl ≤ 9223372036854775807) :
    Calls Try.prog 39 #[fldV X Y W H s0, .slice a kl kc, .int .i64 s] w (ErrPost w 2) := by
  have c1 : ¬ ((s : Int) < 1) := by omega
  have c2 : ¬ ((15 : Int) < s) := by omega
  have t1 : (s : Int).tmod 2 = 1 := by rw [Int.tmod_eq_emod_of_nonneg (by omega)]; omega
  have t2 : (s : Int) % 2 = 1 := by omega
  have t3 : (0 : Int) ≤ s := by omega
  obtain ⟨N, hN⟩ : ∃ N, s * s = N := ⟨_, rfl⟩
  have hNle : N ≤ 225 := by rw [← hN]; exact Nat.mul_le_mul h2' h2'
  have u1 : IntKind.i64.wrap ((s : Int) * (s : Int)) = (N : Int) := by
    rw [show (s : Int) * (s : Int) = (N : Int) from by rw [← hN]; simp]
    exact IntWalk.i64_in _ (by omega)
  rw [hN] at hl
  have hne : ¬ ((kl : Int) = (N : Int)) := by omega
  have hne2 : ((kl : Int) != (N : Int)) = true := by simp; omega
  clear h1' h2' h3' hl hN
  go_enter Try.func39, Try.ntmps39
  go_wp2_with fail
  refine bodyPost_ret (v := .tuple #[fldV 0 0 0 0 (.slice none 0 0), .int .i64 2]) (by simp [results, Try.results39, go_sem]) rfl ⟨rfl, (by repeat (first | exact Below.refl _ _ | refine Below.alloc ?_ (by first | omega | (simp; done) | (simp; omega)) _ | refine Below.setCell ?_ (by first | omega | (simp; done) | (simp; omega)) _ | refine Below.drew ?_))⟩

set_option maxRecDepth 100000 in
set_option maxHeartbeats 2000000 in
theorem rkernel_k (s0 : Value) (kb koff kc s m : Nat) (kv : Nat → Nat) (h1' : 1 ≤ s) (h2' : s ≤ 15) (h3' : s % 2 = 1) (hm : m + 1 = s * s) (hk : FlAt w kb koff (m + 1) kv) (hkw : wf32 (m + 1) kv) (her : fldE (m + 1) kv ≠ 0) :
    Calls Try.prog 39 #[fldV X Y W H s0, .slice (some ⟨kb, koff, none⟩) (m + 1) kc, .int .i64 s] w (ErrPost w (fldE (m + 1) kv)) := by
  have hlk : kb < w.heap.size := World.block_lt_of_cell? w _ (hk 0 (by omega))
  have hNle : m + 1 ≤ 225 := by rw [hm]; exact Nat.mul_le_mul h2' h2'
  have CH := Lib.hid (fun W' (hb : Below w.heap.size w W') => refHeight_row kb koff kc (m + 1) kv (by omega) W' (flAt_congr hk (hb.block _ hlk)) hkw)
  have c1 : ¬ ((s : Int) < 1) := by omega
  have c2 : ¬ ((15 : Int) < s) := by omega
  have t1 : (s : Int).tmod 2 = 1 := by rw [Int.tmod_eq_emod_of_nonneg (by omega)]; omega
  have t2 : (s : Int) % 2 = 1 := by omega
  have t3 : (0 : Int) ≤ s := by omega
  obtain ⟨N, hN⟩ : ∃ N, m + 1 = N := ⟨_, rfl⟩
  have u1 : IntKind.i64.wrap ((s : Int) * (s : Int)) = (N : Int) := by
    rw [show (s : Int) * (s : Int) = (N : Int) from by rw [← hN, hm]; simp]
    exact IntWalk.i64_in _ (by omega)
  rw [hN] at CH her ⊢
  have hbe : (fldE N kv != 0) = true := by simpa using her
  generalize fldE N kv = er at *
  clear h1' h2' h3' hN hm hk hkw her hNle
  go_enter Try.func39, Try.ntmps39
  go_wp2_with (go_at_call 85; (with_reducible refine Calls.mono (CH.out _ (by repeat (first | exact Below.refl _ _ | refine Below.alloc ?_ (by first | omega | (simp; done) | (simp; omega)) _ | refine Below.setCell ?_ (by first | omega | (simp; done) | (simp; omega)) _ | refine Below.drew ?_))) ?_); rintro e w3 ⟨rfl, rfl⟩)
  refine bodyPost_ret (v := .tuple #[fldV 0 0 0 0 (.slice none 0 0), .int .i64 er]) (by simp [results, Try.results39, go_sem]) rfl ⟨rfl, (by repeat (first | exact Below.refl _ _ | refine Below.alloc ?_ (by first | omega | (simp; done) | (simp; omega)) _ | refine Below.setCell ?_ (by first | omega | (simp; done) | (simp; omega)) _ | refine Below.drew ?_))⟩

set_option maxRecDepth 100000 in
set_option maxHeartbeats 4000000 in
theorem rkernel_none (s0 : Value) (kb koff kc s m rho : Nat) (kv : Nat → Nat) (h0 : checkR X Y W H = 0) (h2' : s ≤ 15) (hs : s = 2 * rho + 1) (hm : m + 1 = s * s) (hk : FlAt w kb koff (m + 1) kv) (hkw : wf32 (m + 1) kv) (her : fldE (m + 1) kv = 0) (hno : W ≤ 2 * rho ∨ H ≤ 2 * rho) :
    Calls Try.prog 39 #[fldV X Y W H s0, .slice (some ⟨kb, koff, none⟩) (m + 1) kc, .int .i64 s] w (ErrPost w 10) := by
  obtain ⟨b1, b2, b3, b4, b5, b6, b7, b8, b9⟩ := checkR_zero h0
  have hlk : kb < w.heap.size := World.block_lt_of_cell? w _ (hk 0 (by omega))
  have hNle : m + 1 ≤ 225 := by rw [hm]; exact Nat.mul_le_mul h2' h2'
  have CH := Lib.hid (fun W' (hb : Below w.heap.size w W') => refHeight_row kb koff kc (m + 1) kv (by omega) W' (flAt_congr hk (hb.block _ hlk)) hkw)
  have GR := Lib.hid (fun w => refGrown_any X Y W H (-(rho : Int)) w (by omega) (by omega) (by omega) (by omega) (by omega) (by omega) (by omega) (by omega) (by omega) (by omega))
  have c1 : ¬ ((s : Int) < 1) := by omega
  have c2 : ¬ ((15 : Int) < s) := by omega
  have t1 : (s : Int).tmod 2 = 1 := by rw [Int.tmod_eq_emod_of_nonneg (by omega)]; omega
  have t2 : (s : Int) % 2 = 1 := by omega
  have t3 : (0 : Int) ≤ s := by omega
  have t4 : ((s : Int) - 1).tdiv 2 = (rho : Int) := by rw [Int.tdiv_eq_ediv_of_nonneg (by omega)]; omega
  have t5 : ((s : Int) - 1) / 2 = (rho : Int) := by omega
  have t6 : (0 : Int) ≤ (s : Int) - 1 := by omega
  have u2 : IntKind.i64.wrap ((s : Int) - 1) = (s : Int) - 1 := IntWalk.i64_in _ (by omega)
  have u3 : IntKind.i64.wrap (rho : Int) = (rho : Int) := IntWalk.i64_in _ (by omega)
  have u4 : IntKind.i64.wrap (-(rho : Int)) = -(rho : Int) := IntWalk.i64_in _ (by omega)
  obtain ⟨N, hN⟩ : ∃ N, m + 1 = N := ⟨_, rfl⟩
  have u1 : IntKind.i64.wrap ((s : Int) * (s : Int)) = (N : Int) := by
    rw [show (s : Int) * (s : Int) = (N : Int) from by rw [← hN, hm]; simp]
    exact IntWalk.i64_in _ (by omega)
  have hc : (W : Int) + 2 * -(rho : Int) < 1 ∨ ¬ ((W : Int) + 2 * -(rho : Int) < 1) ∧ (H : Int) + 2 * -(rho : Int) < 1 := by omega
  rw [hN] at CH her ⊢
  rw [her] at CH
  clear h2' hs hN hm hk hkw her hNle hno h0 b1 b2 b3 b4 b5 b6 b7 b8 b9
  generalize (W : Int) + 2 * -(rho : Int) = W' at *
  generalize (H : Int) + 2 * -(rho : Int) = H' at *
  rcases hc with c | ⟨c3, c⟩
  all_goals
    go_enter Try.func39, Try.ntmps39
    go_wp2_with (first
      | (go_at_call 85; (with_reducible refine Calls.mono (CH.out _ (by repeat (first | exact Below.refl _ _ | refine Below.alloc ?_ (by first | omega | (simp; done) | (simp; omega)) _ | refine Below.setCell ?_ (by first | omega | (simp; done) | (simp; omega)) _ | refine Below.drew ?_))) ?_); rintro e w3 ⟨rfl, rfl⟩)
      | (go_at_call 91; (with_reducible refine Calls.mono (GR.out _) ?_); rintro e w4 ⟨rfl, hb4⟩; have HS4 := Lib.hid (blkStay (b := w.heap.size + 1 + 1 + 1) (o := fldO 0 0 0 0 (.slice none 0 0)) (by (first | (rw [heap_alloc_get, if_pos rfl]; done) | ((simp only [heap_alloc_get, heap_size_alloc, if_true]) <;> ((repeat' split) <;> first | rfl | omega)))) hb4); have hB4 := Lib.hid (Below.trans (show Below w.heap.size w _ from (by repeat (first | exact Below.refl _ _ | refine Below.alloc ?_ (by first | omega | (simp; done) | (simp; omega)) _ | refine Below.setCell ?_ (by first | omega | (simp; done) | (simp; omega)) _ | refine Below.drew ?_))) (Below.mono hb4 (by first | omega | (simp; done) | (simp; omega)))); clear hb4; obtain ⟨cS, fS, zS⟩ := blkC HS4.out))
    have HRES := fun (u1 u2 u3 u4 u5 : Value) (o : Obj) => (blkC ((heap_alloc_old (set5 w4 (w.heap.size + 1 + 1 + 1) u1 u2 u3 u4 u5) o (by rw [set5_size]; exact zS)).trans (set5_self u1 u2 u3 u4 u5 HS4.out))).1
    simp only [set5] at HRES
    refine bodyPost_ret (v := .tuple #[fldV 0 0 0 0 (.slice none 0 0), .int .i64 10]) (by simp [results, Try.results39, go_sem, HRES]) rfl ?_
    exact ⟨rfl, by repeat (first | exact hB4.out | refine Below.alloc ?_ (by first | (have := hB4.out.size; simp; omega) | omega) _ | refine Below.setCell ?_ (by first | omega | (simp; done) | (simp; omega)) _)⟩

set_option maxRecDepth 100000 in
set_option maxHeartbeats 4000000 in
theorem rkernel_ok (kb koff kc s m rho W' H' : Nat) (kv : Nat → Nat) (h0 : checkR X Y W H = 0) (hn : n = W * H) (hr : FlAt w b 0 n v) (hh : allB n (fun i => hgtB (v i)) = true) (h2' : s ≤ 15) (hs : s = 2 * rho + 1) (hm : m + 1 = s * s) (hk : FlAt w kb koff (m + 1) kv) (hkw : wf32 (m + 1) kv) (her : fldE (m + 1) kv = 0) (hW : W = W' + 2 * rho) (hH : H = H' + 2 * rho) (hW1 : 1 ≤ W') (hH1 : 1 ≤ H') :
    Calls Try.prog 39 #[fldV X Y W H (.slice (some ⟨b, 0, none⟩) n cap), .slice (some ⟨kb, koff, none⟩) (m + 1) kc, .int .i64 s] w (ScPost w (X + rho) (Y + rho) W' H' (H' * W') (krnF v kv W W' s m) 0) := by
  obtain ⟨b1, b2, b3, b4, b5, b6, b7, b8, b9⟩ := checkR_zero h0
  have hn1 : 1 ≤ n := by rw [hn]; exact Nat.mul_pos (by omega) (by omega)
  have hlt : b < w.heap.size := World.block_lt_of_cell? w _ (hr 0 hn1)
  have hlk : kb < w.heap.size := World.block_lt_of_cell? w _ (hk 0 (by omega))
  have hNle : m + 1 ≤ 225 := by rw [hm]; exact Nat.mul_le_mul h2' h2'
  have CH := Lib.hid (fun W' (hb : Below w.heap.size w W') => refHeight_row kb koff kc (m + 1) kv (by omega) W' (flAt_congr hk (hb.block _ hlk)) hkw)
  have GR := Lib.hid (fun w => show Calls Try.prog 91 #[reg X Y W H, .int .i64 (-(rho : Int))] w fun e w' => e = .returned (reg (X + rho) (Y + rho) W' H') ∧ Below w.heap.size w w' by
    have := refGrown_any X Y W H (-(rho : Int)) w (by omega) (by omega) (by omega) (by omega) (by omega) (by omega) (by omega) (by omega) (by omega) (by omega)
    rw [show X - -(rho : Int) = X + rho by omega, show Y - -(rho : Int) = Y + rho by omega, show (W : Int) + 2 * -(rho : Int) = W' by omega, show (H : Int) + 2 * -(rho : Int) = H' by omega] at this
    exact this)
  have hkh : allB (m + 1) (fun i => hgtB (kv i)) = true := fldE_zero.1 her
  have HB := Lib.hid (fun pk pf pr ps W2 (hb : Below w.heap.size w W2) (hx : RBox W2 X Y W H n b cap v pf pr ps rho s) (hkx : W2.heap[pk]? = some (.cells #[.slice (some ⟨kb, koff, none⟩) (m + 1) kc] 39)) =>
    made_any (X + rho) (Y + rho) W' H' (H' * W') 93 _ (krnF v kv W W' s m) W2 enters_rKernel1 (rkernel1_any X Y W H n b cap v pk pf pr ps kb koff kc rho s m W' H' kv W2 hx hkx (flAt_congr hk (hb.block _ hlk)) hkh h0 hn hh hs hm (by omega) hW hH hW1 hH1) (fun i _ => krnF_lt v kv W W' s m i) (by omega) (by omega) (by omega) (by omega) hW1 (by omega) hH1 (by omega) rfl)
  have c1 : ¬ ((s : Int) < 1) := by omega
  have c2 : ¬ ((15 : Int) < s) := by omega
  have c3 : ¬ ((W' : Int) < 1) := by omega
  have c4 : ¬ ((H' : Int) < 1) := by omega
  have t1 : (s : Int).tmod 2 = 1 := by rw [Int.tmod_eq_emod_of_nonneg (by omega)]; omega
  have t2 : (s : Int) % 2 = 1 := by omega
  have t3 : (0 : Int) ≤ s := by omega
  have t4 : ((s : Int) - 1).tdiv 2 = (rho : Int) := by rw [Int.tdiv_eq_ediv_of_nonneg (by omega)]; omega
  have t5 : ((s : Int) - 1) / 2 = (rho : Int) := by omega
  have t6 : (0 : Int) ≤ (s : Int) - 1 := by omega
  have u2 : IntKind.i64.wrap ((s : Int) - 1) = (s : Int) - 1 := IntWalk.i64_in _ (by omega)
  have u3 : IntKind.i64.wrap (rho : Int) = (rho : Int) := IntWalk.i64_in _ (by omega)
  have u4 : IntKind.i64.wrap (-(rho : Int)) = -(rho : Int) := IntWalk.i64_in _ (by omega)
  obtain ⟨N, hN⟩ : ∃ N, m + 1 = N := ⟨_, rfl⟩
  have u1 : IntKind.i64.wrap ((s : Int) * (s : Int)) = (N : Int) := by
    rw [show (s : Int) * (s : Int) = (N : Int) from by rw [← hN, hm]; simp]
    exact IntWalk.i64_in _ (by omega)
  have HR := Lib.hid hr
  rw [hN] at CH her HB ⊢
  rw [her] at CH
  clear h2' hs hN hm hk hkw her hNle h0 b1 b2 b3 b4 b5 b6 b7 b8 b9 hn hr hh hW hH hW1 hH1 hn1 hkh
  go_enter Try.func39, Try.ntmps39
  go_upto_region 12 with (first
      | (go_at_call 85; (with_reducible refine Calls.mono (CH.out _ (by repeat (first | exact Below.refl _ _ | refine Below.alloc ?_ (by first | omega | (simp; done) | (simp; omega)) _ | refine Below.setCell ?_ (by first | omega | (simp; done) | (simp; omega)) _ | refine Below.drew ?_))) ?_); rintro e w3 ⟨rfl, rfl⟩)
      | (go_at_call 91; (with_reducible refine Calls.mono (GR.out _) ?_); rintro e w4 ⟨rfl, hb4⟩; have HF4 := Lib.hid (blkStay (b := w.heap.size) (o := fldO X Y W H (.slice (some ⟨b, 0, none⟩) n cap)) (by (first | (rw [heap_alloc_get, if_pos rfl]; done) | ((simp only [heap_alloc_get, heap_size_alloc, if_true]) <;> ((repeat' split) <;> first | rfl | omega)))) hb4); have HK4 := Lib.hid (blkStay (b := w.heap.size + 1) (o := .cells #[.slice (some ⟨kb, koff, none⟩) N kc] 39) (by (first | (rw [heap_alloc_get, if_pos rfl]; done) | ((simp only [heap_alloc_get, heap_size_alloc, if_true]) <;> ((repeat' split) <;> first | rfl | omega)))) hb4); have HD4 := Lib.hid (blkStay (b := w.heap.size + 1 + 1) (o := .cells #[.int .i64 s] 3) (by (first | (rw [heap_alloc_get, if_pos rfl]; done) | ((simp only [heap_alloc_get, heap_size_alloc, if_true]) <;> ((repeat' split) <;> first | rfl | omega)))) hb4); have HS4 := Lib.hid (blkStay (b := w.heap.size + 1 + 1 + 1) (o := fldO 0 0 0 0 (.slice none 0 0)) (by (first | (rw [heap_alloc_get, if_pos rfl]; done) | ((simp only [heap_alloc_get, heap_size_alloc, if_true]) <;> ((repeat' split) <;> first | rfl | omega)))) hb4); have HR4 := Lib.hid (blkStay (b := w.heap.size + 1 + 1 + 1 + 1) (o := .cells #[.int .i64 rho] 3) (by (first | (rw [heap_alloc_get, if_pos rfl]; done) | ((simp only [heap_alloc_get, heap_size_alloc, if_true]) <;> ((repeat' split) <;> first | rfl | omega)))) hb4); have hB4 := Lib.hid (Below.trans (show Below w.heap.size w _ from (by repeat (first | exact Below.refl _ _ | refine Below.alloc ?_ (by first | omega | (simp; done) | (simp; omega)) _ | refine Below.setCell ?_ (by first | omega | (simp; done) | (simp; omega)) _ | refine Below.drew ?_))) (Below.mono hb4 (by first | omega | (simp; done) | (simp; omega)))); clear hb4))
  have hb5 : Below w4.heap.size w4 (w4.alloc (regObj (X + rho) (Y + rho) W' H')) := (by repeat (first | exact Below.refl _ _ | refine Below.alloc ?_ (by first | omega | (simp; done) | (simp; omega)) _ | refine Below.setCell ?_ (by first | omega | (simp; done) | (simp; omega)) _ | refine Below.drew ?_))
  have HS5 := Lib.hid (blkStay HS4.out hb5)
  have HG5 := Lib.hid (show (w4.alloc (regObj (X + rho) (Y + rho) W' H')).heap[w4.heap.size]? = some (regObj (X + rho) (Y + rho) W' H') from by (first | (rw [heap_alloc_get, if_pos rfl]; done) | ((simp only [heap_alloc_get, heap_size_alloc, if_true]) <;> ((repeat' split) <;> first | rfl | omega))))
  have B5 := Lib.hid (hB4.out.trans (hb5.mono hB4.out.size))
  have BY := Lib.hid (HB.out (w.heap.size + 1) w.heap.size (w.heap.size + 1 + 1 + 1 + 1) (w.heap.size + 1 + 1) _ B5.out ⟨blkStay HF4.out hb5, blkStay HR4.out hb5, blkStay HD4.out hb5, flAt_congr HR.out (B5.out.block _ hlt)⟩ (blkStay HK4.out hb5))
  clear HF4 HK4 HD4 HR4 HS4 hb5 HB
  unfold regObj at HS5 HG5 B5 BY
  obtain ⟨z4, hz4⟩ : ∃ z, z = w4.heap.size := ⟨_, rfl⟩
  have Z4 := Lib.hid (show w.heap.size ≤ z4 from by rw [hz4]; exact hB4.out.size)
  rw [← hz4] at HG5 ⊢
  clear hz4 hB4
  generalize w4.alloc (.cells #[.int .i64 (X + rho), .int .i64 (Y + rho), .int .i64 W', .int .i64 H'] 38) = w5 at *
  obtain ⟨cG, fG, zG⟩ := blkC HG5.out
  go_wp2_with (go_at_call 92; (with_reducible refine Calls.mono BY.out ?_))
  intro e w6 hmade
  rcases hmade with ⟨hall, b', cap', rfl, hb', hlt', hrow, hbel⟩ | ⟨hall, rfl, hbel⟩
  · have HS6 := Lib.hid (blkStay HS5.out hbel)
    have HM := Lib.hid (And.intro hall (And.intro hb' (And.intro hlt' (And.intro hrow hbel))))
    clear hall hb' hlt' hrow hbel cG fG
    obtain ⟨cS, fS, zS⟩ := blkC HS6.out
    go_wp2
    refine bodyPost_ret (v := .tuple #[fldV (X + rho) (Y + rho) W' H' (.slice (some ⟨b', 0, none⟩) (H' * W') cap'), .int .i64 0]) (by simp [results, Try.results39, go_sem, cS]) rfl ?_
    obtain ⟨hall, hb', hlt', hrow, hbel⟩ := HM.out
    have z5 := B5.out.size
    have zs := (blkC HS5.out).2.2
    exact .inr ⟨rfl, .inl ⟨hall, b', cap', rfl, by omega, by rw [set5_size]; exact hlt', flAt_congr hrow (set5_heap w6 _ _ _ _ _ _ _ (by omega)), set5_below (B5.out.trans (hbel.mono z5)) _ _ _ _ _ _ (by omega)⟩⟩
  · have HS6 := Lib.hid (blkStay HS5.out hbel)
    have HM := Lib.hid (And.intro hall hbel)
    clear hall hbel cG fG
    obtain ⟨cS, fS, zS⟩ := blkC HS6.out
    go_wp2
    refine bodyPost_ret (v := .tuple #[fldV 0 0 0 0 (.slice none 0 0), .int .i64 3]) (by simp [results, Try.results39, go_sem, cS]) rfl ?_
    exact .inr ⟨rfl, .inr ⟨HM.out.1, rfl, set5_below (B5.out.trans (HM.out.2.mono B5.out.size)) _ _ _ _ _ _ (by omega)⟩⟩

end
end Go.Proofs.Ytkcehbnmcdppkaa

/- Contracts: the reference's Blur of a right field. -/
namespace Go.Proofs.Ytkcehbnmcdppkaa
open Go.RowKit Fl
set_option linter.unusedVariables false

section
variable (X Y : Int) (W H n b cap : Nat) (v : Nat → Nat) (w : World)

set_option maxRecDepth 100000 in
set_option maxHeartbeats 2000000 in
theorem rblur_bad (s : Value) (rd : Int) (h : rd < 0 ∨ 16 < rd) :
    Calls Try.prog 42 #[fldV X Y W H s, .int .i64 rd] w (ErrPost w 3) := by
  have hc : rd < 0 ∨ (¬ (rd < 0) ∧ 16 < rd) := by omega
  clear h
  rcases hc with c | ⟨c, c1⟩
  all_goals
    go_enter Try.func42, Try.ntmps42
    go_wp2_with fail
    refine bodyPost_ret (v := .tuple #[fldV 0 0 0 0 (.slice none 0 0), .int .i64 3]) (by simp [results, Try.results42, go_sem]) rfl ⟨rfl, (by repeat (first | exact Below.refl _ _ | refine Below.alloc ?_ (by first | omega | (simp; done) | (simp; omega)) _ | refine Below.setCell ?_ (by first | omega | (simp; done) | (simp; omega)) _ | refine Below.drew ?_))⟩

set_option maxRecDepth 100000 in
set_option maxHeartbeats 4000000 in
theorem rblur_none (s0 : Value) (rho : Nat) (h0 : checkR X Y W H = 0) (hrho : rho ≤ 16) (hno : W ≤ 2 * rho ∨ H ≤ 2 * rho) :
    Calls Try.prog 42 #[fldV X Y W H s0, .int .i64 rho] w (ErrPost w 10) := by
  obtain ⟨b1, b2, b3, b4, b5, b6, b7, b8, b9⟩ := checkR_zero h0
  have GR := Lib.hid (fun w => refGrown_any X Y W H (-(rho : Int)) w (by omega) (by omega) (by omega) (by omega) (by omega) (by omega) (by omega) (by omega) (by omega) (by omega))
  have c1 : ¬ ((rho : Int) < 0) := by omega
  have c2 : ¬ ((16 : Int) < rho) := by omega
  have u4 : IntKind.i64.wrap (-(rho : Int)) = -(rho : Int) := IntWalk.i64_in _ (by omega)
  have hc : (W : Int) + 2 * -(rho : Int) < 1 ∨ ¬ ((W : Int) + 2 * -(rho : Int) < 1) ∧ (H : Int) + 2 * -(rho : Int) < 1 := by omega
  clear hno h0 b1 b2 b3 b4 b5 b6 b7 b8 b9 hrho
  generalize (W : Int) + 2 * -(rho : Int) = W' at *
  generalize (H : Int) + 2 * -(rho : Int) = H' at *
  rcases hc with c | ⟨c3, c⟩
  all_goals
    go_enter Try.func42, Try.ntmps42
    go_wp2_with (go_at_call 91; (with_reducible refine Calls.mono (GR.out _) ?_); rintro e w4 ⟨rfl, hb4⟩; have HS4 := Lib.hid (blkStay (b := w.heap.size + 1 + 1) (o := fldO 0 0 0 0 (.slice none 0 0)) (by (first | (rw [heap_alloc_get, if_pos rfl]; done) | ((simp only [heap_alloc_get, heap_size_alloc, if_true]) <;> ((repeat' split) <;> first | rfl | omega)))) hb4); have hB4 := Lib.hid (Below.trans (show Below w.heap.size w _ from (by repeat (first | exact Below.refl _ _ | refine Below.alloc ?_ (by first | omega | (simp; done) | (simp; omega)) _ | refine Below.setCell ?_ (by first | omega | (simp; done) | (simp; omega)) _ | refine Below.drew ?_))) (Below.mono hb4 (by first | omega | (simp; done) | (simp; omega)))); clear hb4; obtain ⟨cS, fS, zS⟩ := blkC HS4.out)
    have HRES := fun (u1 u2 u3 u4 u5 : Value) (o : Obj) => (blkC ((heap_alloc_old (set5 w4 (w.heap.size + 1 + 1) u1 u2 u3 u4 u5) o (by rw [set5_size]; exact zS)).trans (set5_self u1 u2 u3 u4 u5 HS4.out))).1
    simp only [set5] at HRES
    refine bodyPost_ret (v := .tuple #[fldV 0 0 0 0 (.slice none 0 0), .int .i64 10]) (by simp [results, Try.results42, go_sem, HRES]) rfl ?_
    exact ⟨rfl, by repeat (first | exact hB4.out | refine Below.alloc ?_ (by first | (have := hB4.out.size; simp; omega) | omega) _ | refine Below.setCell ?_ (by first | omega | (simp; done) | (simp; omega)) _)⟩

set_option maxRecDepth 100000 in
set_option maxHeartbeats 4000000 in
theorem rblur_ok (s m rho W' H' : Nat) (h0 : checkR X Y W H = 0) (hn : n = W * H) (hr : FlAt w b 0 n v) (hh : allB n (fun i => hgtB (v i)) = true) (hrho : rho ≤ 16) (hs : s = 2 * rho + 1) (hm : m + 1 = s * s) (hW : W = W' + 2 * rho) (hH : H = H' + 2 * rho) (hW1 : 1 ≤ W') (hH1 : 1 ≤ H') :
    Calls Try.prog 42 #[fldV X Y W H (.slice (some ⟨b, 0, none⟩) n cap), .int .i64 rho] w (ScPost w (X + rho) (Y + rho) W' H' (H' * W') (blrF v W W' s m) 0) := by
  obtain ⟨b1, b2, b3, b4, b5, b6, b7, b8, b9⟩ := checkR_zero h0
  have hn1 : 1 ≤ n := by rw [hn]; exact Nat.mul_pos (by omega) (by omega)
  have hlt : b < w.heap.size := World.block_lt_of_cell? w _ (hr 0 hn1)
  have hNle : m + 1 ≤ 33 * 33 := by rw [hm]; exact Nat.mul_le_mul (show s ≤ 33 by omega) (show s ≤ 33 by omega)
  have GR := Lib.hid (fun w => show Calls Try.prog 91 #[reg X Y W H, .int .i64 (-(rho : Int))] w fun e w' => e = .returned (reg (X + rho) (Y + rho) W' H') ∧ Below w.heap.size w w' by
    have := refGrown_any X Y W H (-(rho : Int)) w (by omega) (by omega) (by omega) (by omega) (by omega) (by omega) (by omega) (by omega) (by omega) (by omega)
    rw [show X - -(rho : Int) = X + rho by omega, show Y - -(rho : Int) = Y + rho by omega, show (W : Int) + 2 * -(rho : Int) = W' by omega, show (H : Int) + 2 * -(rho : Int) = H' by omega] at this
    exact this)
  have HB := Lib.hid (fun pf pr ps W2 (hx : RBox W2 X Y W H n b cap v pf pr ps rho s) =>
    made_any (X + rho) (Y + rho) W' H' (H' * W') 100 _ (blrF v W W' s m) W2 enters_rBlur1 (rblur1_any X Y W H n b cap v pf pr ps rho s m W' H' W2 hx h0 hn hh hs hm (by omega) hW hH hW1 hH1) (fun i _ => blrF_lt v W W' s m i) (by omega) (by omega) (by omega) (by omega) hW1 (by omega) hH1 (by omega) rfl)
  have c1 : ¬ ((rho : Int) < 0) := by omega
  have c2 : ¬ ((16 : Int) < rho) := by omega
  have c3 : ¬ ((W' : Int) < 1) := by omega
  have c4 : ¬ ((H' : Int) < 1) := by omega
  have u4 : IntKind.i64.wrap (-(rho : Int)) = -(rho : Int) := IntWalk.i64_in _ (by omega)
  have u5 : IntKind.i64.wrap (2 * (rho : Int)) = 2 * rho := IntWalk.i64_in _ (by omega)
  have u6 : IntKind.i64.wrap (2 * (rho : Int) + 1) = (s : Int) := by rw [IntWalk.i64_in _ (by omega)]; omega
  have HR := Lib.hid hr
  clear hs hm hNle h0 b1 b2 b3 b4 b5 b6 b7 b8 b9 hn hr hh hW hH hW1 hH1 hn1 hrho
  go_enter Try.func42, Try.ntmps42
  go_upto_region 7 with (go_at_call 91; (with_reducible refine Calls.mono (GR.out _) ?_); rintro e w4 ⟨rfl, hb4⟩; have HF4 := Lib.hid (blkStay (b := w.heap.size) (o := fldO X Y W H (.slice (some ⟨b, 0, none⟩) n cap)) (by (first | (rw [heap_alloc_get, if_pos rfl]; done) | ((simp only [heap_alloc_get, heap_size_alloc, if_true]) <;> ((repeat' split) <;> first | rfl | omega)))) hb4); have HR4 := Lib.hid (blkStay (b := w.heap.size + 1) (o := .cells #[.int .i64 rho] 3) (by (first | (rw [heap_alloc_get, if_pos rfl]; done) | ((simp only [heap_alloc_get, heap_size_alloc, if_true]) <;> ((repeat' split) <;> first | rfl | omega)))) hb4); have HS4 := Lib.hid (blkStay (b := w.heap.size + 1 + 1) (o := fldO 0 0 0 0 (.slice none 0 0)) (by (first | (rw [heap_alloc_get, if_pos rfl]; done) | ((simp only [heap_alloc_get, heap_size_alloc, if_true]) <;> ((repeat' split) <;> first | rfl | omega)))) hb4); have hB4 := Lib.hid (Below.trans (show Below w.heap.size w _ from (by repeat (first | exact Below.refl _ _ | refine Below.alloc ?_ (by first | omega | (simp; done) | (simp; omega)) _ | refine Below.setCell ?_ (by first | omega | (simp; done) | (simp; omega)) _ | refine Below.drew ?_))) (Below.mono hb4 (by first | omega | (simp; done) | (simp; omega)))); clear hb4; obtain ⟨cR, fR, zR⟩ := blkC HR4.out)
  have hb5 : Below w4.heap.size w4 ((w4.alloc (regObj (X + rho) (Y + rho) W' H')).alloc (.cells #[.int .i64 s] 3)) := (by repeat (first | exact Below.refl _ _ | refine Below.alloc ?_ (by first | omega | (simp; done) | (simp; omega)) _ | refine Below.setCell ?_ (by first | omega | (simp; done) | (simp; omega)) _ | refine Below.drew ?_))
  have HS5 := Lib.hid (blkStay HS4.out hb5)
  have HG5 := Lib.hid (show ((w4.alloc (regObj (X + rho) (Y + rho) W' H')).alloc (.cells #[.int .i64 s] 3)).heap[w4.heap.size]? = some (regObj (X + rho) (Y + rho) W' H') from by (first | (rw [heap_alloc_get, if_pos rfl]; done) | ((simp only [heap_alloc_get, heap_size_alloc, if_true]) <;> ((repeat' split) <;> first | rfl | omega))))
  have HD5 := Lib.hid (show ((w4.alloc (regObj (X + rho) (Y + rho) W' H')).alloc (.cells #[.int .i64 s] 3)).heap[w4.heap.size + 1]? = some (.cells #[.int .i64 s] 3) from by (first | (rw [heap_alloc_get, if_pos rfl]; done) | ((simp only [heap_alloc_get, heap_size_alloc, if_true]) <;> ((repeat' split) <;> first | rfl | omega))))
  have B5 := Lib.hid (hB4.out.trans (hb5.mono hB4.out.size))
  have BY := Lib.hid (HB.out w.heap.size (w.heap.size + 1) (w4.heap.size + 1) _ ⟨blkStay HF4.out hb5, blkStay HR4.out hb5, HD5.out, flAt_congr HR.out (B5.out.block _ hlt)⟩)
  clear HF4 HR4 HS4 hb5 HB HD5 cR fR zR
  unfold regObj at HS5 HG5 B5 BY
  obtain ⟨z4, hz4⟩ : ∃ z, z = w4.heap.size := ⟨_, rfl⟩
  have Z4 := Lib.hid (show w.heap.size ≤ z4 from by rw [hz4]; exact hB4.out.size)
  rw [← hz4] at HG5 BY ⊢
  clear hz4 hB4
  generalize (w4.alloc (.cells #[.int .i64 (X + rho), .int .i64 (Y + rho), .int .i64 W', .int .i64 H'] 38)).alloc (.cells #[.int .i64 s] 3) = w5 at *
  obtain ⟨cG, fG, zG⟩ := blkC HG5.out
  go_wp2_with (go_at_call 92; (with_reducible refine Calls.mono BY.out ?_))
  intro e w6 hmade
  rcases hmade with ⟨hall, b', cap', rfl, hb', hlt', hrow, hbel⟩ | ⟨hall, rfl, hbel⟩
  · have HS6 := Lib.hid (blkStay HS5.out hbel)
    have HM := Lib.hid (And.intro hall (And.intro hb' (And.intro hlt' (And.intro hrow hbel))))
    clear hall hb' hlt' hrow hbel cG fG
    obtain ⟨cS, fS, zS⟩ := blkC HS6.out
    go_wp2
    refine bodyPost_ret (v := .tuple #[fldV (X + rho) (Y + rho) W' H' (.slice (some ⟨b', 0, none⟩) (H' * W') cap'), .int .i64 0]) (by simp [results, Try.results42, go_sem, cS]) rfl ?_
    obtain ⟨hall, hb', hlt', hrow, hbel⟩ := HM.out
    have z5 := B5.out.size
    have zs := (blkC HS5.out).2.2
    exact .inr ⟨rfl, .inl ⟨hall, b', cap', rfl, by omega, by rw [set5_size]; exact hlt', flAt_congr hrow (set5_heap w6 _ _ _ _ _ _ _ (by omega)), set5_below (B5.out.trans (hbel.mono z5)) _ _ _ _ _ _ (by omega)⟩⟩
  · have HS6 := Lib.hid (blkStay HS5.out hbel)
    have HM := Lib.hid (And.intro hall hbel)
    clear hall hbel cG fG
    obtain ⟨cS, fS, zS⟩ := blkC HS6.out
    go_wp2
    refine bodyPost_ret (v := .tuple #[fldV 0 0 0 0 (.slice none 0 0), .int .i64 3]) (by simp [results, Try.results42, go_sem, cS]) rfl ?_
    exact .inr ⟨rfl, .inr ⟨HM.out.1, rfl, set5_below (B5.out.trans (HM.out.2.mono B5.out.size)) _ _ _ _ _ _ (by omega)⟩⟩
end
end Go.Proofs.Ytkcehbnmcdppkaa

/- Kernel and Blur: the program and the reference answer alike, whatever the weights, the side and the radius. -/
namespace Go.Proofs.Ytkcehbnmcdppkaa
open Go.RowKit Fl
set_option linter.unusedVariables false

/-- A slice of singles: empty, or known. -/
def SlK (w : World) (a : Option Addr) (kl kc : Nat) : Prop := kl ≤ 9223372036854775807 ∧ (kl = 0 ∨ ∃ kb koff kv, a = some ⟨kb, koff, none⟩ ∧ kl ≤ kc ∧ FlAt w kb koff kl kv ∧ wf32 kl kv)
theorem SlK.stay {w w' : World} {a : Option Addr} {kl kc : Nat} (h : SlK w a kl kc) (hb : Below w.heap.size w w') : SlK w' a kl kc := by
  obtain ⟨h1, h2⟩ := h
  refine ⟨h1, ?_⟩
  by_cases z : kl = 0
  · exact .inl z
  · rcases h2 with h2 | ⟨kb, koff, kv, e, e1, e2, e3⟩
    · exact .inl h2
    · exact .inr ⟨kb, koff, kv, e, e1, flAt_congr e2 (hb.block _ (World.block_lt_of_cell? w _ (e2 0 (by omega)))), e3⟩

theorem small_area {W H : Nat} (h1 : W ≤ 512) (h2 : H ≤ 512) : H * W ≤ 9223372036854775807 := by
  have : H * W ≤ 512 * 512 := Nat.mul_le_mul h2 h1
  omega

section
variable (X Y : Int) (W H n b cap : Nat) (v : Nat → Nat) (w : World) (h0 : checkR X Y W H = 0) (hn : n = W * H) (hr : FlAt w b 0 n v) (hh : allB n (fun i => hgtB (v i)) = true) (hcap : n ≤ cap)
include h0 hn hr hh hcap

theorem kernel_both (a : Option Addr) (kl kc : Nat) (side : Int) (hk : SlK w a kl kc) :
    ∃ (X' Y' W' H' : Int) (n' : Nat) (f : Nat → Nat) (er : Int), 1 ≤ n' ∧ n' ≤ 9223372036854775807 ∧ ∀ W2, Below w.heap.size w W2 →
      Calls Try.prog 38 #[fldV X Y W H (.slice (some ⟨b, 0, none⟩) n cap), .slice a kl kc, .int .i64 side] W2 (ScPost W2 X' Y' W' H' n' f er) ∧
      Calls Try.prog 39 #[fldV X Y W H (.slice (some ⟨b, 0, none⟩) n cap), .slice a kl kc, .int .i64 side] W2 (ScPost W2 X' Y' W' H' n' f er) := by
  obtain ⟨b1, b2, b3, b4, b5, b6, b7, b8, b9⟩ := checkR_zero h0
  have hn1 : 1 ≤ n := by rw [hn]; exact Nat.mul_pos (by omega) (by omega)
  have zb : b < w.heap.size := World.block_lt_of_cell? w _ (hr 0 hn1)
  have R : ∀ W2, Below w.heap.size w W2 → FlAt W2 b 0 n v := fun W2 hb => flAt_congr hr (hb.block b zb)
  by_cases hbad : side < 1 ∨ 15 < side ∨ side % 2 = 0
  · exact ⟨0, 0, 0, 0, 1, fun _ => 0, 3, by omega, by omega, fun W2 hb => ⟨(kernel_bad X Y W H n b cap v W2 h0 hn (R W2 hb) hh a kl kc side hbad).mono fun e w' h => h.sc (by decide) 0 0 0 0 1 _, (rkernel_bad X Y W H W2 _ a kl kc side hbad).mono fun e w' h => h.sc (by decide) 0 0 0 0 1 _⟩⟩
  · obtain ⟨s, rfl⟩ : ∃ s : Nat, side = s := ⟨side.toNat, by omega⟩
    obtain ⟨rho, hs⟩ : ∃ rho, s = 2 * rho + 1 := ⟨(s - 1) / 2, by omega⟩
    have s1 : 1 ≤ s := by omega
    have s2 : s ≤ 15 := by omega
    have s3 : s % 2 = 1 := by omega
    have ss : 1 ≤ s * s := Nat.mul_pos s1 s1
    clear hbad
    by_cases hl : kl = s * s
    · rcases hk.2 with c | ⟨kb, koff, kv, rfl, hkc, hkf, hkw⟩
      · omega
      obtain ⟨m, rfl⟩ : ∃ m, kl = m + 1 := ⟨kl - 1, by omega⟩
      have zk : kb < w.heap.size := World.block_lt_of_cell? w _ (hkf 0 (by omega))
      have K : ∀ W2, Below w.heap.size w W2 → FlAt W2 kb koff (m + 1) kv := fun W2 hb => flAt_congr hkf (hb.block kb zk)
      by_cases her : fldE (m + 1) kv = 0
      · by_cases hno : W ≤ 2 * rho ∨ H ≤ 2 * rho
        · exact ⟨0, 0, 0, 0, 1, fun _ => 0, 10, by omega, by omega, fun W2 hb => ⟨(kernel_none X Y W H n b cap v W2 h0 hn (R W2 hb) hh kb koff kc s m rho kv s2 hs hl (K W2 hb) her hno).mono fun e w' h => h.sc (by decide) 0 0 0 0 1 _, (rkernel_none X Y W H W2 _ kb koff kc s m rho kv h0 s2 hs hl (K W2 hb) hkw her hno).mono fun e w' h => h.sc (by decide) 0 0 0 0 1 _⟩⟩
        · obtain ⟨W', hW⟩ : ∃ W', W = W' + 2 * rho := ⟨W - 2 * rho, by omega⟩
          obtain ⟨H', hH⟩ : ∃ H', H = H' + 2 * rho := ⟨H - 2 * rho, by omega⟩
          exact ⟨X + rho, Y + rho, W', H', H' * W', krnF v kv W W' s m, 0, Nat.mul_pos (by omega) (by omega), small_area (by omega) (by omega), fun W2 hb => ⟨kernel_ok X Y W H n b cap v W2 h0 hn (R W2 hb) hh kb koff kc s m rho W' H' kv hcap hkc s2 hs hl (K W2 hb) her hW hH (by omega) (by omega), rkernel_ok X Y W H n b cap v W2 kb koff kc s m rho W' H' kv h0 hn (R W2 hb) hh s2 hs hl (K W2 hb) hkw her hW hH (by omega) (by omega)⟩⟩
      · exact ⟨0, 0, 0, 0, 1, fun _ => 0, fldE (m + 1) kv, by omega, by omega, fun W2 hb => ⟨(kernel_k X Y W H n b cap v W2 h0 hn (R W2 hb) hh kb koff kc s m kv s1 s2 s3 hl (K W2 hb) her).mono fun e w' h => h.sc her 0 0 0 0 1 _, (rkernel_k X Y W H W2 _ kb koff kc s m kv s1 s2 s3 hl (K W2 hb) hkw her).mono fun e w' h => h.sc her 0 0 0 0 1 _⟩⟩
    · exact ⟨0, 0, 0, 0, 1, fun _ => 0, 2, by omega, by omega, fun W2 hb => ⟨(kernel_form X Y W H n b cap v W2 h0 hn (R W2 hb) hh a kl kc s s1 s2 s3 hl hk.1).mono fun e w' h => h.sc (by decide) 0 0 0 0 1 _, (rkernel_form X Y W H W2 _ a kl kc s s1 s2 s3 hl hk.1).mono fun e w' h => h.sc (by decide) 0 0 0 0 1 _⟩⟩

theorem blur_both (rd : Int) :
    ∃ (X' Y' W' H' : Int) (n' : Nat) (f : Nat → Nat) (er : Int), 1 ≤ n' ∧ n' ≤ 9223372036854775807 ∧ ∀ W2, Below w.heap.size w W2 →
      Calls Try.prog 41 #[fldV X Y W H (.slice (some ⟨b, 0, none⟩) n cap), .int .i64 rd] W2 (ScPost W2 X' Y' W' H' n' f er) ∧
      Calls Try.prog 42 #[fldV X Y W H (.slice (some ⟨b, 0, none⟩) n cap), .int .i64 rd] W2 (ScPost W2 X' Y' W' H' n' f er) := by
  obtain ⟨b1, b2, b3, b4, b5, b6, b7, b8, b9⟩ := checkR_zero h0
  have hn1 : 1 ≤ n := by rw [hn]; exact Nat.mul_pos (by omega) (by omega)
  have zb : b < w.heap.size := World.block_lt_of_cell? w _ (hr 0 hn1)
  have R : ∀ W2, Below w.heap.size w W2 → FlAt W2 b 0 n v := fun W2 hb => flAt_congr hr (hb.block b zb)
  by_cases hbad : rd < 0 ∨ 16 < rd
  · exact ⟨0, 0, 0, 0, 1, fun _ => 0, 3, by omega, by omega, fun W2 hb => ⟨(blur_bad X Y W H n b cap v W2 h0 hn (R W2 hb) hh rd hbad).mono fun e w' h => h.sc (by decide) 0 0 0 0 1 _, (rblur_bad X Y W H W2 _ rd hbad).mono fun e w' h => h.sc (by decide) 0 0 0 0 1 _⟩⟩
  · obtain ⟨rho, rfl⟩ : ∃ s : Nat, rd = s := ⟨rd.toNat, by omega⟩
    obtain ⟨s, hs⟩ : ∃ s, s = 2 * rho + 1 := ⟨_, rfl⟩
    have ss : 1 ≤ s * s := Nat.mul_pos (by omega) (by omega)
    obtain ⟨m, hm⟩ : ∃ m, m + 1 = s * s := ⟨s * s - 1, by omega⟩
    by_cases hno : W ≤ 2 * rho ∨ H ≤ 2 * rho
    · exact ⟨0, 0, 0, 0, 1, fun _ => 0, 10, by omega, by omega, fun W2 hb => ⟨(blur_none X Y W H n b cap v W2 h0 hn (R W2 hb) hh rho (by omega) hno).mono fun e w' h => h.sc (by decide) 0 0 0 0 1 _, (rblur_none X Y W H W2 _ rho h0 (by omega) hno).mono fun e w' h => h.sc (by decide) 0 0 0 0 1 _⟩⟩
    · obtain ⟨W', hW⟩ : ∃ W', W = W' + 2 * rho := ⟨W - 2 * rho, by omega⟩
      obtain ⟨H', hH⟩ : ∃ H', H = H' + 2 * rho := ⟨H - 2 * rho, by omega⟩
      exact ⟨X + rho, Y + rho, W', H', H' * W', blrF v W W' s m, 0, Nat.mul_pos (by omega) (by omega), small_area (by omega) (by omega), fun W2 hb => ⟨blur_ok X Y W H n b cap v W2 h0 hn (R W2 hb) hh s m rho W' H' hcap (by omega) hs hm hW hH (by omega) (by omega), rblur_ok X Y W H n b cap v W2 s m rho W' H' h0 hn (R W2 hb) hh (by omega) hs hm hW hH (by omega) (by omega)⟩⟩
end
end Go.Proofs.Ytkcehbnmcdppkaa

/- slices.Repeat of any singles, 30 times: singles, 30 times as many. -/
namespace Go.Proofs.Ytkcehbnmcdppkaa
open Go.RowKit Fl
set_option linter.unusedVariables false

theorem and32S (v : Nat) (hv : v < 4294967296) : bits BinOp.and IntKind.u64 (v : Int) 4294967295 = (v : Int) := by
  have := u64_and_nat v 4294967295 (by omega) (by decide)
  have e : v &&& 4294967295 = v := by rw [show (4294967295 : Nat) = 2 ^ 32 - 1 from rfl, Nat.and_two_pow_sub_one_eq_mod]; exact Nat.mod_eq_of_lt hv
  rw [e] at this
  simpa using this

set_option maxHeartbeats 1000000 in
theorem mul64_30 (n : Nat) (hn : n ≤ 1048576) (w : World) :
    Calls Try.prog 142 #[.int .u64 n, .int .u64 30] w fun e w' => e = .returned (.tuple #[.int .u64 0, .int .u64 ((n * 30 : Nat) : Int)]) ∧ w = w' := by
  have a1 := and32S n (by omega)
  have a2 : bits BinOp.and IntKind.u64 30 4294967295 = 30 := by decide
  have a3 : bits BinOp.and IntKind.u64 0 4294967295 = 0 := by decide
  have d1 : (n : Int) / 4294967296 = 0 := by omega
  have d2 : (n : Int) * 30 / 4294967296 = 0 := by omega
  go_enter Try.func142, Try.ntmps142
  go_wp2
  go_ret2
  exact ⟨by simp, rfl⟩
set_option maxHeartbeats 1000000 in
theorem mul_30 (n : Nat) (hn : n ≤ 1048576) (w : World) :
    Calls Try.prog 86 #[.int .u64 n, .int .u64 30] w fun e w' => e = .returned (.tuple #[.int .u64 0, .int .u64 ((n * 30 : Nat) : Int)]) ∧ w = w' := by
  have M := Lib.hid (fun w => mul64_30 n hn w)
  clear hn
  go_enter Try.func86, Try.ntmps86
  go_wp2_with (first | (go_at_call 142; refine (M.out _).mono ?_; rintro e w' ⟨rfl, rfl⟩))
  go_ret2
  exact ⟨rfl, rfl⟩
theorem make_f32S (n : Nat) (hn : n ≤ 31457280) (w : World) :
    (Instr.makeSlice 39 (.int .i64 (n : Int)) (.int .i64 (n : Int))).run Try.prog w = .ok (.slice (some ⟨w.heap.size, 0, none⟩) n n) (w.alloc (.cells (madeCells #[Value.float .f32 0] n) 22)) := by
  have h : (Try.prog.info? 22).map (fun i => (i.zero, i.size, i.bytes)) = some (some (.float .f32 0), 1, 4) := by kernel_rfl
  obtain ⟨i0, hi, hz0, hz1, hz2⟩ := info_parts h
  have hr := run_make (P := Try.prog) w 39 22 i0 (.float .f32 0) Try.underlying39 hi hz0 .i64 .i64 n n (by omega) (by omega) (by rw [hz2]; omega) (by omega)
  rw [hz1, Nat.mul_one, Int.toNat_natCast] at hr
  exact hr

/-- A block of N singles. -/
def RowS (w : World) (g N : Nat) : Prop := ∃ cs : Array Value, w.heap[g]? = some (.cells cs 22) ∧ cs.size = N ∧ ∀ j, j < N → ∃ x, cs[j]? = some (.float .f32 x) ∧ x < 4294967296
theorem RowS.fn {w : World} {g N : Nat} (h : RowS w g N) : ∃ x : Nat → Nat, FlAt w g 0 N x ∧ wf32 N x ∧ g < w.heap.size := by
  obtain ⟨cs, h1, h2, h3⟩ := h
  refine ⟨fun j => if hj : j < N then (h3 j hj).choose else 0, fun i hi => ?_, fun i hi => ?_, (blkC h1).2.2⟩
  · rw [Nat.zero_add, (blkC h1).1 i]; simp only [dif_pos hi]; exact (h3 i hi).choose_spec.1
  · simp only [dif_pos hi]; exact (h3 i hi).choose_spec.2
theorem RowS.congr {w w' : World} {g N : Nat} (h : RowS w g N) (e : w'.heap[g]? = w.heap[g]?) : RowS w' g N := by
  obtain ⟨cs, h1, h2⟩ := h
  exact ⟨cs, e.trans h1, h2⟩

/-- Singles copied into a row of singles. -/
theorem copy_singles {w : World} {b s m g N o sLen sCap dLen dCap : Nat} {ty : TypeId} {x : Nat → Nat} (hs : FlAt w b s m x) (hx : wf32 m x) (hd : RowS w g N) (h2 : o + m ≤ N) (hm : m = min sLen dLen) :
    ∃ w', (Builtin.copy_ #[39, 39] ty #[.slice (some ⟨g, o, none⟩) dLen dCap, .slice (some ⟨b, s, none⟩) sLen sCap]).run Try.prog w = .ok (.int .i64 (m : Int)) w' ∧ RowS w' g N ∧ (∀ B w0, Below B w0 w → B ≤ g → Below B w0 w') := by
  obtain ⟨ds, d1, d2, d3⟩ := hd
  have hinfo : (Try.prog.info? 22).map (·.size) = some 1 := by kernel_rfl
  obtain ⟨cs, hcs⟩ : ∃ cs : List Value, cs = (List.range m).map fun j => Value.float .f32 (x j) := ⟨_, rfl⟩
  have hl : cs.length = m := by rw [hcs]; simp
  have hg : ∀ j u, cs[j]? = some u → j < m ∧ u = .float .f32 (x j) := by
    intro j u hj
    rw [hcs, List.getElem?_map] at hj
    by_cases c : j < m
    · rw [List.getElem?_range c] at hj
      exact ⟨c, (Option.some.inj hj).symm⟩
    · rw [List.getElem?_eq_none (by simp; omega)] at hj
      cases hj
  have lo : (ds.toList.take o).length = o := by simp; omega
  have hr := run_copy_row (P := Try.prog) w 39 39 ty 22 g o dLen dCap ⟨b, s, none⟩ sLen sCap ds 22 cs Try.underlying39 hinfo d1 (by rw [hl]; exact hm)
    (fun j u hj => by
      obtain ⟨e1, rfl⟩ := hg j u hj
      rw [Go.WideShapes.add_plain]
      exact hs j e1) (by rw [hl, d2]; omega)
    (fun u hu => by
      obtain ⟨j, hj⟩ := List.getElem?_of_mem hu
      obtain ⟨_, rfl⟩ := hg j u hj
      rfl)
  rw [hl] at hr
  refine ⟨_, hr, ⟨_, setRow_heap w g ds _ _ _ d1, ?_, ?_⟩, fun B w0 hb hB => below_setRow hb hB _⟩
  · simp; omega
  · intro j hj
    simp only [List.getElem?_toArray]
    by_cases c1 : j < o
    · obtain ⟨u, e1, e2⟩ := d3 j hj
      refine ⟨u, ?_, e2⟩
      rw [List.append_assoc, List.getElem?_append_left (by simp; omega), List.getElem?_take, if_pos c1, Array.getElem?_toList]; exact e1
    · by_cases c2 : j < o + m
      · refine ⟨x (j - o), ?_, hx _ (by omega)⟩
        rw [List.append_assoc, List.getElem?_append_right (by rw [lo]; omega), lo, List.getElem?_append_left (by rw [hl]; omega), hcs, List.getElem?_map, List.getElem?_range (by omega)]
        rfl
      · obtain ⟨u, e1, e2⟩ := d3 j hj
        refine ⟨u, ?_, e2⟩
        rw [List.append_assoc, List.getElem?_append_right (by rw [lo]; omega), lo, List.getElem?_append_right (by rw [hl]; omega), hl, List.getElem?_drop, Array.getElem?_toList, show o + m + (j - o - m) = j by omega]
        exact e1

theorem slice_fs_l (g n N : Nat) (hn : n < N) (W : World) : (Instr.slice 39 (.slice (some ⟨g, 0, none⟩) N N) (some (.int .i64 (n : Int))) none none).run Try.prog W = .ok (.slice (some ⟨g, n, none⟩) (N - n) (N - n)) W := by
  have hs : (sizeOf (Try.prog.elem 39)).run Try.prog W = .ok 1 W := by kernel_rfl
  rw [run_slice_l W 39 _ N N (by kernel_rfl) .i64 n (by omega) (by omega), hs]
  show Result.ok (sliced _ _ _ _ _) W = _
  unfold sliced
  rw [if_neg (by omega)]
  simp [Addr.add]; omega
theorem slice_fs_h (g n N : Nat) (hn : n ≤ N) (W : World) : (Instr.slice 39 (.slice (some ⟨g, 0, none⟩) N N) none (some (.int .i64 (n : Int))) none).run Try.prog W = .ok (.slice (some ⟨g, 0, none⟩) n N) W := by
  have hs : (sizeOf (Try.prog.elem 39)).run Try.prog W = .ok 1 W := by kernel_rfl
  rw [run_slice_h W 39 _ N N (by kernel_rfl) .i64 n (by omega) (by omega), hs]
  show Result.ok (sliced _ _ _ _ _) W = _
  unfold sliced
  simp [Addr.add]

set_option maxHeartbeats 4000000 in
set_option maxRecDepth 100000 in
theorem repeatS_any (b off n cap : Nat) (x : Nat → Nat) (w : World) (hb : FlAt w b off n x) (hx : wf32 n x) (h1 : 1 ≤ n) (h2 : n ≤ 1048576) :
    Calls Try.prog 37 #[.slice (some ⟨b, off, none⟩) n cap, .int .i64 30] w fun e w' =>
      ∃ g, e = .returned (.slice (some ⟨g, 0, none⟩) (n * 30) (n * 30)) ∧ w.heap.size ≤ g ∧ RowS w' g (n * 30) ∧ Below w.heap.size w w' := by
  have ML := Lib.hid (fun w => mul_30 n h2 w)
  obtain ⟨N, hN⟩ : ∃ N, N = n * 30 := ⟨_, rfl⟩
  rw [← hN] at ML ⊢
  have hN1 : N ≤ 31457280 := by omega
  have hnN : n ≤ N := by omega
  have hMK := make_f32S N (by omega)
  have z : b < w.heap.size := World.block_lt_of_cell? w _ (hb 0 h1)
  have HN := Lib.hid hN
  have F0 : RowS (w.alloc (.cells (madeCells #[Value.float .f32 0] N) 22)) w.heap.size N :=
    ⟨madeCells #[Value.float .f32 0] N, by rw [heap_alloc_get, if_pos rfl], size_madeCells _ _, fun j hj => ⟨0, by simp [madeCells, hj, Nat.mod_one], by omega⟩⟩
  have F1 : FlAt (w.alloc (.cells (madeCells #[Value.float .f32 0] N) 22)) b off n x := flAt_congr hb (heap_alloc_old _ _ z)
  obtain ⟨w2, hc, F2, bl2⟩ := copy_singles (ty := 3) (sLen := n) (sCap := cap) (o := 0) (dLen := N) (dCap := N) F1 hx F0 (by omega) (by omega)
  have B2 : Below w.heap.size w w2 := bl2 _ _ ((Below.refl _ _).alloc (Nat.le_refl _) _) (Nat.le_refl _)
  have BL := Lib.hid B2
  have FL := Lib.hid F2
  clear F0 F1 F2 bl2 B2 hN hb hx
  go_enter Try.func37, Try.ntmps37
  go_wp2_with (first | (go_at_call 86; refine (ML.out _).mono ?_; rintro e w' ⟨rfl, rfl⟩))
  clear hMK hc
  go_loopw [8] (fun i wr => ∃ k : Nat, 1 ≤ k ∧ k ≤ N ∧ i = .int .i64 k ∧ RowS wr w.heap.size N ∧ Below w.heap.size w wr) (fun i _ => N - (intOf i).toNat)
  case atStart => exact ⟨n, h1, hnN, rfl, FL.out, BL.out⟩
  case round =>
    obtain ⟨k, k1, k2, rfl, hf, hb⟩ := hrel
    by_cases hlt : k < N
    · have s1 := fun W => slice_fs_l w.heap.size k N hlt W
      have s2 := fun W => slice_fs_h w.heap.size k N k2 W
      obtain ⟨m, hm⟩ : ∃ m, m = min k (N - k) := ⟨_, rfl⟩
      obtain ⟨y, y1, y2, _⟩ := hf.fn
      obtain ⟨w3, hc3, F3, bl3⟩ := copy_singles (w := wr.drew) (ty := 3) (b := w.heap.size) (g := w.heap.size) (s := 0) (m := m) (sLen := k) (sCap := N) (o := k) (dLen := N - k) (dCap := N - k) (N := N) (x := y) (fun i hi => y1 i (by omega)) (fun i hi => y2 i (by omega)) (hf.congr rfl) (by omega) hm
      have B3 := bl3 _ _ hb.drew (Nat.le_refl _)
      have hm1 : 1 ≤ m := by omega
      have hm2 : k + m ≤ N := by omega
      have HF := Lib.hid F3
      have HBL := Lib.hid B3
      clear hm hf hb bl3 B3 y1 y2 F3
      go_wp2
      go_region
      go_wp2
      go_roundw
      case rel => exact ⟨k + m, by omega, hm2, by go_num, HF.out, HBL.out⟩
      case measure => simp [intOf]; omega
    · obtain rfl : k = N := by omega
      go_wp2
      go_ret
      exact ⟨w.heap.size, rfl, Nat.le_refl _, hf, hb⟩
end Go.Proofs.Ytkcehbnmcdppkaa

/- The closures of Scale and Clamp, on both sides. -/
namespace Go.Proofs.Ytkcehbnmcdppkaa
open Go.RowKit Fl
set_option linter.unusedVariables false

/-- What Scale makes of a cell. -/
def sclW (v : Nat → Nat) (m c : Nat) (i : Nat) : Nat := (floatBits .add .f32 ((floatBits .mul .f32 (v i) m).getD 0) c).getD 0
theorem scl_parts {x m c : Nat} (hx : hgtB x = true) (hm : hgtB m = true) (hc : hgtB c = true) :
    ∃ r s, floatBits .mul .f32 x m = some r ∧ Same2 .mul 40 x m ∧ floatBits .add .f32 r c = some s ∧ Same2 .add 41 r c ∧ s < 4294967296 := by
  have h1 : Same2 .mul 40 x m := mul_same (by omega) (hgt_bd hx) (hgt_bd hm)
  obtain ⟨X, Y, Z, r, _, _, _, _, e1, b1⟩ := h1.ex
  have h2 : Same2 .add 41 r c := add_same (by omega) b1 (bd_up (hgt_bd hc) (by omega))
  obtain ⟨X2, Y2, Z2, s, _, _, _, _, e2, b2⟩ := h2.ex
  exact ⟨r, s, e1, h1, e2, h2, opt_lt (d := (Ieee.single.read r).sum (Ieee.single.read c)) e2⟩
theorem scl_eq {v : Nat → Nat} {m c i r s : Nat} (h1 : floatBits .mul .f32 (v i) m = some r) (h2 : floatBits .add .f32 r c = some s) : sclW v m c i = s := by
  unfold sclW; rw [h1]; show (floatBits .add .f32 r c).getD 0 = s; rw [h2]; rfl

/-- What the two closures hold: the field, two singles. -/
structure Caps (w : World) (X Y : Int) (W H n b cap : Nat) (v : Nat → Nat) (p m c : Nat) : Prop where
  fld : w.heap[p]? = some (fldO X Y W H (.slice (some ⟨b, 0, none⟩) n cap))
  one : w.heap[p + 1]? = some (flObj m)
  two : w.heap[p + 1 + 1]? = some (flObj c)
  row : FlAt w b 0 n v
theorem Caps.stay {w w' : World} {X Y : Int} {W H n b cap : Nat} {v : Nat → Nat} {p m c : Nat} (h : Caps w X Y W H n b cap v p m c) (hn : 1 ≤ n) (hb : Below w.heap.size w w') : Caps w' X Y W H n b cap v p m c :=
  ⟨blkStay h.fld hb, blkStay h.one hb, blkStay h.two hb, flAt_congr h.row (hb.block _ (World.block_lt_of_cell? w _ (h.row 0 hn)))⟩

theorem clp_lt {v : Nat → Nat} {a b i : Nat} (h1 : v i < 4294967296) (h2 : a < 4294967296) (h3 : b < 4294967296) : clpW (v i) a b < 4294967296 := by
  unfold clpW; split
  · exact h2
  · split
    · exact h3
    · exact h1

end Go.Proofs.Ytkcehbnmcdppkaa

/- Scale and Clamp, on both sides, of a right field. -/
namespace Go.Proofs.Ytkcehbnmcdppkaa
open Go.RowKit Fl
set_option linter.unusedVariables false

end Go.Proofs.Ytkcehbnmcdppkaa

/- The reference's Scale. -/
namespace Go.Proofs.Ytkcehbnmcdppkaa
open Go.RowKit Fl
set_option linter.unusedVariables false

theorem two_wf {m c : Nat} (h1 : m < 4294967296) (h2 : c < 4294967296) : wf32 2 (two m c) := by
  intro i _; unfold two; split
  · exact h1
  · exact h2
theorem scl_wf {n m c : Nat} {v : Nat → Nat} (hh : allB n (fun i => hgtB (v i)) = true) (hm : hgtB m = true) (hc : hgtB c = true) : wf32 n (sclW v m c) := by
  intro i hi
  obtain ⟨r, s, e1, _, e2, _, e3⟩ := scl_parts (allB_iff.1 hh i hi) hm hc
  rw [scl_eq e1 e2]; exact e3

end Go.Proofs.Ytkcehbnmcdppkaa

/- Clamp, on both sides. -/
namespace Go.Proofs.Ytkcehbnmcdppkaa
open Go.RowKit Fl
set_option linter.unusedVariables false

/-- What Clamp answers: the error of its singles, or of their order, or a field that is made. -/
def ClPost (w : World) (X Y W H : Int) (n : Nat) (f : Nat → Nat) (er : Int) (gt : Bool) (e : Ending) (w' : World) : Prop :=
  (er ≠ 0 ∧ e = .returned (.tuple #[fldV 0 0 0 0 (.slice none 0 0), .int .i64 er]) ∧ Below w.heap.size w w') ∨
  (er = 0 ∧ gt = true ∧ e = .returned (.tuple #[fldV 0 0 0 0 (.slice none 0 0), .int .i64 8]) ∧ Below w.heap.size w w') ∨ (er = 0 ∧ gt = false ∧ MadePost w X Y W H n f e w')

end Go.Proofs.Ytkcehbnmcdppkaa

/- The reference's Clamp. -/
namespace Go.Proofs.Ytkcehbnmcdppkaa
open Go.RowKit Fl
set_option linter.unusedVariables false

end Go.Proofs.Ytkcehbnmcdppkaa

/- Contracts of the regions' functions, continued: the reference's Grow; Common, Inside. -/
namespace Go.Proofs.Ytkcehbnmcdppkaa
open Go.RowKit

set_option maxHeartbeats 1000000 in
theorem landed_any (w : World) : Calls Try.prog 35 #[] w fun e w' => e = .returned (.bool true) ∧ Below w.heap.size w w' := by
  go_enter Try.func35, Try.ntmps35
  go_wp2
  go_ret
  exact ⟨rfl, (by repeat (first | exact Below.refl _ _ | refine Below.alloc ?_ (by first | omega | (simp; done) | (simp; omega)) _ | refine Below.setCell ?_ (by first | omega | (simp; done) | (simp; omega)) _ | refine Below.drew ?_))⟩

def insideB (x y w h x' y' w' h' : Int) : Bool := decide (x' ≤ x) && decide (y' ≤ y) && decide (x + w ≤ x' + w') && decide (y + h ≤ y' + h')
theorem insideB_iff {x y w h x' y' w' h' : Int} : insideB x y w h x' y' w' h' = true ↔ x' ≤ x ∧ y' ≤ y ∧ x + w ≤ x' + w' ∧ y + h ≤ y' + h' := by simp [insideB]; omega

end Go.Proofs.Ytkcehbnmcdppkaa

/- CellsScale: Scale and Clamp answer as the references do, for every field that fit makes, and any two singles. -/
namespace Go.Proofs.Ytkcehbnmcdppkaa
open Go.RowKit Fl
set_option linter.unusedVariables false

/-- The error ahead of Clamp's making. -/
def clpE (er : Int) (gt : Bool) : Int := if er = 0 then (if gt then 8 else 0) else er
theorem clamp_post {w w' : World} {X Y W H : Int} {n : Nat} {f : Nat → Nat} {er : Int} {gt : Bool} {e : Ending} (h : ClPost w X Y W H n f er gt e w') : ScPost w X Y W H n f (clpE er gt) e w' := by
  rcases h with ⟨h1, h2, h3⟩ | ⟨h1, h2, h3, h4⟩ | ⟨h1, h2, h3⟩
  · unfold clpE; rw [if_neg h1]; exact .inl ⟨h1, h2, h3⟩
  · unfold clpE; rw [if_pos h1, h2]; exact .inl ⟨by simp, h3, h4⟩
  · unfold clpE; rw [if_pos h1, h2]; exact .inr ⟨rfl, h3⟩

theorem al_below (w : World) (o : Obj) : Below w.heap.size w (w.alloc o) := (Below.refl _ _).alloc (Nat.le_refl _) o

end Go.Proofs.Ytkcehbnmcdppkaa
