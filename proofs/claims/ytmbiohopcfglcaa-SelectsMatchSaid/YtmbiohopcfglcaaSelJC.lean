/- SelectsMatch, for every field and every three singles: what Select and Terrace answer is what the references answer, bit by bit. No condition. -/
import Derived.Test.YtmbiohopcfglcaaSelJB
import Derived.ProofKit
import Derived.OpenShut
import Derived.Lib.SmallJoins
import Derived.Laws.Cover2
import Derived.Deep.Slices

/- Contracts: remade, whatever function of a value and its place it is given. -/
namespace Go.Proofs.Ytmbiohopcfglcaa
open Go.RowKit Fl
set_option linter.unusedVariables false

theorem enters_remade1 : Enters 182 := by intro args W; simp [callFunc, Try.func182, Try.f182]

/-- A function of a value and its place, as a closure: over the cells of a field with the values v it answers f. -/
def Clos3 (g : Nat) (caps : Array Value) (X Y W H : Int) (v f : Nat → Nat) (w : World) : Prop :=
  ∀ (x y : Int) (i : Nat) (W' : World), X ≤ x → x < X + W → Y ≤ y → y < Y + H → (i : Int) = (y - Y) * W + (x - X) → Below w.heap.size w W' →
    Calls Try.prog g (#[.float .f32 (v i), .int .i64 x, .int .i64 y] ++ caps) W' fun e W'' => e = .returned (.float .f32 (f i)) ∧ Below W'.heap.size W' W''
theorem Clos3.stay {g : Nat} {caps : Array Value} {X Y W H : Int} {v f : Nat → Nat} {w w' : World} (h : Clos3 g caps X Y W H v f w) (hb : Below w.heap.size w w') : Clos3 g caps X Y W H v f w' :=
  fun x y i W' h1 h2 h3 h4 h5 hb' => h x y i W' h1 h2 h3 h4 h5 (hb.trans (hb'.mono hb.size))

/-- Such a function value in a box. -/
abbrev fn3Obj (g : Nat) (caps : Array Value) : Obj := .cells #[.func (.func g) #[] caps] 122

set_option maxHeartbeats 4000000 in
set_option maxRecDepth 100000 in
theorem remade1_any (X Y : Int) (W H n b cap : Nat) (v f : Nat → Nat) (g : Nat) (caps : Array Value) (p q : Nat) (w : World) (hcall : Enters g) (hcl : Clos3 g caps X Y W H v f w)
    (hp : w.heap[p]? = some (fldO X Y W H (.slice (some ⟨b, 0, none⟩) n cap))) (hq : w.heap[q]? = some (fn3Obj g caps)) (hc : FlAt w b 0 n v) (hn : n ≤ 65536)
    (hX1 : -16777216 ≤ X) (hX2 : X ≤ 16777216) (hY1 : -16777216 ≤ Y) (hY2 : Y ≤ 16777216) (hW1 : 1 ≤ W) (hW2 : W ≤ 512) (hH2 : H ≤ 512) (hnn : n = H * W) :
    Clos2 182 #[.pointer (some ⟨q, 0, none⟩), .pointer (some ⟨p, 0, none⟩)] X Y W H f w := by
  intro x y i w2 h1 h2 h3 h4 h5 hb
  have hi : i < n := num_lt hW1 h1 h2 h4 h5 hnn
  have CC := Lib.hid (fun W' (hB : Below w2.heap.size w2 W') => hcl x y i W' h1 h2 h3 h4 h5 (hb.trans (hB.mono hb.size)))
  have IX := Lib.hid (fun w => index_any X Y W H i x y w hX1 hX2 hY1 hY2 hW1 hW2 hH2 h1 h2 h3 h4 h5 (by omega))
  have P := blkStay hp hb
  have Q := blkStay hq hb
  have hcell : w2.cell? ⟨b, i, none⟩ = some (.float .f32 (v i)) := by
    have := flAt_congr hc (hb.block b (World.block_lt_of_cell? w _ (hc i hi))) i hi
    rwa [Nat.zero_add] at this
  have zb : b < w2.heap.size := World.block_lt_of_cell? w2 _ hcell
  have HC := Lib.hid hcell
  have HP := Lib.hid P
  have HQ := Lib.hid Q
  obtain ⟨cP, fP, zP⟩ := blkC P
  obtain ⟨cQ, fQ, zQ⟩ := blkC Q
  unfold Enters at hcall
  have hi2 : (i : Int) < (n : Int) := by omega
  have hi3 : (0 : Int) ≤ (i : Int) := by omega
  clear hp hq P Q hb h1 h2 h3 h4 h5 hX1 hX2 hY1 hY2 hW1 hW2 hH2 hnn hcl hc hi hn
  go_enter Try.func182, Try.ntmps182
  go_wp2
  go_region_held3 (fun w' => (∀ o, w'.cell? ⟨p, o, none⟩ = #[.int .i64 X, .int .i64 Y, .int .i64 W, .int .i64 H, .slice (some ⟨b, 0, none⟩) n cap][o]?) ∧ (∀ o, w'.cell? ⟨q, o, none⟩ = #[.func (.func g) #[] caps][o]?) ∧ w'.cell? ⟨b, i, none⟩ = some (.float .f32 (v i)) ∧ Below w2.heap.size w2 w') (first | exact ⟨(blkC (blkStay HP.out hb9)).1, (blkC (blkStay HQ.out hb9)).1, (Below.cell (p := ⟨b, i, none⟩) (w := w2) (B := w2.heap.size) hb9 zb).trans HC.out, hb9⟩ | exact ⟨(blkC (blkStay HP.out (by repeat (first | exact Below.refl _ _ | refine Below.alloc ?_ (by first | omega | (simp; done) | (simp; omega)) _ | refine Below.setCell ?_ (by first | omega | (simp; done) | (simp; omega)) _ | refine Below.drew ?_)))).1, (blkC (blkStay HQ.out (by repeat (first | exact Below.refl _ _ | refine Below.alloc ?_ (by first | omega | (simp; done) | (simp; omega)) _ | refine Below.setCell ?_ (by first | omega | (simp; done) | (simp; omega)) _ | refine Below.drew ?_)))).1, (Below.cell (p := ⟨b, i, none⟩) (w := w2) (B := w2.heap.size) (by repeat (first | exact Below.refl _ _ | refine Below.alloc ?_ (by first | omega | (simp; done) | (simp; omega)) _ | refine Below.setCell ?_ (by first | omega | (simp; done) | (simp; omega)) _ | refine Below.drew ?_)) zb).trans HC.out, (by repeat (first | exact Below.refl _ _ | refine Below.alloc ?_ (by first | omega | (simp; done) | (simp; omega)) _ | refine Below.setCell ?_ (by first | omega | (simp; done) | (simp; omega)) _ | refine Below.drew ?_))⟩) (first | (go_at_call 183; (with_reducible refine Calls.mono (IX.out _) ?_); rintro e w' ⟨rfl, rfl⟩) | (go_simp; (with_reducible refine Calls.mono (CC.out _ ?_) ?_); exact (by repeat (first | exact Below.refl _ _ | refine Below.alloc ?_ (by first | omega | (simp; done) | (simp; omega)) _ | refine Below.setCell ?_ (by first | omega | (simp; done) | (simp; omega)) _ | refine Below.drew ?_)); rintro e w' ⟨rfl, hb8⟩; have hb9 : Below w2.heap.size w2 w' := Below.trans (by repeat (first | exact Below.refl _ _ | refine Below.alloc ?_ (by first | omega | (simp; done) | (simp; omega)) _ | refine Below.setCell ?_ (by first | omega | (simp; done) | (simp; omega)) _ | refine Below.drew ?_)) (Below.mono hb8 (by first | exact Nat.le_refl _ | (simp; done) | (simp; omega))); clear hb8))
  rename_i hHeld
  go_wp2
  go_ret
  exact ⟨rfl, hHeld.2.2.2⟩

set_option maxHeartbeats 2000000 in
theorem remade_any (X Y : Int) (W H n b cap : Nat) (v f : Nat → Nat) (g : Nat) (caps : Array Value) (w : World) (hcall : Enters g) (hcl : Clos3 g caps X Y W H v f w) (h0 : checkR X Y W H = 0) (hnn : n = H * W) (hc : FlAt w b 0 n v) :
    Calls Try.prog 91 #[fldV X Y W H (.slice (some ⟨b, 0, none⟩) n cap), .func (.func g) #[] caps] w (MadePost w X Y W H n f) := by
  obtain ⟨b1, b2, b3, b4, b5, b6, b7, b8, b9⟩ := checkR_zero h0
  have hn2 : n ≤ 65536 := by
    have : ((W : Int) * (H : Int)) = (n : Int) := by rw [hnn, Nat.mul_comm]; simp
    omega
  have n1 : 1 ≤ n := by rw [hnn]; exact Nat.mul_pos (by omega) (by omega)
  have hlt : b < w.heap.size := World.block_lt_of_cell? w _ (hc 0 n1)
  have hB : Below w.heap.size w (((w.alloc (fldO X Y W H (.slice (some ⟨b, 0, none⟩) n cap))).alloc (fn3Obj g caps)).alloc (fldO 0 0 0 0 (.slice none 0 0))) := (by repeat (first | exact Below.refl _ _ | refine Below.alloc ?_ (by first | omega | (simp; done) | (simp; omega)) _ | refine Below.setCell ?_ (by first | omega | (simp; done) | (simp; omega)) _ | refine Below.drew ?_))
  have MK := Lib.hid (make_ok X Y W H n 182 #[.pointer (some ⟨w.heap.size + 1, 0, none⟩), .pointer (some ⟨w.heap.size, 0, none⟩)] f (((w.alloc (fldO X Y W H (.slice (some ⟨b, 0, none⟩) n cap))).alloc (fn3Obj g caps)).alloc (fldO 0 0 0 0 (.slice none 0 0))) enters_remade1
    (remade1_any X Y W H n b cap v f g caps w.heap.size (w.heap.size + 1) _ hcall (hcl.stay hB) (by ((simp only [heap_alloc_get, heap_size_alloc, if_true]) <;> ((repeat' split) <;> first | rfl | omega))) (by ((simp only [heap_alloc_get, heap_size_alloc, if_true]) <;> ((repeat' split) <;> first | rfl | omega))) (flAt_congr hc (hB.block b hlt)) hn2 (by omega) (by omega) (by omega) (by omega) (by omega) (by omega) (by omega) hnn) h0 hnn)
  clear hcl hcall hc h0 b1 b2 b3 b4 b5 b6 b7 b8 b9 hnn hn2 n1 hlt hB
  go_enter Try.func91, Try.ntmps91
  go_wp2_with fail
  refine MK.out.mono ?_
  intro e w4 hmade
  rcases hmade with ⟨hall, b', cap', rfl, hb', hlt', hrow, hbel⟩ | ⟨hall, rfl, hbel⟩
  · have hS := Lib.hid (blkStay (b := w.heap.size + 1 + 1) (o := fldO 0 0 0 0 (.slice none 0 0)) (by ((simp only [heap_alloc_get, heap_size_alloc, if_true]) <;> ((repeat' split) <;> first | rfl | omega))) hbel)
    have hB : Below w.heap.size w w4 := Below.trans (by repeat (first | exact Below.refl _ _ | refine Below.alloc ?_ (by first | omega | (simp; done) | (simp; omega)) _ | refine Below.setCell ?_ (by first | omega | (simp; done) | (simp; omega)) _ | refine Below.drew ?_)) (Below.mono hbel (by simp; omega))
    obtain ⟨cS, fS, zS⟩ := blkC hS.out
    have HB := Lib.hid hb'
    clear hb'
    go_wp2
    refine bodyPost_ret (v := .tuple #[fldV X Y W H (.slice (some ⟨b', 0, none⟩) n cap'), .int .i64 0]) (by simp [results, Try.results91, go_sem, cS]) rfl ?_
    have hb' := HB.out
    simp only [heap_size_alloc] at hb'
    exact .inl ⟨hall, b', cap', rfl, by omega, by rw [set5_size]; exact hlt', flAt_congr hrow (set5_heap w4 _ _ _ _ _ _ _ (by omega)), set5_below hB _ _ _ _ _ _ (by omega)⟩
  · have hS := Lib.hid (blkStay (b := w.heap.size + 1 + 1) (o := fldO 0 0 0 0 (.slice none 0 0)) (by ((simp only [heap_alloc_get, heap_size_alloc, if_true]) <;> ((repeat' split) <;> first | rfl | omega))) hbel)
    have hB : Below w.heap.size w w4 := Below.trans (by repeat (first | exact Below.refl _ _ | refine Below.alloc ?_ (by first | omega | (simp; done) | (simp; omega)) _ | refine Below.setCell ?_ (by first | omega | (simp; done) | (simp; omega)) _ | refine Below.drew ?_)) (Below.mono hbel (by simp; omega))
    obtain ⟨cS, fS, zS⟩ := blkC hS.out
    go_wp2
    refine bodyPost_ret (v := .tuple #[fldV 0 0 0 0 (.slice none 0 0), .int .i64 3]) (by simp [results, Try.results91, go_sem, cS]) rfl ?_
    exact .inr ⟨hall, rfl, set5_below hB _ _ _ _ _ _ (by omega)⟩
end Go.Proofs.Ytmbiohopcfglcaa

/- Contracts: Same$1, EqualFunc, Same, same. -/
namespace Go.Proofs.Ytmbiohopcfglcaa
open Go.RowKit Fl
set_option linter.unusedVariables false

theorem enters_Same1 : Enters 186 := by intro args W; simp [callFunc, Try.func186, Try.f186]

set_option maxHeartbeats 400000 in
theorem same1_self (x : Nat) (w : World) :
    Calls Try.prog 186 #[.float .f32 x, .float .f32 x] w fun e w' => e = .returned (.bool true) ∧ w = w' := by
  have h1 := f32bits
  go_enter Try.func186, Try.ntmps186
  go_wp2
  go_ret
  exact ⟨rfl, rfl⟩

set_option maxHeartbeats 1000000 in
theorem equalFunc_row (b b' cap cap' n : Nat) (v : Nat → Nat) (hl : n ≤ 9223372036854775807) (w : World) (hc : FlAt w b 0 n v) (hc' : FlAt w b' 0 n v) :
    Calls Try.prog 185 #[.slice (some ⟨b, 0, none⟩) n cap, .slice (some ⟨b', 0, none⟩) n cap', .func (.func 186) #[] #[]] w fun e w' => e = .returned (.bool true) ∧ w = w' := by
  have hcall := enters_Same1
  unfold Enters at hcall
  go_enter Try.func185, Try.ntmps185
  go_wp2
  go_loop [17] (fun i => ∃ k : Nat, k ≤ n ∧ i = .int .i64 k) (fun i => n - (intOf i).toNat)
  case atStart => exact ⟨0, Nat.zero_le _, rfl⟩
  case round =>
    obtain ⟨k, hk, rfl⟩ := hrel
    by_cases hlt : k < n
    · have hcell := hc k hlt
      have hcell' := hc' k hlt
      rw [Nat.zero_add] at hcell hcell'
      have IH := Lib.hid (fun w => same1_self (v k) w)
      go_wp2_with fail
      refine (IH.out _).mono ?_
      rintro e w' ⟨rfl, rfl⟩
      go_wp2
      go_round
      case rel => exact ⟨k + 1, by omega, by go_num⟩
      case measure => simp [intOf]; omega
    · go_wp2
      go_ret
      exact ⟨rfl, rfl⟩

set_option maxHeartbeats 1000000 in
theorem same_ok (X Y W H : Int) (b b' cap cap' n : Nat) (v : Nat → Nat) (hl : n ≤ 9223372036854775807) (h1 : 1 ≤ n) (w : World) (hc : FlAt w b 0 n v) (hc' : FlAt w b' 0 n v) :
    Calls Try.prog 98 #[fldV X Y W H (.slice (some ⟨b, 0, none⟩) n cap), fldV X Y W H (.slice (some ⟨b', 0, none⟩) n cap')] w fun e w' => e = .returned (.bool true) ∧ Below w.heap.size w w' := by
  have z := World.block_lt_of_cell? w _ (hc 0 h1)
  have z' := World.block_lt_of_cell? w _ (hc' 0 h1)
  have EF := Lib.hid (fun W' (hb : Below w.heap.size w W') => equalFunc_row b b' cap cap' n v hl W' (flAt_congr hc (hb.block _ z)) (flAt_congr hc' (hb.block _ z')))
  clear hc hc'
  go_enter Try.func98, Try.ntmps98
  go_wp2_with (first | (go_at_call 185; refine (EF.out _ (by repeat (first | exact Below.refl _ _ | refine Below.alloc ?_ (by first | omega | (simp; done) | (simp; omega)) _ | refine Below.setCell ?_ (by first | omega | (simp; done) | (simp; omega)) _ | refine Below.drew ?_))).mono ?_; rintro e w' ⟨rfl, rfl⟩))
  go_ret
  exact ⟨rfl, (by repeat (first | exact Below.refl _ _ | refine Below.alloc ?_ (by first | omega | (simp; done) | (simp; omega)) _ | refine Below.setCell ?_ (by first | omega | (simp; done) | (simp; omega)) _ | refine Below.drew ?_))⟩

set_option maxHeartbeats 1000000 in
theorem law_same_ok (X Y W H : Int) (b b' cap cap' n : Nat) (v : Nat → Nat) (hl : n ≤ 9223372036854775807) (h1 : 1 ≤ n) (w : World) (hc : FlAt w b 0 n v) (hc' : FlAt w b' 0 n v) :
    Calls Try.prog 22 #[fldV X Y W H (.slice (some ⟨b, 0, none⟩) n cap), .int .i64 0, fldV X Y W H (.slice (some ⟨b', 0, none⟩) n cap'), .int .i64 0] w fun e w' => e = .returned (.bool true) ∧ Below w.heap.size w w' := by
  have z := World.block_lt_of_cell? w _ (hc 0 h1)
  have z' := World.block_lt_of_cell? w _ (hc' 0 h1)
  have SM := Lib.hid (fun W' (hb : Below w.heap.size w W') => same_ok X Y W H b b' cap cap' n v hl h1 W' (flAt_congr hc (hb.block _ z)) (flAt_congr hc' (hb.block _ z')))
  clear hc hc'
  go_enter Try.func22, Try.ntmps22
  go_wp2_with (first | (go_at_call 98; refine (SM.out _ (by repeat (first | exact Below.refl _ _ | refine Below.alloc ?_ (by first | omega | (simp; done) | (simp; omega)) _ | refine Below.setCell ?_ (by first | omega | (simp; done) | (simp; omega)) _ | refine Below.drew ?_))).mono ?_; rintro e w2 ⟨rfl, hb2⟩))
  go_ret
  exact ⟨rfl, Below.trans (by repeat (first | exact Below.refl _ _ | refine Below.alloc ?_ (by first | omega | (simp; done) | (simp; omega)) _ | refine Below.setCell ?_ (by first | omega | (simp; done) | (simp; omega)) _ | refine Below.drew ?_)) (Below.mono hb2 (by simp; try omega))⟩

set_option maxHeartbeats 1000000 in
theorem law_same_err (e1 : Int) (he : e1 ≠ 0) (w : World) :
    Calls Try.prog 22 #[fldV 0 0 0 0 (.slice none 0 0), .int .i64 e1, fldV 0 0 0 0 (.slice none 0 0), .int .i64 e1] w fun e w' => e = .returned (.bool true) ∧ Below w.heap.size w w' := by
  have hb : (e1 != 0) = true := by simp [he]
  go_enter Try.func22, Try.ntmps22
  go_wp2
  go_ret
  exact ⟨rfl, (by repeat (first | exact Below.refl _ _ | refine Below.alloc ?_ (by first | omega | (simp; done) | (simp; omega)) _ | refine Below.setCell ?_ (by first | omega | (simp; done) | (simp; omega)) _ | refine Below.drew ?_))⟩

end Go.Proofs.Ytmbiohopcfglcaa

/- What the two sides answer, told alike: so the law's walk has one way. -/
namespace Go.Proofs.Ytmbiohopcfglcaa
open Go.RowKit Fl
set_option linter.unusedVariables false

/-- A result (the field x y u h s, the error k) of a function that makes f over a region, behind the error er. -/
def Res (lo : Nat) (w : World) (X Y W H : Int) (n : Nat) (f : Nat → Nat) (er : Int) (x y u h : Int) (s : Value) (k : Int) : Prop :=
  (er ≠ 0 ∧ x = 0 ∧ y = 0 ∧ u = 0 ∧ h = 0 ∧ s = .slice none 0 0 ∧ k = er) ∨
  (er = 0 ∧ allB n (fun i => hgtB (f i)) = true ∧ x = X ∧ y = Y ∧ u = W ∧ h = H ∧ (∃ b cap, s = .slice (some ⟨b, 0, none⟩) n cap ∧ lo ≤ b ∧ b < w.heap.size ∧ FlAt w b 0 n f) ∧ k = 0) ∨
  (er = 0 ∧ allB n (fun i => hgtB (f i)) = false ∧ x = 0 ∧ y = 0 ∧ u = 0 ∧ h = 0 ∧ s = .slice none 0 0 ∧ k = 3)
theorem Res.stay {lo : Nat} {w w' : World} {X Y W H : Int} {n : Nat} {f : Nat → Nat} {er x y u h : Int} {s : Value} {k : Int} (r : Res lo w X Y W H n f er x y u h s k) (hb : Below w.heap.size w w') : Res lo w' X Y W H n f er x y u h s k := by
  rcases r with r | ⟨r1, r2, r3, r4, r5, r6, ⟨b, cap, r7, r0, r8, r9⟩, r10⟩ | r
  · exact .inl r
  · exact .inr (.inl ⟨r1, r2, r3, r4, r5, r6, ⟨b, cap, r7, r0, Nat.lt_of_lt_of_le r8 hb.size, flAt_congr r9 (hb.block _ r8)⟩, r10⟩)
  · exact .inr (.inr r)
theorem Res.heap {lo : Nat} {w w' : World} {X Y W H : Int} {n : Nat} {f : Nat → Nat} {er x y u h : Int} {s : Value} {k : Int} (r : Res lo w X Y W H n f er x y u h s k) {p : Nat} (hz : w.heap.size ≤ w'.heap.size) (hne : p < lo) (hb : ∀ b, b ≠ p → b < w.heap.size → w'.heap[b]? = w.heap[b]?) : Res lo w' X Y W H n f er x y u h s k := by
  rcases r with r | ⟨r1, r2, r3, r4, r5, r6, ⟨b, cap, r7, r0, r8, r9⟩, r10⟩ | r
  · exact .inl r
  · exact .inr (.inl ⟨r1, r2, r3, r4, r5, r6, ⟨b, cap, r7, r0, Nat.lt_of_lt_of_le r8 hz, flAt_congr r9 (hb _ (by omega) r8)⟩, r10⟩)
  · exact .inr (.inr r)

theorem made_res {w w' : World} {X Y W H : Int} {n : Nat} {f : Nat → Nat} {er : Int} {e : Ending} (h : ScPost w X Y W H n f er e w') :
    ∃ x y u hh : Int, ∃ a : Option Addr, ∃ l cp : Nat, ∃ k : Int, e = .returned (.tuple #[fldV x y u hh (.slice a l cp), .int .i64 k]) ∧ Res w.heap.size w' X Y W H n f er x y u hh (.slice a l cp) k ∧ Below w.heap.size w w' := by
  rcases h with ⟨h1, h2, h3⟩ | ⟨h1, ⟨h2, b, cap, h3, h4, h5, h6, h7⟩ | ⟨h2, h3, h4⟩⟩
  · exact ⟨_, _, _, _, _, _, _, _, h2, .inl ⟨h1, rfl, rfl, rfl, rfl, rfl, rfl⟩, h3⟩
  · exact ⟨_, _, _, _, _, _, _, _, h3, .inr (.inl ⟨h1, h2, rfl, rfl, rfl, rfl, ⟨b, cap, rfl, h4, h5, h6⟩, rfl⟩), h7⟩
  · exact ⟨_, _, _, _, _, _, _, _, h3, .inr (.inr ⟨h1, h2, rfl, rfl, rfl, rfl, rfl, rfl⟩), h4⟩

/-- Two results of one thing are the same to the law. -/
theorem same_res {W0 : World} {X Y W H : Int} {n : Nat} {f : Nat → Nat} {er x y u h x' y' u' h' : Int} {s s' : Value} {k k' : Int} (hn : 1 ≤ n) (hl : n ≤ 9223372036854775807)
    {lo lo' : Nat} (r : Res lo W0 X Y W H n f er x y u h s k) (r' : Res lo' W0 X Y W H n f er x' y' u' h' s' k') :
    Calls Try.prog 22 #[fldV x y u h s, .int .i64 k, fldV x' y' u' h' s', .int .i64 k'] W0 fun e w' => e = .returned (.bool true) ∧ Below W0.heap.size W0 w' := by
  rcases r with ⟨a1, rfl, rfl, rfl, rfl, rfl, rfl⟩ | ⟨a1, a2, rfl, rfl, rfl, rfl, ⟨b, cap, rfl, _, _, c⟩, rfl⟩ | ⟨a1, a2, rfl, rfl, rfl, rfl, rfl, rfl⟩ <;>
  rcases r' with ⟨b1, rfl, rfl, rfl, rfl, rfl, rfl⟩ | ⟨b1, b2, rfl, rfl, rfl, rfl, ⟨b', cap', rfl, _, _, c'⟩, rfl⟩ | ⟨b1, b2, rfl, rfl, rfl, rfl, rfl, rfl⟩
  · exact law_same_err _ a1 W0
  · exact absurd b1 a1
  · exact absurd b1 a1
  · exact absurd a1 b1
  · exact law_same_ok _ _ _ _ b b' cap cap' n f hl hn W0 c c'
  · rw [a2] at b2; cases b2
  · exact absurd a1 b1
  · rw [a2] at b2; cases b2
  · exact law_same_err 3 (by decide) W0

theorem set5_self {wr : World} {b : Nat} {a1 a2 a3 a4 a5 : Value} {t : TypeId} (u1 u2 u3 u4 u5 : Value) (h : wr.heap[b]? = some (.cells #[a1, a2, a3, a4, a5] t (0, 0))) :
    (set5 wr b u1 u2 u3 u4 u5).heap[b]? = some (.cells #[u1, u2, u3, u4, u5] t (0, 0)) := by
  have h1 := heap_setCell_same wr b 0 _ _ u1 h
  have h2 := heap_setCell_same _ b 1 _ _ u2 h1
  have h3 := heap_setCell_same _ b 2 _ _ u3 h2
  have h4 := heap_setCell_same _ b 3 _ _ u4 h3
  have h5 := heap_setCell_same _ b 4 _ _ u5 h4
  exact h5
/-- A field stored into a block of its own: what stands elsewhere stays. -/
theorem box_old (wr : World) (o : Obj) (u1 u2 u3 u4 u5 : Value) {k : Nat} (h : k < wr.heap.size) : (set5 (wr.alloc o) wr.heap.size u1 u2 u3 u4 u5).heap[k]? = wr.heap[k]? := by
  rw [set5_heap _ _ _ _ _ _ _ _ (by omega), heap_alloc_old _ _ h]
theorem box_below (wr : World) (o : Obj) (u1 u2 u3 u4 u5 : Value) : Below wr.heap.size wr (set5 (wr.alloc o) wr.heap.size u1 u2 u3 u4 u5) :=
  set5_below ((Below.refl _ _).alloc (Nat.le_refl _) o) _ _ _ _ _ _ (Nat.le_refl _)

/-- What a fit field is, its singles by a function. -/
theorem fit_fn {w : World} {b n : Nat} (h : FitRow w b n n) : ∃ v : Nat → Nat, FlAt w b 0 n v ∧ wf32 n v ∧ allB n (fun i => hgtB (v i)) = true ∧ b < w.heap.size := by
  obtain ⟨cs, h1, h2, h3⟩ := h
  refine ⟨fun j => if hj : j < n then (h3 j hj).choose else 0, fun i hi => ?_, fun i hi => ?_, allB_iff.2 fun i hi => ?_, (blkC h1).2.2⟩
  · rw [Nat.zero_add, (blkC h1).1 i]; simp only [dif_pos hi]; exact (h3 i hi).choose_spec.1
  · simp only [dif_pos hi]; exact (h3 i hi).choose_spec.2.1
  · simp only [dif_pos hi]; exact (h3 i hi).choose_spec.2.2 hi
theorem fit_check {X Y : Int} {W H n : Nat} (x1 : -5000 ≤ X) (x2 : X ≤ 5000) (y1 : -5000 ≤ Y) (y2 : Y ≤ 5000) (w1 : (1 : Int) ≤ W) (w2 : (W : Int) ≤ 16) (h1 : (1 : Int) ≤ H) (h2 : (H : Int) ≤ 16) (hn : (n : Int) = W * H) (hn2 : n ≤ 256) : checkR X Y W H = 0 := by
  unfold checkR
  rw [if_neg (by omega), if_neg (by rw [← hn]; omega), if_neg (by omega)]

end Go.Proofs.Ytmbiohopcfglcaa

/- Select of both sides, of a right field. -/
namespace Go.Proofs.Ytmbiohopcfglcaa
open Go.RowKit Fl
set_option linter.unusedVariables false

/-- Three singles, as a list. -/
def three (a b c : Nat) (i : Nat) : Nat := if i = 0 then a else if i = 1 then b else c
theorem flAt_three {w : World} {k a b c : Nat} (h : w.heap[k]? = some (.cells #[.float .f32 a, .float .f32 b, .float .f32 c] 22)) : FlAt w k 0 3 (three a b c) := by
  intro i hi
  rw [Nat.zero_add, (blkC h).1 i]
  have : i = 0 ∨ i = 1 ∨ i = 2 := by omega
  rcases this with rfl | rfl | rfl <;> rfl
theorem three_hgt {a b c : Nat} (h : fldE 3 (three a b c) = 0) : hgtB a = true ∧ hgtB b = true ∧ hgtB c = true := by
  have := allB_iff.1 (fldE_zero.1 h)
  exact ⟨this 0 (by omega), this 1 (by omega), this 2 (by omega)⟩
theorem three_wf {a b c : Nat} (ha : a < 4294967296) (hb : b < 4294967296) (hc : c < 4294967296) : wf32 3 (three a b c) := by
  intro i hi
  have : i = 0 ∨ i = 1 ∨ i = 2 := by omega
  rcases this with rfl | rfl | rfl <;> assumption

/-- The error of Select's singles. -/
def selE (lo hi so : Nat) : Int := if fldE 3 (three lo hi so) = 0 then (if (FloatKind.f32.format.order lo hi == some .gt) = true then 8 else if (FloatKind.f32.format.order so 0 == some .lt) = true then 3 else 0) else fldE 3 (three lo hi so)

theorem enters_Select1 : Enters 105 := by intro args W; simp [callFunc, Try.func105, Try.f105]
theorem enters_rSelect1 : Enters 108 := by intro args W; simp [callFunc, Try.func108, Try.f108]

set_option maxHeartbeats 2000000 in
theorem select_any (X Y : Int) (W H n b cap : Nat) (v : Nat → Nat) (lo hi so : Nat) (w : World) (h0 : checkR X Y W H = 0) (hn : n = W * H) (hc : FlAt w b 0 n v) (hh : allB n (fun i => hgtB (v i)) = true) :
    Calls Try.prog 27 #[fldV X Y W H (.slice (some ⟨b, 0, none⟩) n cap), .float .f32 lo, .float .f32 hi, .float .f32 so] w (ScPost w X Y W H n (fun i => selW (v i) lo hi so) (selE lo hi so)) := by
  obtain ⟨b1, b2, b3, b4, b5, b6, b7, b8, b9⟩ := checkR_zero h0
  have hnn : n = H * W := by rw [hn]; exact Nat.mul_comm _ _
  have h1 : 1 ≤ n := by rw [hn]; exact Nat.mul_pos (by omega) (by omega)
  have hlt : b < w.heap.size := World.block_lt_of_cell? w _ (hc 0 h1)
  have CK := Lib.hid (fun W' (hb : Below w.heap.size w W') => check_ok X Y W H n b cap v W' h0 hn (flAt_congr hc (hb.block _ hlt)) hh)
  have CS := Lib.hid (fun bb W' (hb : W'.heap[bb]? = some (.cells #[.float .f32 lo, .float .f32 hi, .float .f32 so] 22)) => CheckHeights_row bb 0 3 3 (three lo hi so) (by omega) W' (flAt_three hb))
  unfold selE
  by_cases hz : fldE 3 (three lo hi so) = 0
  · obtain ⟨g1, g2, g3⟩ := three_hgt hz
    rw [if_pos hz]
    rw [hz] at CS
    have HC := Lib.hid hc
    cases c1 : (FloatKind.f32.format.order lo hi == some .gt) with
    | true =>
      rw [if_pos rfl]
      clear hc hn h0 hh hz b1 b2 b3 b4 b5 b6 b7 b8 b9 hnn g1 g2 g3
      go_enter Try.func27, Try.ntmps27
      go_wp2_with (first | (go_at_call 90; refine (CK.out _ (by repeat (first | exact Below.refl _ _ | refine Below.alloc ?_ (by first | omega | (simp; done) | (simp; omega)) _ | refine Below.setCell ?_ (by first | omega | (simp; done) | (simp; omega)) _ | refine Below.drew ?_))).mono ?_; rintro e w2 ⟨rfl, hb2⟩; have HF2 := Lib.hid (blkStay (b := w.heap.size) (o := fldO X Y W H (.slice (some ⟨b, 0, none⟩) n cap)) (by ((simp only [heap_alloc_get, heap_size_alloc, if_true]) <;> ((repeat' split) <;> first | rfl | omega))) hb2); have HL2 := Lib.hid (blkStay (b := w.heap.size + 1) (o := flObj lo) (by ((simp only [heap_alloc_get, heap_size_alloc, if_true]) <;> ((repeat' split) <;> first | rfl | omega))) hb2); have HH2 := Lib.hid (blkStay (b := w.heap.size + 1 + 1) (o := flObj hi) (by ((simp only [heap_alloc_get, heap_size_alloc, if_true]) <;> ((repeat' split) <;> first | rfl | omega))) hb2); have HO2 := Lib.hid (blkStay (b := w.heap.size + 1 + 1 + 1) (o := flObj so) (by ((simp only [heap_alloc_get, heap_size_alloc, if_true]) <;> ((repeat' split) <;> first | rfl | omega))) hb2); have HS2 := Lib.hid (blkStay (b := w.heap.size + 1 + 1 + 1 + 1) (o := fldO 0 0 0 0 (.slice none 0 0)) (by ((simp only [heap_alloc_get, heap_size_alloc, if_true]) <;> ((repeat' split) <;> first | rfl | omega))) hb2); have hB2 : Below w.heap.size w w2 := Below.trans (by repeat (first | exact Below.refl _ _ | refine Below.alloc ?_ (by first | omega | (simp; done) | (simp; omega)) _ | refine Below.setCell ?_ (by first | omega | (simp; done) | (simp; omega)) _ | refine Below.drew ?_)) (Below.mono hb2 (by first | omega | (simp; done) | (simp; omega))); obtain ⟨cL, fL, zL⟩ := blkC HL2.out; obtain ⟨cH, fH, zH⟩ := blkC HH2.out; obtain ⟨cO, fO, zO⟩ := blkC HO2.out; clear hb2) | (go_at_call 88; refine (CS.out _ _ (heap_alloc_new _ _)).mono ?_; rintro e w3 ⟨rfl, hw3⟩; have hb23 : Below w2.heap.size w2 w3 := (by rw [← hw3]; exact (by repeat (first | exact Below.refl _ _ | refine Below.alloc ?_ (by first | omega | (simp; done) | (simp; omega)) _ | refine Below.setCell ?_ (by first | omega | (simp; done) | (simp; omega)) _ | refine Below.drew ?_))); clear hw3 cL fL zL cH fH zH cO fO zO; have HF3 := Lib.hid (blkStay HF2.out hb23); have HL3 := Lib.hid (blkStay HL2.out hb23); have HH3 := Lib.hid (blkStay HH2.out hb23); have HO3 := Lib.hid (blkStay HO2.out hb23); have HS3 := Lib.hid (blkStay HS2.out hb23); have hB3 := hB2.trans (hb23.mono hB2.size); clear hb23 hB2 HF2 HL2 HH2 HO2 HS2; obtain ⟨cF, fF, zF⟩ := blkC HF3.out; obtain ⟨cL, fL, zL⟩ := blkC HL3.out; obtain ⟨cH, fH, zH⟩ := blkC HH3.out; obtain ⟨cO, fO, zO⟩ := blkC HO3.out; obtain ⟨cS, fS, zS⟩ := blkC HS3.out))
      refine bodyPost_ret (v := .tuple #[fldV 0 0 0 0 (.slice none 0 0), .int .i64 8]) (by simp [results, Try.results27, go_sem, cS]) rfl ?_
      exact .inl ⟨by decide, rfl, set5_below hB3 _ _ _ _ _ _ (by omega)⟩
    | false =>
      cases c2 : (FloatKind.f32.format.order so 0 == some .lt) with
      | true =>
        rw [if_neg (by simp), if_pos rfl]
        clear hc hn h0 hh hz b1 b2 b3 b4 b5 b6 b7 b8 b9 hnn g1 g2 g3
        go_enter Try.func27, Try.ntmps27
        go_wp2_with (first | (go_at_call 90; refine (CK.out _ (by repeat (first | exact Below.refl _ _ | refine Below.alloc ?_ (by first | omega | (simp; done) | (simp; omega)) _ | refine Below.setCell ?_ (by first | omega | (simp; done) | (simp; omega)) _ | refine Below.drew ?_))).mono ?_; rintro e w2 ⟨rfl, hb2⟩; have HF2 := Lib.hid (blkStay (b := w.heap.size) (o := fldO X Y W H (.slice (some ⟨b, 0, none⟩) n cap)) (by ((simp only [heap_alloc_get, heap_size_alloc, if_true]) <;> ((repeat' split) <;> first | rfl | omega))) hb2); have HL2 := Lib.hid (blkStay (b := w.heap.size + 1) (o := flObj lo) (by ((simp only [heap_alloc_get, heap_size_alloc, if_true]) <;> ((repeat' split) <;> first | rfl | omega))) hb2); have HH2 := Lib.hid (blkStay (b := w.heap.size + 1 + 1) (o := flObj hi) (by ((simp only [heap_alloc_get, heap_size_alloc, if_true]) <;> ((repeat' split) <;> first | rfl | omega))) hb2); have HO2 := Lib.hid (blkStay (b := w.heap.size + 1 + 1 + 1) (o := flObj so) (by ((simp only [heap_alloc_get, heap_size_alloc, if_true]) <;> ((repeat' split) <;> first | rfl | omega))) hb2); have HS2 := Lib.hid (blkStay (b := w.heap.size + 1 + 1 + 1 + 1) (o := fldO 0 0 0 0 (.slice none 0 0)) (by ((simp only [heap_alloc_get, heap_size_alloc, if_true]) <;> ((repeat' split) <;> first | rfl | omega))) hb2); have hB2 : Below w.heap.size w w2 := Below.trans (by repeat (first | exact Below.refl _ _ | refine Below.alloc ?_ (by first | omega | (simp; done) | (simp; omega)) _ | refine Below.setCell ?_ (by first | omega | (simp; done) | (simp; omega)) _ | refine Below.drew ?_)) (Below.mono hb2 (by first | omega | (simp; done) | (simp; omega))); obtain ⟨cL, fL, zL⟩ := blkC HL2.out; obtain ⟨cH, fH, zH⟩ := blkC HH2.out; obtain ⟨cO, fO, zO⟩ := blkC HO2.out; clear hb2) | (go_at_call 88; refine (CS.out _ _ (heap_alloc_new _ _)).mono ?_; rintro e w3 ⟨rfl, hw3⟩; have hb23 : Below w2.heap.size w2 w3 := (by rw [← hw3]; exact (by repeat (first | exact Below.refl _ _ | refine Below.alloc ?_ (by first | omega | (simp; done) | (simp; omega)) _ | refine Below.setCell ?_ (by first | omega | (simp; done) | (simp; omega)) _ | refine Below.drew ?_))); clear hw3 cL fL zL cH fH zH cO fO zO; have HF3 := Lib.hid (blkStay HF2.out hb23); have HL3 := Lib.hid (blkStay HL2.out hb23); have HH3 := Lib.hid (blkStay HH2.out hb23); have HO3 := Lib.hid (blkStay HO2.out hb23); have HS3 := Lib.hid (blkStay HS2.out hb23); have hB3 := hB2.trans (hb23.mono hB2.size); clear hb23 hB2 HF2 HL2 HH2 HO2 HS2; obtain ⟨cF, fF, zF⟩ := blkC HF3.out; obtain ⟨cL, fL, zL⟩ := blkC HL3.out; obtain ⟨cH, fH, zH⟩ := blkC HH3.out; obtain ⟨cO, fO, zO⟩ := blkC HO3.out; obtain ⟨cS, fS, zS⟩ := blkC HS3.out))
        refine bodyPost_ret (v := .tuple #[fldV 0 0 0 0 (.slice none 0 0), .int .i64 3]) (by simp [results, Try.results27, go_sem, cS]) rfl ?_
        exact .inl ⟨by decide, rfl, set5_below hB3 _ _ _ _ _ _ (by omega)⟩
      | false =>
        rw [if_neg (by simp), if_neg (by simp)]
        have RM := Lib.hid (fun W' p (k1 : W'.heap[p + 1]? = some (flObj lo)) (k2 : W'.heap[p + 1 + 1]? = some (flObj hi)) (k3 : W'.heap[p + 1 + 1 + 1]? = some (flObj so)) (hc' : FlAt W' b 0 n v) =>
          remade_any X Y W H n b cap v (fun i => selW (v i) lo hi so) 105 #[.pointer (some ⟨p + 1, 0, none⟩), .pointer (some ⟨p + 1 + 1 + 1, 0, none⟩), .pointer (some ⟨p + 1 + 1, 0, none⟩)] W' enters_Select1
            (fun x y i W'' h1 h2 h3 h4 h5 hb => (sel1_any (v i) lo hi so x y (p + 1) (p + 1 + 1) (p + 1 + 1 + 1) W'' (blkStay k1 hb) (blkStay k2 hb) (blkStay k3 hb) (allB_iff.1 hh i (num_lt (by omega) h1 h2 h4 h5 hnn)) g1 g2 g3).mono fun e W3 h => ⟨h.1, by rw [← h.2]; exact Below.refl _ _⟩) h0 hnn hc')
        clear hc hn h0 hh hz b1 b2 b3 b4 b5 b6 b7 b8 b9 hnn g1 g2 g3
        go_enter Try.func27, Try.ntmps27
        go_wp2_with (first | (go_at_call 90; refine (CK.out _ (by repeat (first | exact Below.refl _ _ | refine Below.alloc ?_ (by first | omega | (simp; done) | (simp; omega)) _ | refine Below.setCell ?_ (by first | omega | (simp; done) | (simp; omega)) _ | refine Below.drew ?_))).mono ?_; rintro e w2 ⟨rfl, hb2⟩; have HF2 := Lib.hid (blkStay (b := w.heap.size) (o := fldO X Y W H (.slice (some ⟨b, 0, none⟩) n cap)) (by ((simp only [heap_alloc_get, heap_size_alloc, if_true]) <;> ((repeat' split) <;> first | rfl | omega))) hb2); have HL2 := Lib.hid (blkStay (b := w.heap.size + 1) (o := flObj lo) (by ((simp only [heap_alloc_get, heap_size_alloc, if_true]) <;> ((repeat' split) <;> first | rfl | omega))) hb2); have HH2 := Lib.hid (blkStay (b := w.heap.size + 1 + 1) (o := flObj hi) (by ((simp only [heap_alloc_get, heap_size_alloc, if_true]) <;> ((repeat' split) <;> first | rfl | omega))) hb2); have HO2 := Lib.hid (blkStay (b := w.heap.size + 1 + 1 + 1) (o := flObj so) (by ((simp only [heap_alloc_get, heap_size_alloc, if_true]) <;> ((repeat' split) <;> first | rfl | omega))) hb2); have HS2 := Lib.hid (blkStay (b := w.heap.size + 1 + 1 + 1 + 1) (o := fldO 0 0 0 0 (.slice none 0 0)) (by ((simp only [heap_alloc_get, heap_size_alloc, if_true]) <;> ((repeat' split) <;> first | rfl | omega))) hb2); have hB2 : Below w.heap.size w w2 := Below.trans (by repeat (first | exact Below.refl _ _ | refine Below.alloc ?_ (by first | omega | (simp; done) | (simp; omega)) _ | refine Below.setCell ?_ (by first | omega | (simp; done) | (simp; omega)) _ | refine Below.drew ?_)) (Below.mono hb2 (by first | omega | (simp; done) | (simp; omega))); obtain ⟨cL, fL, zL⟩ := blkC HL2.out; obtain ⟨cH, fH, zH⟩ := blkC HH2.out; obtain ⟨cO, fO, zO⟩ := blkC HO2.out; clear hb2) | (go_at_call 88; refine (CS.out _ _ (heap_alloc_new _ _)).mono ?_; rintro e w3 ⟨rfl, hw3⟩; have hb23 : Below w2.heap.size w2 w3 := (by rw [← hw3]; exact (by repeat (first | exact Below.refl _ _ | refine Below.alloc ?_ (by first | omega | (simp; done) | (simp; omega)) _ | refine Below.setCell ?_ (by first | omega | (simp; done) | (simp; omega)) _ | refine Below.drew ?_))); clear hw3 cL fL zL cH fH zH cO fO zO; have HF3 := Lib.hid (blkStay HF2.out hb23); have HL3 := Lib.hid (blkStay HL2.out hb23); have HH3 := Lib.hid (blkStay HH2.out hb23); have HO3 := Lib.hid (blkStay HO2.out hb23); have HS3 := Lib.hid (blkStay HS2.out hb23); have hB3 := hB2.trans (hb23.mono hB2.size); clear hb23 hB2 HF2 HL2 HH2 HO2 HS2; obtain ⟨cF, fF, zF⟩ := blkC HF3.out; obtain ⟨cL, fL, zL⟩ := blkC HL3.out; obtain ⟨cH, fH, zH⟩ := blkC HH3.out; obtain ⟨cO, fO, zO⟩ := blkC HO3.out; obtain ⟨cS, fS, zS⟩ := blkC HS3.out))
        clear cS fS cF fF zF
        refine (RM.out _ w.heap.size HL3.out HH3.out HO3.out (flAt_congr HC.out (hB3.block _ hlt))).mono ?_
        intro e w4 hmade
        rcases hmade with ⟨hall, b', cap', rfl, hb', hlt', hrow, hbel⟩ | ⟨hall, rfl, hbel⟩
        · obtain ⟨cS, fS, zS4⟩ := blkC (blkStay HS3.out hbel)
          have HB := Lib.hid hb'
          clear hb'
          go_wp2
          refine bodyPost_ret (v := .tuple #[fldV X Y W H (.slice (some ⟨b', 0, none⟩) n cap'), .int .i64 0]) (by simp [results, Try.results27, go_sem, cS]) rfl ?_
          have z3 := hB3.size
          have hb' := HB.out
          exact .inr ⟨rfl, .inl ⟨hall, b', cap', rfl, by omega, by rw [set5_size]; exact hlt', flAt_congr hrow (set5_heap w4 _ _ _ _ _ _ _ (by omega)), set5_below (hB3.trans (hbel.mono z3)) _ _ _ _ _ _ (by omega)⟩⟩
        · obtain ⟨cS, fS, zS4⟩ := blkC (blkStay HS3.out hbel)
          go_wp2
          refine bodyPost_ret (v := .tuple #[fldV 0 0 0 0 (.slice none 0 0), .int .i64 3]) (by simp [results, Try.results27, go_sem, cS]) rfl ?_
          have z3 := hB3.size
          exact .inr ⟨rfl, .inr ⟨hall, rfl, set5_below (hB3.trans (hbel.mono z3)) _ _ _ _ _ _ (by omega)⟩⟩
  · have hzb : (fldE 3 (three lo hi so) != 0) = true := by simp [hz]
    rw [if_neg hz]
    have HZ := Lib.hid hz
    generalize fldE 3 (three lo hi so) = er at *
    clear hc hn h0 hh hz b1 b2 b3 b4 b5 b6 b7 b8 b9 hnn
    go_enter Try.func27, Try.ntmps27
    go_wp2_with (first | (go_at_call 90; refine (CK.out _ (by repeat (first | exact Below.refl _ _ | refine Below.alloc ?_ (by first | omega | (simp; done) | (simp; omega)) _ | refine Below.setCell ?_ (by first | omega | (simp; done) | (simp; omega)) _ | refine Below.drew ?_))).mono ?_; rintro e w2 ⟨rfl, hb2⟩; have HF2 := Lib.hid (blkStay (b := w.heap.size) (o := fldO X Y W H (.slice (some ⟨b, 0, none⟩) n cap)) (by ((simp only [heap_alloc_get, heap_size_alloc, if_true]) <;> ((repeat' split) <;> first | rfl | omega))) hb2); have HL2 := Lib.hid (blkStay (b := w.heap.size + 1) (o := flObj lo) (by ((simp only [heap_alloc_get, heap_size_alloc, if_true]) <;> ((repeat' split) <;> first | rfl | omega))) hb2); have HH2 := Lib.hid (blkStay (b := w.heap.size + 1 + 1) (o := flObj hi) (by ((simp only [heap_alloc_get, heap_size_alloc, if_true]) <;> ((repeat' split) <;> first | rfl | omega))) hb2); have HO2 := Lib.hid (blkStay (b := w.heap.size + 1 + 1 + 1) (o := flObj so) (by ((simp only [heap_alloc_get, heap_size_alloc, if_true]) <;> ((repeat' split) <;> first | rfl | omega))) hb2); have HS2 := Lib.hid (blkStay (b := w.heap.size + 1 + 1 + 1 + 1) (o := fldO 0 0 0 0 (.slice none 0 0)) (by ((simp only [heap_alloc_get, heap_size_alloc, if_true]) <;> ((repeat' split) <;> first | rfl | omega))) hb2); have hB2 : Below w.heap.size w w2 := Below.trans (by repeat (first | exact Below.refl _ _ | refine Below.alloc ?_ (by first | omega | (simp; done) | (simp; omega)) _ | refine Below.setCell ?_ (by first | omega | (simp; done) | (simp; omega)) _ | refine Below.drew ?_)) (Below.mono hb2 (by first | omega | (simp; done) | (simp; omega))); obtain ⟨cL, fL, zL⟩ := blkC HL2.out; obtain ⟨cH, fH, zH⟩ := blkC HH2.out; obtain ⟨cO, fO, zO⟩ := blkC HO2.out; clear hb2) | (go_at_call 88; refine (CS.out _ _ (heap_alloc_new _ _)).mono ?_; rintro e w3 ⟨rfl, hw3⟩; have hb23 : Below w2.heap.size w2 w3 := (by rw [← hw3]; exact (by repeat (first | exact Below.refl _ _ | refine Below.alloc ?_ (by first | omega | (simp; done) | (simp; omega)) _ | refine Below.setCell ?_ (by first | omega | (simp; done) | (simp; omega)) _ | refine Below.drew ?_))); clear hw3 cL fL zL cH fH zH cO fO zO; have HF3 := Lib.hid (blkStay HF2.out hb23); have HL3 := Lib.hid (blkStay HL2.out hb23); have HH3 := Lib.hid (blkStay HH2.out hb23); have HO3 := Lib.hid (blkStay HO2.out hb23); have HS3 := Lib.hid (blkStay HS2.out hb23); have hB3 := hB2.trans (hb23.mono hB2.size); clear hb23 hB2 HF2 HL2 HH2 HO2 HS2; obtain ⟨cF, fF, zF⟩ := blkC HF3.out; obtain ⟨cL, fL, zL⟩ := blkC HL3.out; obtain ⟨cH, fH, zH⟩ := blkC HH3.out; obtain ⟨cO, fO, zO⟩ := blkC HO3.out; obtain ⟨cS, fS, zS⟩ := blkC HS3.out))
    refine bodyPost_ret (v := .tuple #[fldV 0 0 0 0 (.slice none 0 0), .int .i64 er]) (by simp [results, Try.results27, go_sem, cS]) rfl ?_
    exact .inl ⟨HZ.out, rfl, set5_below hB3 _ _ _ _ _ _ (by omega)⟩
end Go.Proofs.Ytmbiohopcfglcaa

/- Select of the reference, of a right field. -/
namespace Go.Proofs.Ytmbiohopcfglcaa
open Go.RowKit Fl
set_option linter.unusedVariables false

set_option maxHeartbeats 1000000 in
theorem selectError_any (lo hi so : Nat) (hl : lo < 4294967296) (hh : hi < 4294967296) (hs : so < 4294967296) (w : World) :
    Calls Try.prog 107 #[.float .f32 lo, .float .f32 hi, .float .f32 so] w fun e w' => e = .returned (.int .i64 (selE lo hi so)) ∧ Below w.heap.size w w' := by
  have HT := Lib.hid (fun bb W' (hb : W'.heap[bb]? = some (.cells #[.float .f32 lo, .float .f32 hi, .float .f32 so] 22)) => refHeight_row bb 0 3 3 (three lo hi so) (by omega) W' (flAt_three hb) (three_wf hl hh hs))
  unfold selE
  by_cases hz : fldE 3 (three lo hi so) = 0
  · rw [if_pos hz]
    rw [hz] at HT
    clear hz hl hh hs
    cases c1 : (FloatKind.f32.format.order lo hi == some .gt) with
    | true =>
      rw [if_pos rfl]
      go_enter Try.func107, Try.ntmps107
      go_wp2_with (first | (go_at_call 84; refine (HT.out _ _ (heap_alloc_new _ _)).mono ?_; rintro e w2 ⟨rfl, rfl⟩))
      go_ret
      exact ⟨rfl, (by repeat (first | exact Below.refl _ _ | refine Below.alloc ?_ (by first | omega | (simp; done) | (simp; omega)) _ | refine Below.setCell ?_ (by first | omega | (simp; done) | (simp; omega)) _ | refine Below.drew ?_))⟩
    | false =>
      rw [if_neg (by simp)]
      cases c2 : (FloatKind.f32.format.order so 0 == some .lt) with
      | true =>
        rw [if_pos rfl]
        go_enter Try.func107, Try.ntmps107
        go_wp2_with (first | (go_at_call 84; refine (HT.out _ _ (heap_alloc_new _ _)).mono ?_; rintro e w2 ⟨rfl, rfl⟩))
        go_ret
        exact ⟨rfl, (by repeat (first | exact Below.refl _ _ | refine Below.alloc ?_ (by first | omega | (simp; done) | (simp; omega)) _ | refine Below.setCell ?_ (by first | omega | (simp; done) | (simp; omega)) _ | refine Below.drew ?_))⟩
      | false =>
        rw [if_neg (by simp)]
        go_enter Try.func107, Try.ntmps107
        go_wp2_with (first | (go_at_call 84; refine (HT.out _ _ (heap_alloc_new _ _)).mono ?_; rintro e w2 ⟨rfl, rfl⟩))
        go_ret
        exact ⟨rfl, (by repeat (first | exact Below.refl _ _ | refine Below.alloc ?_ (by first | omega | (simp; done) | (simp; omega)) _ | refine Below.setCell ?_ (by first | omega | (simp; done) | (simp; omega)) _ | refine Below.drew ?_))⟩
  · rw [if_neg hz]
    have hzb : (fldE 3 (three lo hi so) != 0) = true := by simp [hz]
    generalize fldE 3 (three lo hi so) = er at *
    clear hz hl hh hs
    go_enter Try.func107, Try.ntmps107
    go_wp2_with (first | (go_at_call 84; refine (HT.out _ _ (heap_alloc_new _ _)).mono ?_; rintro e w2 ⟨rfl, rfl⟩))
    go_ret
    exact ⟨rfl, (by repeat (first | exact Below.refl _ _ | refine Below.alloc ?_ (by first | omega | (simp; done) | (simp; omega)) _ | refine Below.setCell ?_ (by first | omega | (simp; done) | (simp; omega)) _ | refine Below.drew ?_))⟩

set_option maxHeartbeats 4000000 in
set_option maxRecDepth 100000 in
theorem rsel1_any (X Y : Int) (W H n b cap : Nat) (v : Nat → Nat) (p lo hi so : Nat) (w : World) (kF : w.heap[p]? = some (fldO X Y W H (.slice (some ⟨b, 0, none⟩) n cap))) (k1 : w.heap[p + 1]? = some (flObj lo)) (k2 : w.heap[p + 1 + 1]? = some (flObj hi)) (k3 : w.heap[p + 1 + 1 + 1]? = some (flObj so)) (hc : FlAt w b 0 n v)
    (hh : allB n (fun i => hgtB (v i)) = true) (g1 : hgtB lo = true) (g2 : hgtB hi = true) (g3 : hgtB so = true) (h0 : checkR X Y W H = 0) (hnn : n = H * W) :
    Clos2 108 #[.pointer (some ⟨p, 0, none⟩), .pointer (some ⟨p + 1, 0, none⟩), .pointer (some ⟨p + 1 + 1, 0, none⟩), .pointer (some ⟨p + 1 + 1 + 1, 0, none⟩)] X Y W H (fun i => selW (v i) lo hi so) w := by
  intro x y i w2 h1 h2 h3 h4 h5 hb
  obtain ⟨b1, b2, b3, b4, b5, b6, b7, b8, b9⟩ := checkR_zero h0
  have hn : n ≤ 65536 := by
    have : ((W : Int) * (H : Int)) = (n : Int) := by rw [hnn, Nat.mul_comm]; simp
    omega
  have hi' : i < n := num_lt (by omega) h1 h2 h4 h5 hnn
  have hrow := flAt_congr hc (hb.block b (World.block_lt_of_cell? w _ (hc i hi')))
  have z1 := World.block_lt_of_cell? w2 _ (hrow i hi')
  have AT := Lib.hid (fun W' (hb : Below w2.heap.size w2 W') => refAt_any X Y W H n b cap i v x y W' (by omega) (by omega) (by omega) (by omega) (by omega) (by omega) (by omega) h1 h2 h3 h4 h5 hi' hn (flAt_congr hrow (hb.block _ z1)))
  have SL := Lib.hid (fun w => selected_any (v i) lo hi so w (allB_iff.1 hh i hi') g1 g2 g3)
  have GF := Lib.hid (blkStay kF hb)
  have G1 := Lib.hid (blkStay k1 hb)
  have G2 := Lib.hid (blkStay k2 hb)
  have G3 := Lib.hid (blkStay k3 hb)
  obtain ⟨cF, fF, zF⟩ := blkC GF.out
  obtain ⟨c1, f1, z2⟩ := blkC G1.out
  obtain ⟨c2, f2, z3⟩ := blkC G2.out
  obtain ⟨c3, f3, z4⟩ := blkC G3.out
  show Calls _ _ _ _ fun e w' => e = .returned (.float .f32 (selW (v i) lo hi so)) ∧ _
  generalize selW (v i) lo hi so = r at *
  clear hb h1 h2 h3 h4 h5 b1 b2 b3 b4 b5 b6 b7 b8 b9 hnn hh h0 hi' hn hrow kF k1 k2 k3 hc
  go_enter Try.func108, Try.ntmps108
  go_wp2
  go_region_held3 (fun w' => (∀ o, w'.cell? ⟨p, o, none⟩ = #[.int .i64 X, .int .i64 Y, .int .i64 W, .int .i64 H, .slice (some ⟨b, 0, none⟩) n cap][o]?) ∧ (∀ o, w'.cell? ⟨p + 1, o, none⟩ = #[.float .f32 lo][o]?) ∧ (∀ o, w'.cell? ⟨p + 1 + 1, o, none⟩ = #[.float .f32 hi][o]?) ∧ (∀ o, w'.cell? ⟨p + 1 + 1 + 1, o, none⟩ = #[.float .f32 so][o]?) ∧ Below w2.heap.size w2 w') (first | exact ⟨(blkC (blkStay GF.out (by repeat (first | exact Below.refl _ _ | refine Below.alloc ?_ (by first | omega | (simp; done) | (simp; omega)) _ | refine Below.setCell ?_ (by first | omega | (simp; done) | (simp; omega)) _ | refine Below.drew ?_)))).1, (blkC (blkStay G1.out (by repeat (first | exact Below.refl _ _ | refine Below.alloc ?_ (by first | omega | (simp; done) | (simp; omega)) _ | refine Below.setCell ?_ (by first | omega | (simp; done) | (simp; omega)) _ | refine Below.drew ?_)))).1, (blkC (blkStay G2.out (by repeat (first | exact Below.refl _ _ | refine Below.alloc ?_ (by first | omega | (simp; done) | (simp; omega)) _ | refine Below.setCell ?_ (by first | omega | (simp; done) | (simp; omega)) _ | refine Below.drew ?_)))).1, (blkC (blkStay G3.out (by repeat (first | exact Below.refl _ _ | refine Below.alloc ?_ (by first | omega | (simp; done) | (simp; omega)) _ | refine Below.setCell ?_ (by first | omega | (simp; done) | (simp; omega)) _ | refine Below.drew ?_)))).1, (by repeat (first | exact Below.refl _ _ | refine Below.alloc ?_ (by first | omega | (simp; done) | (simp; omega)) _ | refine Below.setCell ?_ (by first | omega | (simp; done) | (simp; omega)) _ | refine Below.drew ?_))⟩) (first | (go_at_call 96; (with_reducible refine Calls.mono (AT.out _ ?_) ?_); exact (by repeat (first | exact Below.refl _ _ | refine Below.alloc ?_ (by first | omega | (simp; done) | (simp; omega)) _ | refine Below.setCell ?_ (by first | omega | (simp; done) | (simp; omega)) _ | refine Below.drew ?_)); rintro e w' ⟨rfl, rfl⟩) | (go_at_call 109; refine (SL.out _).mono ?_; rintro e w' ⟨rfl, rfl⟩))
  rename_i wh hHeld
  go_wp2
  go_ret
  exact ⟨rfl, hHeld.2.2.2.2⟩

set_option maxHeartbeats 2000000 in
theorem rselect_any (X Y : Int) (W H n b cap : Nat) (v : Nat → Nat) (lo hi so : Nat) (w : World) (h0 : checkR X Y W H = 0) (hn : n = W * H) (hc : FlAt w b 0 n v) (hh : allB n (fun i => hgtB (v i)) = true) (hl' : lo < 4294967296) (hh' : hi < 4294967296) (hs' : so < 4294967296) :
    Calls Try.prog 28 #[fldV X Y W H (.slice (some ⟨b, 0, none⟩) n cap), .float .f32 lo, .float .f32 hi, .float .f32 so] w (ScPost w X Y W H n (fun i => selW (v i) lo hi so) (selE lo hi so)) := by
  obtain ⟨b1, b2, b3, b4, b5, b6, b7, b8, b9⟩ := checkR_zero h0
  have hnn : n = H * W := by rw [hn]; exact Nat.mul_comm _ _
  have h1 : 1 ≤ n := by rw [hn]; exact Nat.mul_pos (by omega) (by omega)
  have hlt : b < w.heap.size := World.block_lt_of_cell? w _ (hc 0 h1)
  have SE := Lib.hid (fun w => selectError_any lo hi so hl' hh' hs' w)
  by_cases hz : selE lo hi so = 0
  · have hz3 : fldE 3 (three lo hi so) = 0 := by
      unfold selE at hz
      by_cases q : fldE 3 (three lo hi so) = 0
      · exact q
      · rw [if_neg q] at hz; exact hz
    obtain ⟨g1, g2, g3⟩ := three_hgt hz3
    have BY := Lib.hid (fun W' p (kF : W'.heap[p]? = some (fldO X Y W H (.slice (some ⟨b, 0, none⟩) n cap))) (k1 : W'.heap[p + 1]? = some (flObj lo)) (k2 : W'.heap[p + 1 + 1]? = some (flObj hi)) (k3 : W'.heap[p + 1 + 1 + 1]? = some (flObj so)) (hc' : FlAt W' b 0 n v) =>
      made_any X Y W H n 108 #[.pointer (some ⟨p, 0, none⟩), .pointer (some ⟨p + 1, 0, none⟩), .pointer (some ⟨p + 1 + 1, 0, none⟩), .pointer (some ⟨p + 1 + 1 + 1, 0, none⟩)] (fun i => selW (v i) lo hi so) W' enters_rSelect1
        (rsel1_any X Y W H n b cap v p lo hi so W' kF k1 k2 k3 hc' hh g1 g2 g3 h0 hnn) (fun i hi' => sel_lt (allB_iff.1 hh i hi') g1 g2 g3) (by omega) (by omega) (by omega) (by omega) (by omega) (by omega) (by omega) (by omega) hnn)
    rw [hz] at SE ⊢
    have HC := Lib.hid hc
    clear hc hn h0 hh hz hz3 b1 b2 b3 b4 b5 b6 b7 b8 b9 hnn g1 g2 g3 hl' hh' hs'
    go_enter Try.func28, Try.ntmps28
    go_wp2_with (first | (go_at_call 107; refine (SE.out _).mono ?_; rintro e w2 ⟨rfl, hb2⟩; have HF2 := Lib.hid (blkStay (b := w.heap.size) (o := fldO X Y W H (.slice (some ⟨b, 0, none⟩) n cap)) (by ((simp only [heap_alloc_get, heap_size_alloc, if_true]) <;> ((repeat' split) <;> first | rfl | omega))) hb2); have HL2 := Lib.hid (blkStay (b := w.heap.size + 1) (o := flObj lo) (by ((simp only [heap_alloc_get, heap_size_alloc, if_true]) <;> ((repeat' split) <;> first | rfl | omega))) hb2); have HH2 := Lib.hid (blkStay (b := w.heap.size + 1 + 1) (o := flObj hi) (by ((simp only [heap_alloc_get, heap_size_alloc, if_true]) <;> ((repeat' split) <;> first | rfl | omega))) hb2); have HO2 := Lib.hid (blkStay (b := w.heap.size + 1 + 1 + 1) (o := flObj so) (by ((simp only [heap_alloc_get, heap_size_alloc, if_true]) <;> ((repeat' split) <;> first | rfl | omega))) hb2); have HS2 := Lib.hid (blkStay (b := w.heap.size + 1 + 1 + 1 + 1) (o := fldO 0 0 0 0 (.slice none 0 0)) (by ((simp only [heap_alloc_get, heap_size_alloc, if_true]) <;> ((repeat' split) <;> first | rfl | omega))) hb2); have hB2 : Below w.heap.size w w2 := Below.trans (by repeat (first | exact Below.refl _ _ | refine Below.alloc ?_ (by first | omega | (simp; done) | (simp; omega)) _ | refine Below.setCell ?_ (by first | omega | (simp; done) | (simp; omega)) _ | refine Below.drew ?_)) (Below.mono hb2 (by first | omega | (simp; done) | (simp; omega))); obtain ⟨cF, fF, zF⟩ := blkC HF2.out; clear hb2))
    refine (BY.out _ w.heap.size HF2.out HL2.out HH2.out HO2.out (flAt_congr HC.out (hB2.block _ hlt))).mono ?_
    intro e w4 hmade
    clear cF fF zF
    rcases hmade with ⟨hall, b', cap', rfl, hb', hlt', hrow, hbel⟩ | ⟨hall, rfl, hbel⟩
    · obtain ⟨cS, fS, zS4⟩ := blkC (blkStay HS2.out hbel)
      have zS2 := (blkC HS2.out).2.2
      have HB := Lib.hid hb'
      clear hb'
      go_wp2
      refine bodyPost_ret (v := .tuple #[fldV X Y W H (.slice (some ⟨b', 0, none⟩) n cap'), .int .i64 0]) (by simp [results, Try.results28, go_sem, cS]) rfl ?_
      have z2 := hB2.size
      have hb' := HB.out
      exact .inr ⟨rfl, .inl ⟨hall, b', cap', rfl, by omega, by rw [set5_size]; exact hlt', flAt_congr hrow (set5_heap w4 _ _ _ _ _ _ _ (by omega)), set5_below (hB2.trans (hbel.mono z2)) _ _ _ _ _ _ (by omega)⟩⟩
    · obtain ⟨cS, fS, zS4⟩ := blkC (blkStay HS2.out hbel)
      go_wp2
      refine bodyPost_ret (v := .tuple #[fldV 0 0 0 0 (.slice none 0 0), .int .i64 3]) (by simp [results, Try.results28, go_sem, cS]) rfl ?_
      have z2 := hB2.size
      exact .inr ⟨rfl, .inr ⟨hall, rfl, set5_below (hB2.trans (hbel.mono z2)) _ _ _ _ _ _ (by omega)⟩⟩
  · have hzb : (selE lo hi so != 0) = true := by simp [hz]
    have HZ := Lib.hid hz
    generalize selE lo hi so = er at *
    clear hc hn h0 hh hz b1 b2 b3 b4 b5 b6 b7 b8 b9 hnn hl' hh' hs'
    go_enter Try.func28, Try.ntmps28
    go_wp2_with (first | (go_at_call 107; refine (SE.out _).mono ?_; rintro e w2 ⟨rfl, hb2⟩; have HS2 := Lib.hid (blkStay (b := w.heap.size + 1 + 1 + 1 + 1) (o := fldO 0 0 0 0 (.slice none 0 0)) (by ((simp only [heap_alloc_get, heap_size_alloc, if_true]) <;> ((repeat' split) <;> first | rfl | omega))) hb2); have hB2 : Below w.heap.size w w2 := Below.trans (by repeat (first | exact Below.refl _ _ | refine Below.alloc ?_ (by first | omega | (simp; done) | (simp; omega)) _ | refine Below.setCell ?_ (by first | omega | (simp; done) | (simp; omega)) _ | refine Below.drew ?_)) (Below.mono hb2 (by first | omega | (simp; done) | (simp; omega))); obtain ⟨cS, fS, zS⟩ := blkC HS2.out; clear hb2))
    refine bodyPost_ret (v := .tuple #[fldV 0 0 0 0 (.slice none 0 0), .int .i64 er]) (by simp [results, Try.results28, go_sem, cS]) rfl ?_
    exact .inl ⟨HZ.out, rfl, set5_below hB2 _ _ _ _ _ _ (by omega)⟩
end Go.Proofs.Ytmbiohopcfglcaa

/- Terrace of the program, of a right field. -/
namespace Go.Proofs.Ytmbiohopcfglcaa
open Go.RowKit Fl
set_option linter.unusedVariables false

/-- The tests of Terrace's singles: what is wrong. -/
def terB (st sh : Nat) : Bool := (FloatKind.f32.format.order st 981467136 == some .lt) || ((FloatKind.f32.format.order st 1149239296 == some .gt) || ((FloatKind.f32.format.order sh 0 == some .lt) || (FloatKind.f32.format.order sh 1065353216 == some .gt || FloatKind.f32.format.order sh 1065353216 == some .eq)))
/-- The error of Terrace's singles. -/
def terE (st sh : Nat) : Int := if fldE 2 (two st sh) = 0 then (if terB st sh = true then 3 else 0) else fldE 2 (two st sh)

theorem two_wf {a b : Nat} (ha : a < 4294967296) (hb : b < 4294967296) : wf32 2 (two a b) := by
  intro i hi
  have : i = 0 ∨ i = 1 := by omega
  rcases this with rfl | rfl <;> assumption

theorem enters_Terrace1 : Enters 110 := by intro args W; simp [callFunc, Try.func110, Try.f110]
theorem enters_rTerrace1 : Enters 113 := by intro args W; simp [callFunc, Try.func113, Try.f113]

theorem ter_ok {st sh : Nat} (h : hgtB st = true) (h' : hgtB sh = true) (c1 : (FloatKind.f32.format.order st 981467136 == some .lt) = false) (c2 : (FloatKind.f32.format.order st 1149239296 == some .gt) = false) (c3 : (FloatKind.f32.format.order sh 0 == some .lt) = false)
    (c4 : (FloatKind.f32.format.order sh 1065353216 == some .gt || FloatKind.f32.format.order sh 1065353216 == some .eq) = false) : StepOk st ∧ ShOk sh := by
  constructor
  · exact step_ok (by unfold wiE; rw [if_neg (by rw [hgt_fin h]; simp), if_neg (by rw [c1, c2]; simp)])
  · obtain ⟨b, hb, _⟩ := hgt_val h'
    rw [f32f, lss_val hb vS_zero] at c3
    rw [f32f, geq_val hb vS_one] at c4
    exact ⟨b, hb, by simpa using c3, by simpa using c4⟩

set_option maxHeartbeats 2000000 in
theorem terrace_any (X Y : Int) (W H n b cap : Nat) (v : Nat → Nat) (st sh : Nat) (w : World) (h0 : checkR X Y W H = 0) (hn : n = W * H) (hc : FlAt w b 0 n v) (hh : allB n (fun i => hgtB (v i)) = true) :
    Calls Try.prog 29 #[fldV X Y W H (.slice (some ⟨b, 0, none⟩) n cap), .float .f32 st, .float .f32 sh] w (ScPost w X Y W H n (fun i => terW (v i) st sh) (terE st sh)) := by
  obtain ⟨b1, b2, b3, b4, b5, b6, b7, b8, b9⟩ := checkR_zero h0
  have hnn : n = H * W := by rw [hn]; exact Nat.mul_comm _ _
  have h1 : 1 ≤ n := by rw [hn]; exact Nat.mul_pos (by omega) (by omega)
  have hlt : b < w.heap.size := World.block_lt_of_cell? w _ (hc 0 h1)
  have CK := Lib.hid (fun W' (hb : Below w.heap.size w W') => check_ok X Y W H n b cap v W' h0 hn (flAt_congr hc (hb.block _ hlt)) hh)
  have CS := Lib.hid (fun bb W' (hb : W'.heap[bb]? = some (.cells #[.float .f32 st, .float .f32 sh] 22)) => CheckHeights_row bb 0 2 2 (two st sh) (by omega) W' (flAt_two hb))
  unfold terE
  by_cases hz : fldE 2 (two st sh) = 0
  · obtain ⟨g1, g2⟩ := two_hgt hz
    rw [if_pos hz]
    rw [hz] at CS
    have HC := Lib.hid hc
    cases c1 : (FloatKind.f32.format.order st 981467136 == some .lt) with
    | true =>
      rw [if_pos (by unfold terB; rw [c1]; rfl)]
      clear hc hn h0 hh hz b1 b2 b3 b4 b5 b6 b7 b8 b9 hnn g1 g2
      go_enter Try.func29, Try.ntmps29
      go_wp2_with (first | (go_at_call 90; refine (CK.out _ (by repeat (first | exact Below.refl _ _ | refine Below.alloc ?_ (by first | omega | (simp; done) | (simp; omega)) _ | refine Below.setCell ?_ (by first | omega | (simp; done) | (simp; omega)) _ | refine Below.drew ?_))).mono ?_; rintro e w2 ⟨rfl, hb2⟩; have HF2 := Lib.hid (blkStay (b := w.heap.size) (o := fldO X Y W H (.slice (some ⟨b, 0, none⟩) n cap)) (by ((simp only [heap_alloc_get, heap_size_alloc, if_true]) <;> ((repeat' split) <;> first | rfl | omega))) hb2); have HL2 := Lib.hid (blkStay (b := w.heap.size + 1) (o := flObj st) (by ((simp only [heap_alloc_get, heap_size_alloc, if_true]) <;> ((repeat' split) <;> first | rfl | omega))) hb2); have HH2 := Lib.hid (blkStay (b := w.heap.size + 1 + 1) (o := flObj sh) (by ((simp only [heap_alloc_get, heap_size_alloc, if_true]) <;> ((repeat' split) <;> first | rfl | omega))) hb2); have HS2 := Lib.hid (blkStay (b := w.heap.size + 1 + 1 + 1) (o := fldO 0 0 0 0 (.slice none 0 0)) (by ((simp only [heap_alloc_get, heap_size_alloc, if_true]) <;> ((repeat' split) <;> first | rfl | omega))) hb2); have hB2 : Below w.heap.size w w2 := Below.trans (by repeat (first | exact Below.refl _ _ | refine Below.alloc ?_ (by first | omega | (simp; done) | (simp; omega)) _ | refine Below.setCell ?_ (by first | omega | (simp; done) | (simp; omega)) _ | refine Below.drew ?_)) (Below.mono hb2 (by first | omega | (simp; done) | (simp; omega))); obtain ⟨cL, fL, zL⟩ := blkC HL2.out; obtain ⟨cH, fH, zH⟩ := blkC HH2.out; clear hb2) | (go_at_call 88; refine (CS.out _ _ (heap_alloc_new _ _)).mono ?_; rintro e w3 ⟨rfl, hw3⟩; have hb23 : Below w2.heap.size w2 w3 := (by rw [← hw3]; exact (by repeat (first | exact Below.refl _ _ | refine Below.alloc ?_ (by first | omega | (simp; done) | (simp; omega)) _ | refine Below.setCell ?_ (by first | omega | (simp; done) | (simp; omega)) _ | refine Below.drew ?_))); clear hw3 cL fL zL cH fH zH; have HF3 := Lib.hid (blkStay HF2.out hb23); have HL3 := Lib.hid (blkStay HL2.out hb23); have HH3 := Lib.hid (blkStay HH2.out hb23); have HS3 := Lib.hid (blkStay HS2.out hb23); have hB3 := hB2.trans (hb23.mono hB2.size); clear hb23 hB2 HF2 HL2 HH2 HS2; obtain ⟨cF, fF, zF⟩ := blkC HF3.out; obtain ⟨cL, fL, zL⟩ := blkC HL3.out; obtain ⟨cH, fH, zH⟩ := blkC HH3.out; obtain ⟨cS, fS, zS⟩ := blkC HS3.out))
      refine bodyPost_ret (v := .tuple #[fldV 0 0 0 0 (.slice none 0 0), .int .i64 3]) (by simp [results, Try.results29, go_sem, cS]) rfl ?_
      exact .inl ⟨by decide, rfl, set5_below hB3 _ _ _ _ _ _ (by omega)⟩
    | false =>
      cases c2 : (FloatKind.f32.format.order st 1149239296 == some .gt) with
      | true =>
        rw [if_pos (by unfold terB; rw [c1, c2]; rfl)]
        clear hc hn h0 hh hz b1 b2 b3 b4 b5 b6 b7 b8 b9 hnn g1 g2
        go_enter Try.func29, Try.ntmps29
        go_wp2_with (first | (go_at_call 90; refine (CK.out _ (by repeat (first | exact Below.refl _ _ | refine Below.alloc ?_ (by first | omega | (simp; done) | (simp; omega)) _ | refine Below.setCell ?_ (by first | omega | (simp; done) | (simp; omega)) _ | refine Below.drew ?_))).mono ?_; rintro e w2 ⟨rfl, hb2⟩; have HF2 := Lib.hid (blkStay (b := w.heap.size) (o := fldO X Y W H (.slice (some ⟨b, 0, none⟩) n cap)) (by ((simp only [heap_alloc_get, heap_size_alloc, if_true]) <;> ((repeat' split) <;> first | rfl | omega))) hb2); have HL2 := Lib.hid (blkStay (b := w.heap.size + 1) (o := flObj st) (by ((simp only [heap_alloc_get, heap_size_alloc, if_true]) <;> ((repeat' split) <;> first | rfl | omega))) hb2); have HH2 := Lib.hid (blkStay (b := w.heap.size + 1 + 1) (o := flObj sh) (by ((simp only [heap_alloc_get, heap_size_alloc, if_true]) <;> ((repeat' split) <;> first | rfl | omega))) hb2); have HS2 := Lib.hid (blkStay (b := w.heap.size + 1 + 1 + 1) (o := fldO 0 0 0 0 (.slice none 0 0)) (by ((simp only [heap_alloc_get, heap_size_alloc, if_true]) <;> ((repeat' split) <;> first | rfl | omega))) hb2); have hB2 : Below w.heap.size w w2 := Below.trans (by repeat (first | exact Below.refl _ _ | refine Below.alloc ?_ (by first | omega | (simp; done) | (simp; omega)) _ | refine Below.setCell ?_ (by first | omega | (simp; done) | (simp; omega)) _ | refine Below.drew ?_)) (Below.mono hb2 (by first | omega | (simp; done) | (simp; omega))); obtain ⟨cL, fL, zL⟩ := blkC HL2.out; obtain ⟨cH, fH, zH⟩ := blkC HH2.out; clear hb2) | (go_at_call 88; refine (CS.out _ _ (heap_alloc_new _ _)).mono ?_; rintro e w3 ⟨rfl, hw3⟩; have hb23 : Below w2.heap.size w2 w3 := (by rw [← hw3]; exact (by repeat (first | exact Below.refl _ _ | refine Below.alloc ?_ (by first | omega | (simp; done) | (simp; omega)) _ | refine Below.setCell ?_ (by first | omega | (simp; done) | (simp; omega)) _ | refine Below.drew ?_))); clear hw3 cL fL zL cH fH zH; have HF3 := Lib.hid (blkStay HF2.out hb23); have HL3 := Lib.hid (blkStay HL2.out hb23); have HH3 := Lib.hid (blkStay HH2.out hb23); have HS3 := Lib.hid (blkStay HS2.out hb23); have hB3 := hB2.trans (hb23.mono hB2.size); clear hb23 hB2 HF2 HL2 HH2 HS2; obtain ⟨cF, fF, zF⟩ := blkC HF3.out; obtain ⟨cL, fL, zL⟩ := blkC HL3.out; obtain ⟨cH, fH, zH⟩ := blkC HH3.out; obtain ⟨cS, fS, zS⟩ := blkC HS3.out))
        refine bodyPost_ret (v := .tuple #[fldV 0 0 0 0 (.slice none 0 0), .int .i64 3]) (by simp [results, Try.results29, go_sem, cS]) rfl ?_
        exact .inl ⟨by decide, rfl, set5_below hB3 _ _ _ _ _ _ (by omega)⟩
      | false =>
        cases c3 : (FloatKind.f32.format.order sh 0 == some .lt) with
        | true =>
          rw [if_pos (by unfold terB; rw [c1, c2, c3]; rfl)]
          clear hc hn h0 hh hz b1 b2 b3 b4 b5 b6 b7 b8 b9 hnn g1 g2
          go_enter Try.func29, Try.ntmps29
          go_wp2_with (first | (go_at_call 90; refine (CK.out _ (by repeat (first | exact Below.refl _ _ | refine Below.alloc ?_ (by first | omega | (simp; done) | (simp; omega)) _ | refine Below.setCell ?_ (by first | omega | (simp; done) | (simp; omega)) _ | refine Below.drew ?_))).mono ?_; rintro e w2 ⟨rfl, hb2⟩; have HF2 := Lib.hid (blkStay (b := w.heap.size) (o := fldO X Y W H (.slice (some ⟨b, 0, none⟩) n cap)) (by ((simp only [heap_alloc_get, heap_size_alloc, if_true]) <;> ((repeat' split) <;> first | rfl | omega))) hb2); have HL2 := Lib.hid (blkStay (b := w.heap.size + 1) (o := flObj st) (by ((simp only [heap_alloc_get, heap_size_alloc, if_true]) <;> ((repeat' split) <;> first | rfl | omega))) hb2); have HH2 := Lib.hid (blkStay (b := w.heap.size + 1 + 1) (o := flObj sh) (by ((simp only [heap_alloc_get, heap_size_alloc, if_true]) <;> ((repeat' split) <;> first | rfl | omega))) hb2); have HS2 := Lib.hid (blkStay (b := w.heap.size + 1 + 1 + 1) (o := fldO 0 0 0 0 (.slice none 0 0)) (by ((simp only [heap_alloc_get, heap_size_alloc, if_true]) <;> ((repeat' split) <;> first | rfl | omega))) hb2); have hB2 : Below w.heap.size w w2 := Below.trans (by repeat (first | exact Below.refl _ _ | refine Below.alloc ?_ (by first | omega | (simp; done) | (simp; omega)) _ | refine Below.setCell ?_ (by first | omega | (simp; done) | (simp; omega)) _ | refine Below.drew ?_)) (Below.mono hb2 (by first | omega | (simp; done) | (simp; omega))); obtain ⟨cL, fL, zL⟩ := blkC HL2.out; obtain ⟨cH, fH, zH⟩ := blkC HH2.out; clear hb2) | (go_at_call 88; refine (CS.out _ _ (heap_alloc_new _ _)).mono ?_; rintro e w3 ⟨rfl, hw3⟩; have hb23 : Below w2.heap.size w2 w3 := (by rw [← hw3]; exact (by repeat (first | exact Below.refl _ _ | refine Below.alloc ?_ (by first | omega | (simp; done) | (simp; omega)) _ | refine Below.setCell ?_ (by first | omega | (simp; done) | (simp; omega)) _ | refine Below.drew ?_))); clear hw3 cL fL zL cH fH zH; have HF3 := Lib.hid (blkStay HF2.out hb23); have HL3 := Lib.hid (blkStay HL2.out hb23); have HH3 := Lib.hid (blkStay HH2.out hb23); have HS3 := Lib.hid (blkStay HS2.out hb23); have hB3 := hB2.trans (hb23.mono hB2.size); clear hb23 hB2 HF2 HL2 HH2 HS2; obtain ⟨cF, fF, zF⟩ := blkC HF3.out; obtain ⟨cL, fL, zL⟩ := blkC HL3.out; obtain ⟨cH, fH, zH⟩ := blkC HH3.out; obtain ⟨cS, fS, zS⟩ := blkC HS3.out))
          refine bodyPost_ret (v := .tuple #[fldV 0 0 0 0 (.slice none 0 0), .int .i64 3]) (by simp [results, Try.results29, go_sem, cS]) rfl ?_
          exact .inl ⟨by decide, rfl, set5_below hB3 _ _ _ _ _ _ (by omega)⟩
        | false =>
          cases c4 : (FloatKind.f32.format.order sh 1065353216 == some .gt || FloatKind.f32.format.order sh 1065353216 == some .eq) with
          | true =>
            rw [if_pos (by unfold terB; rw [c1, c2, c3, c4]; rfl)]
            clear hc hn h0 hh hz b1 b2 b3 b4 b5 b6 b7 b8 b9 hnn g1 g2
            go_enter Try.func29, Try.ntmps29
            go_wp2_with (first | (go_at_call 90; refine (CK.out _ (by repeat (first | exact Below.refl _ _ | refine Below.alloc ?_ (by first | omega | (simp; done) | (simp; omega)) _ | refine Below.setCell ?_ (by first | omega | (simp; done) | (simp; omega)) _ | refine Below.drew ?_))).mono ?_; rintro e w2 ⟨rfl, hb2⟩; have HF2 := Lib.hid (blkStay (b := w.heap.size) (o := fldO X Y W H (.slice (some ⟨b, 0, none⟩) n cap)) (by ((simp only [heap_alloc_get, heap_size_alloc, if_true]) <;> ((repeat' split) <;> first | rfl | omega))) hb2); have HL2 := Lib.hid (blkStay (b := w.heap.size + 1) (o := flObj st) (by ((simp only [heap_alloc_get, heap_size_alloc, if_true]) <;> ((repeat' split) <;> first | rfl | omega))) hb2); have HH2 := Lib.hid (blkStay (b := w.heap.size + 1 + 1) (o := flObj sh) (by ((simp only [heap_alloc_get, heap_size_alloc, if_true]) <;> ((repeat' split) <;> first | rfl | omega))) hb2); have HS2 := Lib.hid (blkStay (b := w.heap.size + 1 + 1 + 1) (o := fldO 0 0 0 0 (.slice none 0 0)) (by ((simp only [heap_alloc_get, heap_size_alloc, if_true]) <;> ((repeat' split) <;> first | rfl | omega))) hb2); have hB2 : Below w.heap.size w w2 := Below.trans (by repeat (first | exact Below.refl _ _ | refine Below.alloc ?_ (by first | omega | (simp; done) | (simp; omega)) _ | refine Below.setCell ?_ (by first | omega | (simp; done) | (simp; omega)) _ | refine Below.drew ?_)) (Below.mono hb2 (by first | omega | (simp; done) | (simp; omega))); obtain ⟨cL, fL, zL⟩ := blkC HL2.out; obtain ⟨cH, fH, zH⟩ := blkC HH2.out; clear hb2) | (go_at_call 88; refine (CS.out _ _ (heap_alloc_new _ _)).mono ?_; rintro e w3 ⟨rfl, hw3⟩; have hb23 : Below w2.heap.size w2 w3 := (by rw [← hw3]; exact (by repeat (first | exact Below.refl _ _ | refine Below.alloc ?_ (by first | omega | (simp; done) | (simp; omega)) _ | refine Below.setCell ?_ (by first | omega | (simp; done) | (simp; omega)) _ | refine Below.drew ?_))); clear hw3 cL fL zL cH fH zH; have HF3 := Lib.hid (blkStay HF2.out hb23); have HL3 := Lib.hid (blkStay HL2.out hb23); have HH3 := Lib.hid (blkStay HH2.out hb23); have HS3 := Lib.hid (blkStay HS2.out hb23); have hB3 := hB2.trans (hb23.mono hB2.size); clear hb23 hB2 HF2 HL2 HH2 HS2; obtain ⟨cF, fF, zF⟩ := blkC HF3.out; obtain ⟨cL, fL, zL⟩ := blkC HL3.out; obtain ⟨cH, fH, zH⟩ := blkC HH3.out; obtain ⟨cS, fS, zS⟩ := blkC HS3.out))
            refine bodyPost_ret (v := .tuple #[fldV 0 0 0 0 (.slice none 0 0), .int .i64 3]) (by simp [results, Try.results29, go_sem, cS]) rfl ?_
            exact .inl ⟨by decide, rfl, set5_below hB3 _ _ _ _ _ _ (by omega)⟩
          | false =>
            rw [if_neg (by unfold terB; rw [c1, c2, c3, c4]; simp)]
            obtain ⟨so, ho⟩ := ter_ok g1 g2 c1 c2 c3 c4
            have RM := Lib.hid (fun W' p (k1 : W'.heap[p + 1]? = some (flObj st)) (k2 : W'.heap[p + 1 + 1]? = some (flObj sh)) (hc' : FlAt W' b 0 n v) =>
              remade_any X Y W H n b cap v (fun i => terW (v i) st sh) 110 #[.pointer (some ⟨p + 1, 0, none⟩), .pointer (some ⟨p + 1 + 1, 0, none⟩)] W' enters_Terrace1
                (fun x y i W'' h1 h2 h3 h4 h5 hb => (ter1_any (v i) st sh x y (p + 1) (p + 1 + 1) W'' (blkStay k1 hb) (blkStay k2 hb) (allB_iff.1 hh i (num_lt (by omega) h1 h2 h4 h5 hnn)) so ho).mono fun e W3 h => ⟨h.1, by rw [← h.2]; exact Below.refl _ _⟩) h0 hnn hc')
            clear hc hn h0 hh hz b1 b2 b3 b4 b5 b6 b7 b8 b9 hnn g1 g2 so ho
            go_enter Try.func29, Try.ntmps29
            go_wp2_with (first | (go_at_call 90; refine (CK.out _ (by repeat (first | exact Below.refl _ _ | refine Below.alloc ?_ (by first | omega | (simp; done) | (simp; omega)) _ | refine Below.setCell ?_ (by first | omega | (simp; done) | (simp; omega)) _ | refine Below.drew ?_))).mono ?_; rintro e w2 ⟨rfl, hb2⟩; have HF2 := Lib.hid (blkStay (b := w.heap.size) (o := fldO X Y W H (.slice (some ⟨b, 0, none⟩) n cap)) (by ((simp only [heap_alloc_get, heap_size_alloc, if_true]) <;> ((repeat' split) <;> first | rfl | omega))) hb2); have HL2 := Lib.hid (blkStay (b := w.heap.size + 1) (o := flObj st) (by ((simp only [heap_alloc_get, heap_size_alloc, if_true]) <;> ((repeat' split) <;> first | rfl | omega))) hb2); have HH2 := Lib.hid (blkStay (b := w.heap.size + 1 + 1) (o := flObj sh) (by ((simp only [heap_alloc_get, heap_size_alloc, if_true]) <;> ((repeat' split) <;> first | rfl | omega))) hb2); have HS2 := Lib.hid (blkStay (b := w.heap.size + 1 + 1 + 1) (o := fldO 0 0 0 0 (.slice none 0 0)) (by ((simp only [heap_alloc_get, heap_size_alloc, if_true]) <;> ((repeat' split) <;> first | rfl | omega))) hb2); have hB2 : Below w.heap.size w w2 := Below.trans (by repeat (first | exact Below.refl _ _ | refine Below.alloc ?_ (by first | omega | (simp; done) | (simp; omega)) _ | refine Below.setCell ?_ (by first | omega | (simp; done) | (simp; omega)) _ | refine Below.drew ?_)) (Below.mono hb2 (by first | omega | (simp; done) | (simp; omega))); obtain ⟨cL, fL, zL⟩ := blkC HL2.out; obtain ⟨cH, fH, zH⟩ := blkC HH2.out; clear hb2) | (go_at_call 88; refine (CS.out _ _ (heap_alloc_new _ _)).mono ?_; rintro e w3 ⟨rfl, hw3⟩; have hb23 : Below w2.heap.size w2 w3 := (by rw [← hw3]; exact (by repeat (first | exact Below.refl _ _ | refine Below.alloc ?_ (by first | omega | (simp; done) | (simp; omega)) _ | refine Below.setCell ?_ (by first | omega | (simp; done) | (simp; omega)) _ | refine Below.drew ?_))); clear hw3 cL fL zL cH fH zH; have HF3 := Lib.hid (blkStay HF2.out hb23); have HL3 := Lib.hid (blkStay HL2.out hb23); have HH3 := Lib.hid (blkStay HH2.out hb23); have HS3 := Lib.hid (blkStay HS2.out hb23); have hB3 := hB2.trans (hb23.mono hB2.size); clear hb23 hB2 HF2 HL2 HH2 HS2; obtain ⟨cF, fF, zF⟩ := blkC HF3.out; obtain ⟨cL, fL, zL⟩ := blkC HL3.out; obtain ⟨cH, fH, zH⟩ := blkC HH3.out; obtain ⟨cS, fS, zS⟩ := blkC HS3.out))
            clear cS fS cF fF zF
            refine (RM.out _ w.heap.size HL3.out HH3.out (flAt_congr HC.out (hB3.block _ hlt))).mono ?_
            intro e w4 hmade
            rcases hmade with ⟨hall, b', cap', rfl, hb', hlt', hrow, hbel⟩ | ⟨hall, rfl, hbel⟩
            · obtain ⟨cS, fS, zS4⟩ := blkC (blkStay HS3.out hbel)
              have HB := Lib.hid hb'
              clear hb'
              go_wp2
              refine bodyPost_ret (v := .tuple #[fldV X Y W H (.slice (some ⟨b', 0, none⟩) n cap'), .int .i64 0]) (by simp [results, Try.results29, go_sem, cS]) rfl ?_
              have z3 := hB3.size
              have hb' := HB.out
              exact .inr ⟨rfl, .inl ⟨hall, b', cap', rfl, by omega, by rw [set5_size]; exact hlt', flAt_congr hrow (set5_heap w4 _ _ _ _ _ _ _ (by omega)), set5_below (hB3.trans (hbel.mono z3)) _ _ _ _ _ _ (by omega)⟩⟩
            · obtain ⟨cS, fS, zS4⟩ := blkC (blkStay HS3.out hbel)
              go_wp2
              refine bodyPost_ret (v := .tuple #[fldV 0 0 0 0 (.slice none 0 0), .int .i64 3]) (by simp [results, Try.results29, go_sem, cS]) rfl ?_
              have z3 := hB3.size
              exact .inr ⟨rfl, .inr ⟨hall, rfl, set5_below (hB3.trans (hbel.mono z3)) _ _ _ _ _ _ (by omega)⟩⟩
  · have hzb : (fldE 2 (two st sh) != 0) = true := by simp [hz]
    rw [if_neg hz]
    have HZ := Lib.hid hz
    generalize fldE 2 (two st sh) = er at *
    clear hc hn h0 hh hz b1 b2 b3 b4 b5 b6 b7 b8 b9 hnn
    go_enter Try.func29, Try.ntmps29
    go_wp2_with (first | (go_at_call 90; refine (CK.out _ (by repeat (first | exact Below.refl _ _ | refine Below.alloc ?_ (by first | omega | (simp; done) | (simp; omega)) _ | refine Below.setCell ?_ (by first | omega | (simp; done) | (simp; omega)) _ | refine Below.drew ?_))).mono ?_; rintro e w2 ⟨rfl, hb2⟩; have HF2 := Lib.hid (blkStay (b := w.heap.size) (o := fldO X Y W H (.slice (some ⟨b, 0, none⟩) n cap)) (by ((simp only [heap_alloc_get, heap_size_alloc, if_true]) <;> ((repeat' split) <;> first | rfl | omega))) hb2); have HL2 := Lib.hid (blkStay (b := w.heap.size + 1) (o := flObj st) (by ((simp only [heap_alloc_get, heap_size_alloc, if_true]) <;> ((repeat' split) <;> first | rfl | omega))) hb2); have HH2 := Lib.hid (blkStay (b := w.heap.size + 1 + 1) (o := flObj sh) (by ((simp only [heap_alloc_get, heap_size_alloc, if_true]) <;> ((repeat' split) <;> first | rfl | omega))) hb2); have HS2 := Lib.hid (blkStay (b := w.heap.size + 1 + 1 + 1) (o := fldO 0 0 0 0 (.slice none 0 0)) (by ((simp only [heap_alloc_get, heap_size_alloc, if_true]) <;> ((repeat' split) <;> first | rfl | omega))) hb2); have hB2 : Below w.heap.size w w2 := Below.trans (by repeat (first | exact Below.refl _ _ | refine Below.alloc ?_ (by first | omega | (simp; done) | (simp; omega)) _ | refine Below.setCell ?_ (by first | omega | (simp; done) | (simp; omega)) _ | refine Below.drew ?_)) (Below.mono hb2 (by first | omega | (simp; done) | (simp; omega))); obtain ⟨cL, fL, zL⟩ := blkC HL2.out; obtain ⟨cH, fH, zH⟩ := blkC HH2.out; clear hb2) | (go_at_call 88; refine (CS.out _ _ (heap_alloc_new _ _)).mono ?_; rintro e w3 ⟨rfl, hw3⟩; have hb23 : Below w2.heap.size w2 w3 := (by rw [← hw3]; exact (by repeat (first | exact Below.refl _ _ | refine Below.alloc ?_ (by first | omega | (simp; done) | (simp; omega)) _ | refine Below.setCell ?_ (by first | omega | (simp; done) | (simp; omega)) _ | refine Below.drew ?_))); clear hw3 cL fL zL cH fH zH; have HF3 := Lib.hid (blkStay HF2.out hb23); have HL3 := Lib.hid (blkStay HL2.out hb23); have HH3 := Lib.hid (blkStay HH2.out hb23); have HS3 := Lib.hid (blkStay HS2.out hb23); have hB3 := hB2.trans (hb23.mono hB2.size); clear hb23 hB2 HF2 HL2 HH2 HS2; obtain ⟨cF, fF, zF⟩ := blkC HF3.out; obtain ⟨cL, fL, zL⟩ := blkC HL3.out; obtain ⟨cH, fH, zH⟩ := blkC HH3.out; obtain ⟨cS, fS, zS⟩ := blkC HS3.out))
    refine bodyPost_ret (v := .tuple #[fldV 0 0 0 0 (.slice none 0 0), .int .i64 er]) (by simp [results, Try.results29, go_sem, cS]) rfl ?_
    exact .inl ⟨HZ.out, rfl, set5_below hB3 _ _ _ _ _ _ (by omega)⟩
end Go.Proofs.Ytmbiohopcfglcaa

/- Terrace of the reference, of a right field. -/
namespace Go.Proofs.Ytmbiohopcfglcaa
open Go.RowKit Fl
set_option linter.unusedVariables false

theorem al_below (w : World) (o : Obj) : Below w.heap.size w (w.alloc o) := (Below.refl _ _).alloc (Nat.le_refl _) o
theorem ter_lt {v st sh : Nat} (hv : hgtB v = true) (hs : StepOk st) (hsh : ShOk sh) : terW v st sh < 4294967296 := by
  obtain ⟨q, d, c, u, x, y, j, r, T⟩ := ter_parts hv hs hsh
  rw [T.w]; exact T.lt

set_option maxHeartbeats 1000000 in
theorem terraceError_any (st sh : Nat) (hl : st < 4294967296) (hh : sh < 4294967296) (w : World) :
    Calls Try.prog 112 #[.float .f32 st, .float .f32 sh] w fun e w' => e = .returned (.int .i64 (terE st sh)) ∧ Below w.heap.size w w' := by
  have HT := Lib.hid (fun bb W' (hb : W'.heap[bb]? = some (.cells #[.float .f32 st, .float .f32 sh] 22)) => refHeight_row bb 0 2 2 (two st sh) (by omega) W' (flAt_two hb) (two_wf hl hh))
  unfold terE
  by_cases hz : fldE 2 (two st sh) = 0
  · rw [if_pos hz]
    rw [hz] at HT
    clear hz hl hh
    cases c1 : (FloatKind.f32.format.order st 981467136 == some .lt) with
    | true =>
      rw [if_pos (by unfold terB; rw [c1]; rfl)]
      go_enter Try.func112, Try.ntmps112
      go_wp2_with (first | (go_at_call 84; refine (HT.out _ _ (heap_alloc_new _ _)).mono ?_; rintro e w2 ⟨rfl, rfl⟩))
      go_ret
      exact ⟨rfl, (by repeat (first | exact Below.refl _ _ | refine Below.alloc ?_ (by first | omega | (simp; done) | (simp; omega)) _ | refine Below.setCell ?_ (by first | omega | (simp; done) | (simp; omega)) _ | refine Below.drew ?_))⟩
    | false =>
      cases c2 : (FloatKind.f32.format.order st 1149239296 == some .gt) with
      | true =>
        rw [if_pos (by unfold terB; rw [c1, c2]; rfl)]
        go_enter Try.func112, Try.ntmps112
        go_wp2_with (first | (go_at_call 84; refine (HT.out _ _ (heap_alloc_new _ _)).mono ?_; rintro e w2 ⟨rfl, rfl⟩))
        go_ret
        exact ⟨rfl, (by repeat (first | exact Below.refl _ _ | refine Below.alloc ?_ (by first | omega | (simp; done) | (simp; omega)) _ | refine Below.setCell ?_ (by first | omega | (simp; done) | (simp; omega)) _ | refine Below.drew ?_))⟩
      | false =>
        cases c3 : (FloatKind.f32.format.order sh 0 == some .lt) with
        | true =>
          rw [if_pos (by unfold terB; rw [c1, c2, c3]; rfl)]
          go_enter Try.func112, Try.ntmps112
          go_wp2_with (first | (go_at_call 84; refine (HT.out _ _ (heap_alloc_new _ _)).mono ?_; rintro e w2 ⟨rfl, rfl⟩))
          go_ret
          exact ⟨rfl, (by repeat (first | exact Below.refl _ _ | refine Below.alloc ?_ (by first | omega | (simp; done) | (simp; omega)) _ | refine Below.setCell ?_ (by first | omega | (simp; done) | (simp; omega)) _ | refine Below.drew ?_))⟩
        | false =>
          cases c4 : (FloatKind.f32.format.order sh 1065353216 == some .gt || FloatKind.f32.format.order sh 1065353216 == some .eq) with
          | true =>
            rw [if_pos (by unfold terB; rw [c1, c2, c3, c4]; rfl)]
            go_enter Try.func112, Try.ntmps112
            go_wp2_with (first | (go_at_call 84; refine (HT.out _ _ (heap_alloc_new _ _)).mono ?_; rintro e w2 ⟨rfl, rfl⟩))
            go_ret
            exact ⟨rfl, (by repeat (first | exact Below.refl _ _ | refine Below.alloc ?_ (by first | omega | (simp; done) | (simp; omega)) _ | refine Below.setCell ?_ (by first | omega | (simp; done) | (simp; omega)) _ | refine Below.drew ?_))⟩
          | false =>
            rw [if_neg (by unfold terB; rw [c1, c2, c3, c4]; simp)]
            go_enter Try.func112, Try.ntmps112
            go_wp2_with (first | (go_at_call 84; refine (HT.out _ _ (heap_alloc_new _ _)).mono ?_; rintro e w2 ⟨rfl, rfl⟩))
            go_ret
            exact ⟨rfl, (by repeat (first | exact Below.refl _ _ | refine Below.alloc ?_ (by first | omega | (simp; done) | (simp; omega)) _ | refine Below.setCell ?_ (by first | omega | (simp; done) | (simp; omega)) _ | refine Below.drew ?_))⟩
  · rw [if_neg hz]
    have hzb : (fldE 2 (two st sh) != 0) = true := by simp [hz]
    generalize fldE 2 (two st sh) = er at *
    clear hz hl hh
    go_enter Try.func112, Try.ntmps112
    go_wp2_with (first | (go_at_call 84; refine (HT.out _ _ (heap_alloc_new _ _)).mono ?_; rintro e w2 ⟨rfl, rfl⟩))
    go_ret
    exact ⟨rfl, (by repeat (first | exact Below.refl _ _ | refine Below.alloc ?_ (by first | omega | (simp; done) | (simp; omega)) _ | refine Below.setCell ?_ (by first | omega | (simp; done) | (simp; omega)) _ | refine Below.drew ?_))⟩

set_option maxHeartbeats 4000000 in
set_option maxRecDepth 100000 in
theorem rter1_any (X Y : Int) (W H n b cap : Nat) (v : Nat → Nat) (p st sh : Nat) (w : World) (kF : w.heap[p]? = some (fldO X Y W H (.slice (some ⟨b, 0, none⟩) n cap))) (k1 : w.heap[p + 1]? = some (flObj st)) (k2 : w.heap[p + 1 + 1]? = some (flObj sh)) (hc : FlAt w b 0 n v)
    (hh : allB n (fun i => hgtB (v i)) = true) (g1 : StepOk st) (g2 : ShOk sh) (h0 : checkR X Y W H = 0) (hnn : n = H * W) :
    Clos2 113 #[.pointer (some ⟨p, 0, none⟩), .pointer (some ⟨p + 1, 0, none⟩), .pointer (some ⟨p + 1 + 1, 0, none⟩)] X Y W H (fun i => terW (v i) st sh) w := by
  intro x y i w2 h1 h2 h3 h4 h5 hb
  obtain ⟨b1, b2, b3, b4, b5, b6, b7, b8, b9⟩ := checkR_zero h0
  have hn : n ≤ 65536 := by
    have : ((W : Int) * (H : Int)) = (n : Int) := by rw [hnn, Nat.mul_comm]; simp
    omega
  have hi' : i < n := num_lt (by omega) h1 h2 h4 h5 hnn
  have hrow := flAt_congr hc (hb.block b (World.block_lt_of_cell? w _ (hc i hi')))
  have z1 := World.block_lt_of_cell? w2 _ (hrow i hi')
  have AT := Lib.hid (fun W' (hb : Below w2.heap.size w2 W') => refAt_any X Y W H n b cap i v x y W' (by omega) (by omega) (by omega) (by omega) (by omega) (by omega) (by omega) h1 h2 h3 h4 h5 hi' hn (flAt_congr hrow (hb.block _ z1)))
  have SL := Lib.hid (fun w => terraced_any (v i) st sh w (allB_iff.1 hh i hi') g1 g2)
  have GF := Lib.hid (blkStay kF hb)
  have G1 := Lib.hid (blkStay k1 hb)
  have G2 := Lib.hid (blkStay k2 hb)
  obtain ⟨cF, fF, zF⟩ := blkC GF.out
  obtain ⟨c1, f1, z2⟩ := blkC G1.out
  obtain ⟨c2, f2, z3⟩ := blkC G2.out
  show Calls _ _ _ _ fun e w' => e = .returned (.float .f32 (terW (v i) st sh)) ∧ _
  generalize terW (v i) st sh = r at *
  clear hb h1 h2 h3 h4 h5 b1 b2 b3 b4 b5 b6 b7 b8 b9 hnn hh h0 hi' hn hrow kF k1 k2 hc
  go_enter Try.func113, Try.ntmps113
  go_wp2
  go_region_held3 (fun w' => (∀ o, w'.cell? ⟨p, o, none⟩ = #[.int .i64 X, .int .i64 Y, .int .i64 W, .int .i64 H, .slice (some ⟨b, 0, none⟩) n cap][o]?) ∧ (∀ o, w'.cell? ⟨p + 1, o, none⟩ = #[.float .f32 st][o]?) ∧ (∀ o, w'.cell? ⟨p + 1 + 1, o, none⟩ = #[.float .f32 sh][o]?) ∧ Below w2.heap.size w2 w') (first | exact ⟨(blkC (blkStay GF.out (by repeat (first | exact Below.refl _ _ | refine Below.alloc ?_ (by first | omega | (simp; done) | (simp; omega)) _ | refine Below.setCell ?_ (by first | omega | (simp; done) | (simp; omega)) _ | refine Below.drew ?_)))).1, (blkC (blkStay G1.out (by repeat (first | exact Below.refl _ _ | refine Below.alloc ?_ (by first | omega | (simp; done) | (simp; omega)) _ | refine Below.setCell ?_ (by first | omega | (simp; done) | (simp; omega)) _ | refine Below.drew ?_)))).1, (blkC (blkStay G2.out (by repeat (first | exact Below.refl _ _ | refine Below.alloc ?_ (by first | omega | (simp; done) | (simp; omega)) _ | refine Below.setCell ?_ (by first | omega | (simp; done) | (simp; omega)) _ | refine Below.drew ?_)))).1, (by repeat (first | exact Below.refl _ _ | refine Below.alloc ?_ (by first | omega | (simp; done) | (simp; omega)) _ | refine Below.setCell ?_ (by first | omega | (simp; done) | (simp; omega)) _ | refine Below.drew ?_))⟩) (first | (go_at_call 96; (with_reducible refine Calls.mono (AT.out _ ?_) ?_); exact (by repeat (first | exact Below.refl _ _ | refine Below.alloc ?_ (by first | omega | (simp; done) | (simp; omega)) _ | refine Below.setCell ?_ (by first | omega | (simp; done) | (simp; omega)) _ | refine Below.drew ?_)); rintro e w' ⟨rfl, rfl⟩) | (go_at_call 114; refine (SL.out _).mono ?_; rintro e w' ⟨rfl, rfl⟩))
  rename_i wh hHeld
  go_wp2
  go_ret
  exact ⟨rfl, hHeld.2.2.2⟩

set_option maxHeartbeats 2000000 in
theorem rterrace_any (X Y : Int) (W H n b cap : Nat) (v : Nat → Nat) (st sh : Nat) (w : World) (h0 : checkR X Y W H = 0) (hn : n = W * H) (hc : FlAt w b 0 n v) (hh : allB n (fun i => hgtB (v i)) = true) (hl' : st < 4294967296) (hh' : sh < 4294967296) :
    Calls Try.prog 30 #[fldV X Y W H (.slice (some ⟨b, 0, none⟩) n cap), .float .f32 st, .float .f32 sh] w (ScPost w X Y W H n (fun i => terW (v i) st sh) (terE st sh)) := by
  obtain ⟨b1, b2, b3, b4, b5, b6, b7, b8, b9⟩ := checkR_zero h0
  have hnn : n = H * W := by rw [hn]; exact Nat.mul_comm _ _
  have h1 : 1 ≤ n := by rw [hn]; exact Nat.mul_pos (by omega) (by omega)
  have hlt : b < w.heap.size := World.block_lt_of_cell? w _ (hc 0 h1)
  have SE := Lib.hid (fun w => terraceError_any st sh hl' hh' w)
  by_cases hz : terE st sh = 0
  · have hz2 : fldE 2 (two st sh) = 0 := by
      unfold terE at hz
      by_cases q : fldE 2 (two st sh) = 0
      · exact q
      · rw [if_neg q] at hz; exact hz
    obtain ⟨k1, k2⟩ := two_hgt hz2
    have hzB : terB st sh = false := by
      unfold terE at hz
      rw [if_pos hz2] at hz
      cases q : terB st sh with
      | false => rfl
      | true => rw [q, if_pos rfl] at hz; cases hz
    unfold terB at hzB
    simp only [Bool.or_eq_false_iff] at hzB
    obtain ⟨c1, c2, c3, c4, c5⟩ := hzB
    obtain ⟨g1, g2⟩ := ter_ok k1 k2 c1 c2 c3 (by rw [c4, c5]; rfl)
    clear k1 k2 c1 c2 c3 c4 c5
    have BY := Lib.hid (fun W' p (kF : W'.heap[p]? = some (fldO X Y W H (.slice (some ⟨b, 0, none⟩) n cap))) (k1 : W'.heap[p + 1]? = some (flObj st)) (k2 : W'.heap[p + 1 + 1]? = some (flObj sh)) (hc' : FlAt W' b 0 n v) =>
      made_any X Y W H n 113 #[.pointer (some ⟨p, 0, none⟩), .pointer (some ⟨p + 1, 0, none⟩), .pointer (some ⟨p + 1 + 1, 0, none⟩)] (fun i => terW (v i) st sh) W' enters_rTerrace1
        (rter1_any X Y W H n b cap v p st sh W' kF k1 k2 hc' hh g1 g2 h0 hnn) (fun i hi' => ter_lt (allB_iff.1 hh i hi') g1 g2) (by omega) (by omega) (by omega) (by omega) (by omega) (by omega) (by omega) (by omega) hnn)
    rw [hz] at SE ⊢
    have HC := Lib.hid hc
    clear hc hn h0 hh hz hz2 b1 b2 b3 b4 b5 b6 b7 b8 b9 hnn g1 g2 hl' hh'
    go_enter Try.func30, Try.ntmps30
    go_wp2_with (first | (go_at_call 112; refine (SE.out _).mono ?_; rintro e w2 ⟨rfl, hb2⟩; have HF2 := Lib.hid (blkStay (b := w.heap.size) (o := fldO X Y W H (.slice (some ⟨b, 0, none⟩) n cap)) (by ((simp only [heap_alloc_get, heap_size_alloc, if_true]) <;> ((repeat' split) <;> first | rfl | omega))) hb2); have HL2 := Lib.hid (blkStay (b := w.heap.size + 1) (o := flObj st) (by ((simp only [heap_alloc_get, heap_size_alloc, if_true]) <;> ((repeat' split) <;> first | rfl | omega))) hb2); have HH2 := Lib.hid (blkStay (b := w.heap.size + 1 + 1) (o := flObj sh) (by ((simp only [heap_alloc_get, heap_size_alloc, if_true]) <;> ((repeat' split) <;> first | rfl | omega))) hb2); have HS2 := Lib.hid (blkStay (b := w.heap.size + 1 + 1 + 1) (o := fldO 0 0 0 0 (.slice none 0 0)) (by ((simp only [heap_alloc_get, heap_size_alloc, if_true]) <;> ((repeat' split) <;> first | rfl | omega))) hb2); have hB2 : Below w.heap.size w w2 := Below.trans (by repeat (first | exact Below.refl _ _ | refine Below.alloc ?_ (by first | omega | (simp; done) | (simp; omega)) _ | refine Below.setCell ?_ (by first | omega | (simp; done) | (simp; omega)) _ | refine Below.drew ?_)) (Below.mono hb2 (by first | omega | (simp; done) | (simp; omega))); obtain ⟨cF, fF, zF⟩ := blkC HF2.out; clear hb2))
    refine (BY.out _ w.heap.size HF2.out HL2.out HH2.out (flAt_congr HC.out (hB2.block _ hlt))).mono ?_
    intro e w4 hmade
    clear cF fF zF
    rcases hmade with ⟨hall, b', cap', rfl, hb', hlt', hrow, hbel⟩ | ⟨hall, rfl, hbel⟩
    · obtain ⟨cS, fS, zS4⟩ := blkC (blkStay HS2.out hbel)
      have zS2 := (blkC HS2.out).2.2
      have HB := Lib.hid hb'
      clear hb'
      go_wp2
      refine bodyPost_ret (v := .tuple #[fldV X Y W H (.slice (some ⟨b', 0, none⟩) n cap'), .int .i64 0]) (by simp [results, Try.results30, go_sem, cS]) rfl ?_
      have z2 := hB2.size
      have hb' := HB.out
      exact .inr ⟨rfl, .inl ⟨hall, b', cap', rfl, by omega, by rw [set5_size]; exact hlt', flAt_congr hrow (set5_heap w4 _ _ _ _ _ _ _ (by omega)), set5_below (hB2.trans (hbel.mono z2)) _ _ _ _ _ _ (by omega)⟩⟩
    · obtain ⟨cS, fS, zS4⟩ := blkC (blkStay HS2.out hbel)
      go_wp2
      refine bodyPost_ret (v := .tuple #[fldV 0 0 0 0 (.slice none 0 0), .int .i64 3]) (by simp [results, Try.results30, go_sem, cS]) rfl ?_
      have z2 := hB2.size
      exact .inr ⟨rfl, .inr ⟨hall, rfl, set5_below (hB2.trans (hbel.mono z2)) _ _ _ _ _ _ (by omega)⟩⟩
  · have hzb : (terE st sh != 0) = true := by simp [hz]
    have HZ := Lib.hid hz
    generalize terE st sh = er at *
    clear hc hn h0 hh hz b1 b2 b3 b4 b5 b6 b7 b8 b9 hnn hl' hh'
    go_enter Try.func30, Try.ntmps30
    go_wp2_with (first | (go_at_call 112; refine (SE.out _).mono ?_; rintro e w2 ⟨rfl, hb2⟩; have HS2 := Lib.hid (blkStay (b := w.heap.size + 1 + 1 + 1) (o := fldO 0 0 0 0 (.slice none 0 0)) (by ((simp only [heap_alloc_get, heap_size_alloc, if_true]) <;> ((repeat' split) <;> first | rfl | omega))) hb2); have hB2 : Below w.heap.size w w2 := Below.trans (by repeat (first | exact Below.refl _ _ | refine Below.alloc ?_ (by first | omega | (simp; done) | (simp; omega)) _ | refine Below.setCell ?_ (by first | omega | (simp; done) | (simp; omega)) _ | refine Below.drew ?_)) (Below.mono hb2 (by first | omega | (simp; done) | (simp; omega))); obtain ⟨cS, fS, zS⟩ := blkC HS2.out; clear hb2))
    refine bodyPost_ret (v := .tuple #[fldV 0 0 0 0 (.slice none 0 0), .int .i64 er]) (by simp [results, Try.results30, go_sem, cS]) rfl ?_
    exact .inl ⟨HZ.out, rfl, set5_below hB2 _ _ _ _ _ _ (by omega)⟩
end Go.Proofs.Ytmbiohopcfglcaa

/- Contracts of the regions' functions, continued: the reference's Grow; Common, Inside. -/
namespace Go.Proofs.Ytmbiohopcfglcaa
open Go.RowKit

set_option maxHeartbeats 1000000 in
theorem landed_any (w : World) : Calls Try.prog 14 #[] w fun e w' => e = .returned (.bool true) ∧ Below w.heap.size w w' := by
  go_enter Try.func14, Try.ntmps14
  go_wp2
  go_ret
  exact ⟨rfl, (by repeat (first | exact Below.refl _ _ | refine Below.alloc ?_ (by first | omega | (simp; done) | (simp; omega)) _ | refine Below.setCell ?_ (by first | omega | (simp; done) | (simp; omega)) _ | refine Below.drew ?_))⟩

def insideB (x y w h x' y' w' h' : Int) : Bool := decide (x' ≤ x) && decide (y' ≤ y) && decide (x + w ≤ x' + w') && decide (y + h ≤ y' + h')
theorem insideB_iff {x y w h x' y' w' h' : Int} : insideB x y w h x' y' w' h' = true ↔ x' ≤ x ∧ y' ≤ y ∧ x + w ≤ x' + w' ∧ y + h ≤ y' + h' := by simp [insideB]; omega

end Go.Proofs.Ytmbiohopcfglcaa

/- SelectsMatch: Select and Terrace answer as the references do, for every field that fit makes, and any three singles. -/
namespace Go.Proofs.Ytmbiohopcfglcaa
open Go.RowKit Fl
set_option linter.unusedVariables false

set_option maxHeartbeats 4000000 in
theorem selectsMatch_any (X0 Y0 W0 H0 : Int) (sl : Value) (lo hi so : Nat) (w : World) (hm : lo < 4294967296) (hc : hi < 4294967296) (hso : so < 4294967296)
    (hfit : ∀ W', Below w.heap.size w W' → Calls Try.prog 19 #[fldV X0 Y0 W0 H0 sl] W' (FitPost W')) :
    Calls Try.prog 4 #[fldV X0 Y0 W0 H0 sl, .float .f32 lo, .float .f32 hi, .float .f32 so] w fun e w' => e = .returned (.bool true) ∧ Below w.heap.size w w' := by
  have HF := Lib.hid hfit
  clear hfit
  go_enter Try.func4, Try.ntmps4
  go_wp2_with (first | (go_at_call 14; refine (landed_any _).mono ?_; rintro e w1 ⟨rfl, hb1⟩; have HA1 := Lib.hid (blkStay (b := w.heap.size) (o := fldO X0 Y0 W0 H0 sl) (heap_alloc_new w _) hb1); have hB1 : Below w.heap.size w w1 := Below.trans (by repeat (first | exact Below.refl _ _ | refine Below.alloc ?_ (by first | omega | (simp; done) | (simp; omega)) _ | refine Below.setCell ?_ (by first | omega | (simp; done) | (simp; omega)) _ | refine Below.drew ?_)) (Below.mono hb1 (by first | omega | (simp; done) | (simp; omega))); obtain ⟨cA, fA, zA⟩ := blkC HA1.out; clear hb1))
  refine (HF.out w1 hB1).mono ?_
  rintro e w2 ⟨X, Y, W', H', b, n, rfl, x1, x2, y1, y2, u1, u2, h1, h2, hn, hn1, hn2, hlo, hrow, hb2⟩
  obtain ⟨W, rfl⟩ : ∃ W : Nat, W' = W := ⟨W'.toNat, by omega⟩
  obtain ⟨H, rfl⟩ : ∃ H : Nat, H' = H := ⟨H'.toNat, by omega⟩
  obtain ⟨v, fv, wv, hv, bv⟩ := fit_fn hrow
  have h0 := fit_check x1 x2 y1 y2 u1 u2 h1 h2 hn hn2
  have hnn : n = W * H := by
    have : (n : Int) = ((W * H : Nat) : Int) := by rw [hn]; simp
    omega
  have HA2 := Lib.hid (blkStay HA1.out hb2)
  have hB2 : Below w.heap.size w w2 := hB1.trans (hb2.mono hB1.size)
  obtain ⟨cA, fA, zA⟩ := blkC HA2.out
  have S1 := Lib.hid (fun W' (hf : FlAt W' b 0 n v) => select_any X Y W H n b n v lo hi so W' h0 hnn hf hv)
  have S2 := Lib.hid (fun W' (hf : FlAt W' b 0 n v) => rselect_any X Y W H n b n v lo hi so W' h0 hnn hf hv hm hc hso)
  have C1 := Lib.hid (fun W' (hf : FlAt W' b 0 n v) => terrace_any X Y W H n b n v lo hi W' h0 hnn hf hv)
  have C2 := Lib.hid (fun W' (hf : FlAt W' b 0 n v) => rterrace_any X Y W H n b n v lo hi W' h0 hnn hf hv hm hc)
  clear x1 x2 y1 y2 u1 u2 h1 h2 hn h0 hnn hrow hv wv
  have hbp : b ≠ w.heap.size := by have := hB1.size; omega
  have HA3 := Lib.hid (set5_self (.int .i64 X) (.int .i64 Y) (.int .i64 W) (.int .i64 H) (.slice (some ⟨b, 0, none⟩) n n) HA2.out)
  have F3 := Lib.hid (flAt_congr fv (set5_heap w2 w.heap.size b (.int .i64 X) (.int .i64 Y) (.int .i64 W) (.int .i64 H) (.slice (some ⟨b, 0, none⟩) n n) hbp))
  have hB3 := set5_below hB2 w.heap.size (.int .i64 X) (.int .i64 Y) (.int .i64 W) (.int .i64 H) (.slice (some ⟨b, 0, none⟩) n n) (Nat.le_refl _)
  clear hb2
  go_wp2_with fail
  refine (S1.out _ F3.out).mono ?_
  intro e w4 hp
  obtain ⟨x1, y1, u1, h1, p1, l1, q1, k1, rfl, r1, hb4⟩ := made_res hp
  have hx := set5_size w2 w.heap.size (.int .i64 X) (.int .i64 Y) (.int .i64 W) (.int .i64 H) (.slice (some ⟨b, 0, none⟩) n n)
  have F4 := Lib.hid (flAt_congr F3.out (hb4.block b (by rw [hx]; exact bv)))
  have HA4 := Lib.hid (blkStay HA3.out hb4)
  have hB4 := hB3.trans (hb4.mono hB3.size)
  have bv4 : b < w4.heap.size := by have := hb4.size; rw [hx] at this; omega
  clear hp
  rw [hx] at r1
  clear hb4 HA3 F3 hB3 hx cA fA zA HA2 hB2 hlo fv bv
  obtain ⟨cA, fA, zA⟩ := blkC HA4.out
  -- the reference's Select
  have hb5 := al_below w4 (fldO x1 y1 u1 h1 (.slice p1 l1 q1))
  have F5 := Lib.hid (flAt_congr F4.out (heap_alloc_old w4 (fldO x1 y1 u1 h1 (.slice p1 l1 q1)) bv4))
  have HA5 := Lib.hid ((heap_alloc_old w4 (fldO x1 y1 u1 h1 (.slice p1 l1 q1)) zA).trans HA4.out)
  have HQ5 := Lib.hid (heap_alloc_new w4 (fldO x1 y1 u1 h1 (.slice p1 l1 q1)))
  have R5 := Lib.hid (r1.stay hb5)
  go_wp2_with fail
  refine (S2.out _ F5.out).mono ?_
  intro e w6 hp
  obtain ⟨x2, y2, u2, h2, p2, l2, q2, k2, rfl, r2, hb6⟩ := made_res hp
  have hb46 := hb5.trans (hb6.mono hb5.size)
  have F6 := Lib.hid (flAt_congr F5.out (hb6.block b (by have := hb5.size; omega)))
  have HA6 := Lib.hid (blkStay HA5.out hb6)
  have HQ6 := Lib.hid (blkStay HQ5.out hb6)
  have R6 := Lib.hid (R5.out.stay hb6)
  have hB6 := hB4.trans (hb46.mono hB4.size)
  have bv6 : b < w6.heap.size := by have := hb46.size; omega
  clear r1 R5 HQ5 HA5 F5 hb5 hb46 hp F4 HA4 hb6 cA fA
  obtain ⟨cA, fA, zA6⟩ := blkC HA6.out
  obtain ⟨cQ, fQ, zQ6⟩ := blkC HQ6.out
  -- same
  have hb7 := al_below w6 (fldO x2 y2 u2 h2 (.slice p2 l2 q2))
  have F7 := Lib.hid (flAt_congr F6.out (heap_alloc_old w6 (fldO x2 y2 u2 h2 (.slice p2 l2 q2)) bv6))
  have HA7 := Lib.hid ((heap_alloc_old w6 (fldO x2 y2 u2 h2 (.slice p2 l2 q2)) zA6).trans HA6.out)
  have HQ7 := Lib.hid ((heap_alloc_old w6 (fldO x2 y2 u2 h2 (.slice p2 l2 q2)) zQ6).trans HQ6.out)
  have HR7 := Lib.hid (heap_alloc_new w6 (fldO x2 y2 u2 h2 (.slice p2 l2 q2)))
  have R7 := Lib.hid (R6.out.stay hb7)
  have T7 := Lib.hid (r2.stay hb7)
  go_wp2_with fail
  refine (same_res hn1 (by omega) R7.out T7.out).mono ?_
  rintro e w8 ⟨rfl, hb8⟩
  have hb68 := hb7.trans (hb8.mono hb7.size)
  have F8 := Lib.hid (flAt_congr F7.out (hb8.block b (by have := hb7.size; omega)))
  have HA8 := Lib.hid (blkStay HA7.out hb8)
  have HQ8 := Lib.hid (blkStay HQ7.out hb8)
  have HR8 := Lib.hid (blkStay HR7.out hb8)
  have hB8 := hB6.trans (hb68.mono hB6.size)
  have bv8 : b < w8.heap.size := by have := hb68.size; omega
  clear R6 r2 R7 T7 HR7 HQ7 HA7 F7 hb7 hb8 hb68 HQ6 HA6 F6 cA fA cQ fQ
  obtain ⟨cA, fA, zA8⟩ := blkC HA8.out
  obtain ⟨cQ, fQ, zQ8⟩ := blkC HQ8.out
  obtain ⟨cR, fR, zR8⟩ := blkC HR8.out
  go_wp2_with fail
  refine (C1.out _ F8.out).mono ?_
  intro e w9 hp
  obtain ⟨x3, y3, u3, h3, p3, l3, q3, k3, rfl, r3, hb9⟩ := made_res hp
  have F9 := Lib.hid (flAt_congr F8.out (hb9.block b bv8))
  have HA9 := Lib.hid (blkStay HA8.out hb9)
  have HQ9 := Lib.hid (blkStay HQ8.out hb9)
  have HR9 := Lib.hid (blkStay HR8.out hb9)
  have hB9 := hB8.trans (hb9.mono hB8.size)
  have bv9 : b < w9.heap.size := by have := hb9.size; omega
  clear cA fA cQ fQ cR fR hp F8 HA8 HQ8 HR8
  obtain ⟨cA, fA, zA9⟩ := blkC HA9.out
  obtain ⟨cQ, fQ, zQ9⟩ := blkC HQ9.out
  obtain ⟨cR, fR, zR9⟩ := blkC HR9.out
  -- the reference's Terrace
  have hx := set5_size w9 w4.heap.size (.int .i64 x3) (.int .i64 y3) (.int .i64 u3) (.int .i64 h3) (.slice p3 l3 q3)
  have F10 := Lib.hid (flAt_congr F9.out (set5_heap w9 w4.heap.size b (.int .i64 x3) (.int .i64 y3) (.int .i64 u3) (.int .i64 h3) (.slice p3 l3 q3) (by omega)))
  have HQ10 := Lib.hid (set5_self (.int .i64 x3) (.int .i64 y3) (.int .i64 u3) (.int .i64 h3) (.slice p3 l3 q3) HQ9.out)
  have HR10 := Lib.hid ((set5_heap w9 w4.heap.size w6.heap.size (.int .i64 x3) (.int .i64 y3) (.int .i64 u3) (.int .i64 h3) (.slice p3 l3 q3) (by omega)).trans HR9.out)
  have R10 := Lib.hid (r3.heap (w' := set5 w9 w4.heap.size (.int .i64 x3) (.int .i64 y3) (.int .i64 u3) (.int .i64 h3) (.slice p3 l3 q3)) (p := w4.heap.size) (by rw [hx]; exact Nat.le_refl _) (by omega) (fun k hk _ => set5_heap w9 w4.heap.size k (.int .i64 x3) (.int .i64 y3) (.int .i64 u3) (.int .i64 h3) (.slice p3 l3 q3) hk))
  have hB10 := set5_below hB9 w4.heap.size (.int .i64 x3) (.int .i64 y3) (.int .i64 u3) (.int .i64 h3) (.slice p3 l3 q3) (by omega)
  go_wp2_with fail
  refine (C2.out _ F10.out).mono ?_
  intro e w11 hp
  obtain ⟨x4, y4, u4, h4, p4, l4, q4, k4, rfl, r4, hb11⟩ := made_res hp
  rw [hx] at r4
  have HQ11 := Lib.hid (blkStay HQ10.out hb11)
  have HR11 := Lib.hid (blkStay HR10.out hb11)
  have R11 := Lib.hid (R10.out.stay hb11)
  have hB11 := hB10.trans (hb11.mono hB10.size)
  have z11 : w9.heap.size ≤ w11.heap.size := by have := hb11.size; rw [hx] at this; exact this
  have z98 := hb9.size
  clear cA fA cQ fQ cR fR hp F10 HQ10 HR10 R10 r3 hb11 hb9
  obtain ⟨cQ, fQ, zQ11⟩ := blkC HQ11.out
  obtain ⟨cR, fR, zR11⟩ := blkC HR11.out
  have hx2 := set5_size w11 w6.heap.size (.int .i64 x4) (.int .i64 y4) (.int .i64 u4) (.int .i64 h4) (.slice p4 l4 q4)
  have R12 := Lib.hid (R11.out.heap (w' := set5 w11 w6.heap.size (.int .i64 x4) (.int .i64 y4) (.int .i64 u4) (.int .i64 h4) (.slice p4 l4 q4)) (p := w6.heap.size) (by rw [hx2]; exact Nat.le_refl _) (by omega) (fun k hk _ => set5_heap w11 w6.heap.size k (.int .i64 x4) (.int .i64 y4) (.int .i64 u4) (.int .i64 h4) (.slice p4 l4 q4) hk))
  have T12 := Lib.hid (r4.heap (w' := set5 w11 w6.heap.size (.int .i64 x4) (.int .i64 y4) (.int .i64 u4) (.int .i64 h4) (.slice p4 l4 q4)) (p := w6.heap.size) (by rw [hx2]; exact Nat.le_refl _) (by omega) (fun k hk _ => set5_heap w11 w6.heap.size k (.int .i64 x4) (.int .i64 y4) (.int .i64 u4) (.int .i64 h4) (.slice p4 l4 q4) hk))
  have hB12 := set5_below hB11 w6.heap.size (.int .i64 x4) (.int .i64 y4) (.int .i64 u4) (.int .i64 h4) (.slice p4 l4 q4) (by omega)
  go_wp2_with fail
  refine (same_res hn1 (by omega) R12.out T12.out).mono ?_
  rintro e w13 ⟨rfl, hb13⟩
  have hB13 := hB12.trans (hb13.mono hB12.size)
  clear hb13 hB12
  go_wp2
  go_ret
  exact ⟨rfl, hB13⟩

end Go.Proofs.Ytmbiohopcfglcaa

/- A field that came in, opened: four integers, and a slice of singles that is empty or known cell by cell. -/
namespace Go.Proofs.Ytmbiohopcfglcaa
open Go.ChangeShapes Go.WideShapes Go.ChangeAt Go.RowKit Go.Joins Fl

section
variable {H : Type} {enc : TypeId × Value → H} {w : World} {base : Nat} {spare : Nat → Bool} {held : Bool}

theorem trod_f32 {P : Program} {t : TypeId} {fuel : Nat} {v : Value} {y : DataW H × List MemPlace} (ht : P.underlying t = some (.float .f32)) (h : DataW.trod enc P w base spare held fuel t [v] = some y) : ∃ b, v = .float .f32 b ∧ b < 4294967296 := by
  cases fuel with
  | zero => simp [DataW.trod] at h
  | succ n =>
    unfold DataW.trod at h
    rw [ht] at h
    cases v <;> simp at h
    rename_i k b
    obtain ⟨⟨rfl, hw⟩, _⟩ := h
    exact ⟨b, rfl, by simpa [Lit.wf] using hw⟩

theorem array5 {α : Type} {cs : Array α} (h : cs.size = 5) : ∃ c0 c1 c2 c3 c4, cs = #[c0, c1, c2, c3, c4] := by
  obtain ⟨l⟩ := cs
  match l, h with
  | [c0, c1, c2, c3, c4], _ => exact ⟨c0, c1, c2, c3, c4, rfl⟩

theorem flAt_congr' {w w' : World} {b off n : Nat} {f : Nat → Nat} (h : FlAt w b off n f) (e : w'.heap[b]? = w.heap[b]?) : FlAt w' b off n f := fun i hi => by
  rw [← h i hi]; exact World.cell?_of_block (w := w) (a := ⟨b, off + i, none⟩) e

/-- What a slice of singles is: empty, or known cell by cell. -/
def SlF (w : World) (s : Value) : Prop :=
  (∃ a cap, s = .slice a 0 cap) ∨ ∃ b off len cap x, s = .slice (some ⟨b, off, none⟩) len cap ∧ 0 < len ∧ len ≤ 9223372036854775807 ∧ FlAt w b off len x ∧ wf32 len x

theorem open_singles {t e : TypeId} {fuel : Nat} {cs : List Value} {y : DataW H × List MemPlace} (ht : Try.prog.underlying t = some (.slice e)) (he : Try.prog.underlying e = some (.float .f32)) (hc : Try.prog.cellsOf e = 1)
    (h : DataW.trod enc Try.prog w base spare held fuel t cs = some y) : ∃ s, cs = [s] ∧ SlF w s := by
  rcases Go.Deep.open_slice1 ht hc h with ⟨rfl, _⟩ | ⟨a, len, cap, m, n, V, D, Pl, rfl, hb, hl, hm, hmm, _, hx⟩
  · exact ⟨_, rfl, .inl ⟨none, 0, rfl⟩⟩
  · refine ⟨_, rfl, ?_⟩
    rcases Nat.eq_zero_or_pos len with z | z
    · subst z; exact .inl ⟨_, _, rfl⟩
    · have hlm : len ≤ m := by rw [hmm]; split <;> omega
      have h0 := (hx 0 (by omega)).1
      obtain ⟨b, off, spot⟩ := a
      have hspot : spot = none := by simpa [Addr.add] using World.cell?_spot h0
      subst hspot
      have hv : ∀ i, i < len → ∃ x, V i = .float .f32 x ∧ x < 4294967296 := fun i hi => trod_f32 he (hx i (by omega)).2
      refine .inr ⟨b, off, len, cap, fun i => match V i with | .float _ x => x | _ => 0, rfl, z, ?_, fun i hi => ?_, fun i hi => ?_⟩
      · exact Nat.le_trans hl (Nat.le_trans hm (by decide))
      · have h1 := (hx i (by omega)).1
        obtain ⟨x, e1, _⟩ := hv i hi
        rw [← Go.WideShapes.add_plain, h1]
        simp only [e1]
      · obtain ⟨x, e1, e2⟩ := hv i hi
        simp only [e1]; exact e2

theorem cellsF : Try.prog.cellsOf 29 = 5 := by kernel_rfl
theorem cellsR : Try.prog.cellsOf 26 = 4 := by kernel_rfl
theorem cellsS : Try.prog.cellsOf 27 = 1 := by kernel_rfl
theorem cells1 : Try.prog.cellsOf 22 = 1 := by kernel_rfl
theorem cellsI : Try.prog.cellsOf 3 = 1 := by kernel_rfl

set_option maxRecDepth 100000 in
theorem open_field {r : Reach} {b0 : Nat} {v : Value} {d : DataW H} {p : List MemPlace} (hv : Value.okWide Try.prog w r b0 29 v) (h : DataW.Trod enc Try.prog w base spare held 29 v d p) :
    ∃ X Y W' H' : Int, ∃ s, v = fldV X Y W' H' s ∧ SlF w s := by
  obtain ⟨cs, rfl, hsz⟩ := okWide_struct Try.underlying29 hv
  obtain ⟨c0, c1, c2, c3, c4, rfl⟩ := array5 (hsz.trans cellsF)
  obtain ⟨fuel, hf⟩ := h
  obtain ⟨y0, y1, n, _, _, h0, h1⟩ := trod_struct2 Try.underlying29 hf
  rw [cellsR] at h0
  rw [cellsS] at h1
  obtain ⟨s, e4, hs⟩ := open_singles Try.underlying27 Try.underlying22 cells1 h1
  obtain ⟨z0, z1, z2, z3, n2, _, _, g0, g1, g2, g3⟩ := trod_struct4 Try.underlying26 h0
  rw [cellsI] at g0 g1 g2 g3
  obtain ⟨x0, e0, _, _⟩ := DataW.trod_int Try.underlying3 g0
  obtain ⟨x1, e1, _, _⟩ := DataW.trod_int Try.underlying3 g1
  obtain ⟨x2, e2, _, _⟩ := DataW.trod_int Try.underlying3 g2
  obtain ⟨x3, e3, _, _⟩ := DataW.trod_int Try.underlying3 g3
  simp [Value.cells] at e0 e1 e2 e3 e4
  subst e0 e1 e2 e3 e4
  exact ⟨x0, x1, x2, x3, _, rfl, hs⟩
end

theorem SlF.stay {w w' : World} {s : Value} (h : SlF w s) (hb : Below w.heap.size w w') : SlF w' s := by
  rcases h with h | ⟨b, off, len, cap, x, rfl, h1, h2, h3, h4⟩
  · exact .inl h
  · exact .inr ⟨b, off, len, cap, x, rfl, h1, h2, flAt_congr' h3 (hb.block _ (World.block_lt_of_cell? w _ (h3 0 h1))), h4⟩

/-- fit, of whatever slice. -/
theorem fit_any {X Y W H : Int} {s : Value} {w : World} (h : SlF w s) : Calls Try.prog 19 #[fldV X Y W H s] w (FitPost w) := by
  rcases h with ⟨a, cap, rfl⟩ | ⟨b, off, len, cap, x, rfl, h1, h2, h3, h4⟩
  · exact fit_none X Y W H a cap w
  · exact fit_some X Y W H b off len cap x w h1 h2 h3 h4

theorem laidOut : laidOutB Try.prog = true := by kernel_rfl
end Go.Proofs.Ytmbiohopcfglcaa

/- SelectsMatch, for every field and every three singles: what Select and Terrace answer is what the references answer, bit by bit. No condition. -/
namespace Go.Proofs.Ytmbiohopcfglcaa.selectsMatch
open Go.ChangeShapes Go.WideShapes Go.ChangeAt Go.RowKit Go.Joins
set_option linter.unusedVariables false

theorem own : ownKnob Try.prog.godebug = none := by kernel_rfl

set_option maxRecDepth 100000 in
theorem lifted (os : Os) (started : os.Started) (H : Type) (enc : TypeId × Value → H) :
    ReturnsInHanded {} Try.checked os 4 .any (Rows.selectsMatchSpec.pre6 enc Try.prog Try.f4 Rows.selectsMatchRow.domain false) (Rows.selectsMatchSpec.post enc Try.prog Try.f4 false true false false) := by
  refine returnsInHanded_of_change (C := Try.checked) own started (by kernel_rfl) Try.func4
    (ChangeSpec.witness6 (enc := enc) (C := Try.checked) false ⟨#[], #[fldV 0 0 0 0 (.slice none 0 0), .float .f32 0, .float .f32 0, .float .f32 0], []⟩ 8 (by kernel_rfl) (by kernel_rfl) (by kernel_rfl) (by kernel_rfl)) ?_
  intro W base args ds gs before hval0 hW hcnd _
  have hval : ∀ (j : Nat) t v, Try.f4.params[j]? = some t → args[j]? = some v → Value.okWide Try.prog W .any base t v := hval0
  have hW' := hW
  have hplt : ∀ x ∈ before, x.block < W.heap.size := fun x hx => by simpa using hW'.lt x hx
  obtain ⟨p, q, hA0, hV, rfl, hfz, hnd⟩ := hW
  have hA : DataW.TrodAll enc Try.prog W 0 (fun _ => true) true Try.f4.params.toList args.toList ds p := hA0
  rw [Try.params4] at hA hval
  obtain ⟨v0, vs0, d0, ds0, p0, q0, hargs, rfl, rfl, h0, r0⟩ := trodAll_cons hA
  obtain ⟨v1, vs1, d1, ds1, p1, q1, rfl, rfl, rfl, h1, r1⟩ := trodAll_cons r0
  obtain ⟨v2, vs2, d2, ds2, p2, q2, rfl, rfl, rfl, h2, r2⟩ := trodAll_cons r1
  obtain ⟨v3, vs3, d3, ds3, p3, q3, rfl, rfl, rfl, h3, r3⟩ := trodAll_cons r2
  obtain ⟨rfl, rfl, rfl⟩ := trodAll_nil r3
  obtain rfl : args = #[v0, v1, v2, v3] := by cases args; simp_all
  obtain ⟨rfl, rfl⟩ := trodVars_none hV
  obtain ⟨X, Y, W0, H0, s, rfl, hs⟩ := open_field (hval 0 29 v0 rfl rfl) h0
  obtain ⟨m, rfl, rfl, rfl, wm⟩ := open_float Try.underlying22 (hval 1 22 v1 rfl rfl) h1
  obtain ⟨c, rfl, rfl, rfl, wc⟩ := open_float Try.underlying22 (hval 2 22 v2 rfl rfl) h2
  obtain ⟨so, rfl, rfl, rfl, ws⟩ := open_float Try.underlying22 (hval 3 22 v3 rfl rfl) h3
  have lso : so < 4294967296 := by simpa [Lit.wf] using ws
  have lm : m < 4294967296 := by simpa [Lit.wf] using wm
  have lc : c < 4294967296 := by simpa [Lit.wf] using wc
  have hlt : ∀ x ∈ p0, x.block < W.heap.size := fun x hx => hplt x (by simp [hx])
  clear hA0 hval0 hplt
  simp only [List.append_nil] at hW'
  refine (selectsMatch_any X Y W0 H0 s m c so W lm lc lso (fun W' hb => fit_any (hs.stay hb))).mono fun e W' ⟨he, hb⟩ => ?_
  subst he
  exact ⟨_, rfl, _, _, _, [], _, [], hW', trodAll_cons_mk (shut_bool Try.underlying4 _) trodAll_mk0, trodAll_cons_mk (Below.trod laidOut (by kernel_rfl) (of_decide_eq_true (by kernel_rfl)) h0 hb hlt) (trodAll_cons_mk (shut_float Try.underlying22 wm) (trodAll_cons_mk (shut_float Try.underlying22 wc) (trodAll_cons_mk (shut_float Try.underlying22 ws) trodAll_mk0))), rfl, hb.frame _, fun h => by cases h⟩

theorem over : Rows.selectsMatchRow.holds Try.pinned (OpenSpec.ofChange Rows.selectsMatchSpec) :=
  OpenClaim.holds_of_wide 4 Try.f4 rfl rfl rfl rfl rfl rfl rfl ⟨rfl, rfl, rfl, rfl, rfl⟩ rfl rfl rfl rfl rfl (by kernel_rfl) Try.func4 (by kernel_rfl)
    (of_decide_eq_true (by kernel_rfl)) (by unfold Func.isWrapper; rw [if_neg (of_decide_eq_false (by kernel_rfl))]; exact ⟨rfl, rfl⟩)
    (fun os started H enc _ => lifted os started H enc)

theorem proved : Rows.SelectsMatchSaid :=
  over
#print axioms proved
end Go.Proofs.Ytmbiohopcfglcaa.selectsMatch
