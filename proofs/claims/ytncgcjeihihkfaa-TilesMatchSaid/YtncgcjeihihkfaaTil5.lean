/- slices.Equal of regions; the sum of all tiles; what TilesMatch asks of Tile. -/
import Derived.Test.YtncgcjeihihkfaaTil4
namespace Go.Proofs.Ytncgcjeihihkfaa
open Go.RowKit Fl
set_option linter.unusedVariables false

theorem tl_at {w : World} {b n : Nat} {T : Nat → Rgn} (h : TlRow w b n T) {i : Nat} (hi : i < n) :
    w.cell? ⟨b, i * 4, none⟩ = some (.int .i64 (T i).x) ∧ w.cell? ⟨b, i * 4 + 1, none⟩ = some (.int .i64 (T i).y) ∧ w.cell? ⟨b, i * 4 + 2, none⟩ = some (.int .i64 (T i).w) ∧ w.cell? ⟨b, i * 4 + 3, none⟩ = some (.int .i64 (T i).h) ∧ b < w.heap.size :=
  ⟨h.1 i hi 0 (by omega), h.1 i hi 1 (by omega), h.1 i hi 2 (by omega), h.1 i hi 3 (by omega), h.2⟩

set_option maxHeartbeats 4000000 in
theorem equalRgn_any (b1 b2 n k1 k2 : Nat) (T : Nat → Rgn) (w : World) (hn : n ≤ 1024) (h1 : TlRow w b1 n T) (h2 : TlRow w b2 n T) :
    Calls Try.prog 14 #[.slice (some ⟨b1, 0, none⟩) n k1, .slice (some ⟨b2, 0, none⟩) n k2] w fun e w' => e = .returned (.bool true) ∧ Below w.heap.size w w' := by
  have R1 := Lib.hid h1
  have R2 := Lib.hid h2
  have ni : (n : Int) ≤ 1024 := by omega
  clear h1 h2
  go_enter Try.func14, Try.ntmps14
  go_wp2
  go_loopw [13] (fun s13 wr => ∃ k : Nat, k ≤ n ∧ s13 = .int .i64 k ∧ Below w.heap.size w wr) (fun s13 _ => n - (intOf s13).toNat)
  case atStart => exact ⟨0, Nat.zero_le _, rfl, Below.refl _ _⟩
  case round =>
    obtain ⟨k, hk, rfl, hb⟩ := hrel
    have HB := Lib.hid hb
    clear hb
    by_cases hlt : k < n
    · have HK := Lib.hid hlt
      obtain ⟨c0, c1, c2, c3, z1⟩ := tl_at (R1.out.stay HB.out) hlt
      obtain ⟨d0, d1, d2, d3, z2⟩ := tl_at (R2.out.stay HB.out) hlt
      generalize T k = t at *
      obtain ⟨t1, t2, t3, t4⟩ := t
      simp only at c0 c1 c2 c3 d0 d1 d2 d3
      go_wp2
      go_quiet (fail)
      go_wp2
      go_roundw
      case rel => exact ⟨k + 1, HK.out, by go_num, HB.out.trans ((below_drewN _ _).mono HB.out.size)⟩
      case measure => have := HK.out; simp [intOf]; omega
    · go_wp2
      go_ret
      exact ⟨rfl, HB.out⟩
set_option maxHeartbeats 1000000 in
theorem equalRgn_nil (w : World) : Calls Try.prog 14 #[.slice none 0 0, .slice none 0 0] w fun e w' => e = .returned (.bool true) ∧ Below w.heap.size w w' := by
  go_enter Try.func14, Try.ntmps14
  go_wp2
  go_loopw [13] (fun s13 wr => s13 = .int .i64 0 ∧ Below w.heap.size w wr) (fun s13 _ => 0)
  case atStart => exact ⟨rfl, Below.refl _ _⟩
  case round =>
    obtain ⟨rfl, hb⟩ := hrel
    have HB := Lib.hid hb
    clear hb
    go_wp2
    go_ret
    exact ⟨rfl, HB.out⟩

/-- How many cells a tile has. -/
def tlS (X Y W H s : Int) (c k : Nat) : Int := (tlR X Y W H s c k).w * (tlR X Y W H s c k).h
theorem tlS_parts {X Y W H s : Int} (h : tilsE X Y W H s = 0) :
    (∀ k, k < tlN Y H s * tlN X W s → 1 ≤ (tlR X Y W H s (tlN X W s) k).w ∧ (tlR X Y W H s (tlN X W s) k).w ≤ 256 ∧ 1 ≤ (tlR X Y W H s (tlN X W s) k).h ∧ (tlR X Y W H s (tlN X W s) k).h ≤ 256 ∧ 0 ≤ tlS X Y W H s (tlN X W s) k ∧ tlS X Y W H s (tlN X W s) k ≤ 65536) ∧
    sumF (tlS X Y W H s (tlN X W s)) (tlN Y H s * tlN X W s) = W * H := by
  obtain ⟨h0, hs, hm⟩ := tilsE_parts h
  obtain ⟨b1, b2, b3, b4, _, b6, b7, b8, b9⟩ := checkR_zero h0
  obtain ⟨s1, s2⟩ := sid_iff.1 hs
  obtain ⟨c1, c2, c3⟩ := tlN_parts (X := X) s1 b1 b2
  obtain ⟨d1, d2, d3⟩ := tlN_parts (X := Y) s1 b3 b4
  constructor
  · intro k hk
    have q1 : k % tlN X W s < tlN X W s := Nat.mod_lt _ (by omega)
    have q2 : k / tlN X W s < tlN Y H s := by
      apply Nat.div_lt_of_lt_mul
      rw [Nat.mul_comm]
      exact hk
    unfold tlS tlR
    simp only
    generalize k % tlN X W s = m1 at *
    generalize k / tlN X W s = m2 at *
    obtain ⟨_, _, e1, e2, _⟩ := tl_parts (X := X) (W := W) s1 b1 (i := X / s + m1) (by omega) (by omega)
    obtain ⟨_, _, f1, f2, _⟩ := tl_parts (X := Y) (W := H) s1 b3 (i := Y / s + m2) (by omega) (by omega)
    refine ⟨e1, by omega, f1, by omega, Int.mul_nonneg (by omega) (by omega), ?_⟩
    have := Int.mul_le_mul (show tlW X W (X / s + m1) s ≤ 256 by omega) (show tlW Y H (Y / s + m2) s ≤ 256 by omega) (by omega) (by omega)
    omega
  · have a := sumF_rows (fun i => tlW X W (X / s + i) s) (fun j => tlW Y H (Y / s + j) s) (tlN X W s) (tlN Y H s)
    rw [tl_all (X := X) (W := W) s1 b1 _ c1, tl_all (X := Y) (W := H) s1 b3 _ d1] at a
    exact a

/-- A cell lies in its tile. -/
theorem in_tile {s x y : Int} (h1 : 1 ≤ s) : insideB x y 1 1 (x / s * s) (y / s * s) s s = true := by
  have a1 := Int.lt_ediv_add_one_mul_self x (show 0 < s by omega)
  have a2 := Int.ediv_mul_le x (show s ≠ 0 by omega)
  have b1 := Int.lt_ediv_add_one_mul_self y (show 0 < s by omega)
  have b2 := Int.ediv_mul_le y (show s ≠ 0 by omega)
  rw [Int.add_mul, Int.one_mul] at a1 b1
  exact insideB_iff.2 ⟨by omega, by omega, by omega, by omega⟩
theorem tile_mod {s x : Int} : (x / s * s).tmod s = 0 := Int.mul_tmod_left _ _
end Go.Proofs.Ytncgcjeihihkfaa
