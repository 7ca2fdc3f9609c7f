/- Contracts: Weight and Box of the program; the reference's box. -/
import Derived.Test.YtjjhhnoeiglnhabBru4
namespace Go.Proofs.Ytjjhhnoeiglnhab
open Go.RowKit Fl
set_option linter.unusedVariables false

theorem plc_ok {x y : Int} (h : plcE x y = 0) : -4194304 ≤ x ∧ x ≤ 4194304 ∧ -4194304 ≤ y ∧ y ≤ 4194304 := by
  unfold plcE at h
  split at h
  · rename_i c
    obtain ⟨a, b⟩ := c
    have := withinB_iff.1 a
    have := withinB_iff.1 b
    omega
  · cases h

structure BruOk (k X Y R : Int) (h : Nat) : Prop where
  k1 : 1 ≤ k
  k3 : k ≤ 3
  X1 : -4194304 ≤ X
  X2 : X ≤ 4194304
  Y1 : -4194304 ≤ Y
  Y2 : Y ≤ 4194304
  r1 : 1 ≤ R
  r2 : R ≤ 256
  hg : hgtB h = true
theorem bru_ok {k X Y R : Int} {h : Nat} (e : bruE k X Y R h = 0) : BruOk k X Y R h := by
  unfold bruE at e
  split at e
  · cases e
  · rename_i c1
    split at e
    · rename_i c2; exact absurd e c2
    · rename_i c2
      split at e
      · cases e
      · rename_i c3
        have k := withinB_iff.1 (by simpa using c1)
        have r := withinB_iff.1 (by simpa using c3)
        obtain ⟨p1, p2, p3, p4⟩ := plc_ok (x := X) (y := Y) (by simpa using c2)
        exact ⟨k.1, k.2, p1, p2, p3, p4, r.1, r.2, by have := allB_iff.1 (fldE_zero.1 e) 0 (by omega); exact this⟩

/-- What Weight answers. -/
def weiE (k X Y R : Int) (h : Nat) (x y : Int) : Int := if bruE k X Y R h = 0 then plcE x y else bruE k X Y R h
def weiV (k X Y R : Int) (h : Nat) (x y : Int) : Nat := if weiE k X Y R h x y = 0 then weiW k (sqD x y X Y) R else 0

set_option maxHeartbeats 1000000 in
theorem weightX_any (k X Y R : Int) (h : Nat) (x y : Int) (w : World) :
    Calls Try.prog 35 #[bru k X Y R h, .int .i64 x, .int .i64 y] w fun e w' => e = .returned (.tuple #[.float .f32 (weiV k X Y R h x y), .int .i64 (weiE k X Y R h x y)]) ∧ Below w.heap.size w w' := by
  have CB := Lib.hid (fun w => checkBrush_any k X Y R h w)
  have CP := Lib.hid (fun w => checkPlace_any x y w)
  unfold weiV weiE
  by_cases c : bruE k X Y R h = 0
  · have K := bru_ok c
    rw [if_pos c]
    rw [c] at CB
    rcases plcE_cases x y with d | d
    · obtain ⟨p1, p2, p3, p4⟩ := plc_ok d
      rw [d] at CP ⊢
      rw [if_pos rfl]
      have WT := Lib.hid (fun w => weight_any k X Y R h x y w K.k1 K.k3 K.X1 K.X2 K.Y1 K.Y2 K.r1 K.r2 p1 p2 p3 p4)
      generalize weiW k (sqD x y X Y) R = r at *
      clear K c d p1 p2 p3 p4
      go_enter Try.func35, Try.ntmps35
      go_wp2_with (first | (go_at_call 34; refine (CB.out _).mono ?_; rintro e w2 ⟨rfl, hb2⟩; have HB2 := Lib.hid (blkStay (b := w.heap.size) (o := bruObj k X Y R h) (by ((simp only [heap_alloc_get, if_true]) <;> ((repeat' split) <;> first | rfl | omega))) hb2); have hB2 : Below w.heap.size w w2 := Below.trans (by repeat (first | exact Below.refl _ _ | refine Below.alloc ?_ (by first | omega | (simp; done) | (simp; omega)) _ | refine Below.setCell ?_ (by first | omega | (simp; done) | (simp; omega)) _ | refine Below.drew ?_)) (Below.mono hb2 (by first | omega | (simp; done) | (simp; omega))); obtain ⟨cB, fB, zB⟩ := blkC HB2.out; clear hb2) | (go_at_call 121; refine (CP.out _).mono ?_; rintro e w' ⟨rfl, rfl⟩) | (go_at_call 123; refine (WT.out _).mono ?_; rintro e w3 ⟨rfl, hb3⟩; have hB3 := hB2.trans (hb3.mono hB2.size); clear hb3))
      go_ret2
      exact ⟨rfl, hB3⟩
    · rw [d] at CP ⊢
      rw [if_neg (by decide)]
      clear K c d
      go_enter Try.func35, Try.ntmps35
      go_wp2_with (first | (go_at_call 34; refine (CB.out _).mono ?_; rintro e w2 ⟨rfl, hb2⟩; have HB2 := Lib.hid (blkStay (b := w.heap.size) (o := bruObj k X Y R h) (by ((simp only [heap_alloc_get, if_true]) <;> ((repeat' split) <;> first | rfl | omega))) hb2); have hB2 : Below w.heap.size w w2 := Below.trans (by repeat (first | exact Below.refl _ _ | refine Below.alloc ?_ (by first | omega | (simp; done) | (simp; omega)) _ | refine Below.setCell ?_ (by first | omega | (simp; done) | (simp; omega)) _ | refine Below.drew ?_)) (Below.mono hb2 (by first | omega | (simp; done) | (simp; omega))); obtain ⟨cB, fB, zB⟩ := blkC HB2.out; clear hb2) | (go_at_call 121; refine (CP.out _).mono ?_; rintro e w' ⟨rfl, rfl⟩))
      go_ret2
      exact ⟨rfl, hB2⟩
  · rw [if_neg c, if_neg c]
    have hzb : (bruE k X Y R h != 0) = true := by simp [c]
    generalize bruE k X Y R h = er at *
    clear c
    go_enter Try.func35, Try.ntmps35
    go_wp2_with (first | (go_at_call 34; refine (CB.out _).mono ?_; rintro e w2 ⟨rfl, hb2⟩; have HB2 := Lib.hid (blkStay (b := w.heap.size) (o := bruObj k X Y R h) (by ((simp only [heap_alloc_get, if_true]) <;> ((repeat' split) <;> first | rfl | omega))) hb2); have hB2 : Below w.heap.size w w2 := Below.trans (by repeat (first | exact Below.refl _ _ | refine Below.alloc ?_ (by first | omega | (simp; done) | (simp; omega)) _ | refine Below.setCell ?_ (by first | omega | (simp; done) | (simp; omega)) _ | refine Below.drew ?_)) (Below.mono hb2 (by first | omega | (simp; done) | (simp; omega))); obtain ⟨cB, fB, zB⟩ := blkC HB2.out; clear hb2))
    go_ret2
    exact ⟨rfl, hB2⟩

/-- The box of a brush; of a wrong one nothing. -/
def boxR (k X Y R : Int) (h : Nat) : Value := if bruE k X Y R h = 0 then reg (X - R + 1) (Y - R + 1) (2 * R - 1) (2 * R - 1) else reg 0 0 0 0

set_option maxHeartbeats 1000000 in
theorem box_any (k X Y R : Int) (h : Nat) (w : World) :
    Calls Try.prog 36 #[bru k X Y R h] w fun e w' => e = .returned (.tuple #[boxR k X Y R h, .int .i64 (bruE k X Y R h)]) ∧ Below w.heap.size w w' := by
  have CB := Lib.hid (fun w => checkBrush_any k X Y R h w)
  unfold boxR
  by_cases c : bruE k X Y R h = 0
  · obtain ⟨k1, k3, X1, X2, Y1, Y2, r1, r2, _⟩ := bru_ok c
    rw [if_pos c]
    rw [c] at CB ⊢
    clear c
    go_enter Try.func36, Try.ntmps36
    go_wp2_with (first | (go_at_call 34; refine (CB.out _).mono ?_; rintro e w2 ⟨rfl, hb2⟩; have HB2 := Lib.hid (blkStay (b := w.heap.size) (o := bruObj k X Y R h) (by ((simp only [heap_alloc_get, heap_size_alloc, if_true]) <;> ((repeat' split) <;> first | rfl | omega))) hb2); have HS2 := Lib.hid (blkStay (b := w.heap.size + 1) (o := regObj 0 0 0 0) (by ((simp only [heap_alloc_get, heap_size_alloc, if_true]) <;> ((repeat' split) <;> first | rfl | omega))) hb2); have hB2 : Below w.heap.size w w2 := Below.trans (by repeat (first | exact Below.refl _ _ | refine Below.alloc ?_ (by first | omega | (simp; done) | (simp; omega)) _ | refine Below.setCell ?_ (by first | omega | (simp; done) | (simp; omega)) _ | refine Below.drew ?_)) (Below.mono hb2 (by first | omega | (simp; done) | (simp; omega))); obtain ⟨cB, fB, zB⟩ := blkC HB2.out; obtain ⟨cS, fS, zS⟩ := blkC HS2.out; clear hb2))
    refine bodyPost_ret (v := .tuple #[reg (X - R + 1) (Y - R + 1) (2 * R - 1) (2 * R - 1), .int .i64 0]) (by simp [results, Try.results36, go_sem, cS]) rfl ?_
    exact ⟨rfl, ((((hB2.setCell (by simp) _).setCell (by simp) _).setCell (by simp) _).setCell (by simp) _)⟩
  · rw [if_neg c]
    have hzb : (bruE k X Y R h != 0) = true := by simp [c]
    generalize bruE k X Y R h = er at *
    clear c
    go_enter Try.func36, Try.ntmps36
    go_wp2_with (first | (go_at_call 34; refine (CB.out _).mono ?_; rintro e w2 ⟨rfl, hb2⟩; have HS2 := Lib.hid (blkStay (b := w.heap.size + 1) (o := regObj 0 0 0 0) (by ((simp only [heap_alloc_get, heap_size_alloc, if_true]) <;> ((repeat' split) <;> first | rfl | omega))) hb2); have hB2 : Below w.heap.size w w2 := Below.trans (by repeat (first | exact Below.refl _ _ | refine Below.alloc ?_ (by first | omega | (simp; done) | (simp; omega)) _ | refine Below.setCell ?_ (by first | omega | (simp; done) | (simp; omega)) _ | refine Below.drew ?_)) (Below.mono hb2 (by first | omega | (simp; done) | (simp; omega))); obtain ⟨cS, fS, zS⟩ := blkC HS2.out; clear hb2))
    refine bodyPost_ret (v := .tuple #[reg 0 0 0 0, .int .i64 er]) (by simp [results, Try.results36, go_sem, cS]) rfl ?_
    exact ⟨rfl, ((((hB2.setCell (by simp) _).setCell (by simp) _).setCell (by simp) _).setCell (by simp) _)⟩

set_option maxHeartbeats 1000000 in
theorem brushBox_any (k X Y R : Int) (h : Nat) (w : World) (K : BruOk k X Y R h) :
    Calls Try.prog 41 #[bru k X Y R h] w fun e w' => e = .returned (reg (X - R + 1) (Y - R + 1) (2 * R - 1) (2 * R - 1)) ∧ Below w.heap.size w w' := by
  obtain ⟨k1, k3, X1, X2, Y1, Y2, r1, r2, _⟩ := K
  go_enter Try.func41, Try.ntmps41
  go_wp2
  refine bodyPost_ret (v := reg (X - R + 1) (Y - R + 1) (2 * R - 1) (2 * R - 1)) (by simp [results, Try.results41, go_sem]) rfl ?_
  exact ⟨rfl, (by repeat (first | exact Below.refl _ _ | refine Below.alloc ?_ (by first | omega | (simp; done) | (simp; omega)) _ | refine Below.setCell ?_ (by first | omega | (simp; done) | (simp; omega)) _ | refine Below.drew ?_))⟩
end Go.Proofs.Ytjjhhnoeiglnhab
