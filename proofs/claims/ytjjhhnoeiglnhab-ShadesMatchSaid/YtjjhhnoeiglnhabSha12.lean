/- Shade of both sides, joined. -/
import Derived.Test.YtjjhhnoeiglnhabSha11
namespace Go.Proofs.Ytjjhhnoeiglnhab
open Go.RowKit Fl
set_option linter.unusedVariables false

theorem shade_both (X Y : Int) (W H n b cap : Nat) (v : Nat → Nat) (lx ly lz : Int) (h0 : checkR X Y W H = 0) (hn : n = W * H) (hcap : n ≤ cap) (hcp : cap ≤ 9223372036854775807) (hh : allB n (fun i => hgtB (v i)) = true) :
    ∃ (X' Y' W' H' : Int) (n' : Nat) (f : Nat → Nat) (er : Int), 1 ≤ n' ∧ n' ≤ 65536 ∧ (∀ j, j < n' → (FloatKind.f32.format.order (f j) 0 == some .lt) = false) ∧
      (∀ w, FlAt w b 0 n v → Calls Try.prog 25 #[fldV X Y W H (.slice (some ⟨b, 0, none⟩) n cap), .int .i64 lx, .int .i64 ly, .int .i64 lz] w (ScPost w X' Y' W' H' n' f er)) ∧
      (∀ w, FlAt w b 0 n v → Calls Try.prog 26 #[fldV X Y W H (.slice (some ⟨b, 0, none⟩) n cap), .int .i64 lx, .int .i64 ly, .int .i64 lz] w (ScPost w X' Y' W' H' n' f er)) := by
  have hz : (FloatKind.f32.format.order 0 0 == some .lt) = false := by kernel_rfl
  cases hi : innB W H with
  | false =>
    exact ⟨0, 0, 0, 0, 1, fun _ => 0, 10, by omega, by omega, fun _ _ => hz,
      fun w hc => (shade_bad X Y W H n b cap v lx ly lz 10 w h0 hn hc hh (.inl ⟨hi, rfl⟩)).mono fun e w' h => .inl ⟨by decide, h.1, h.2⟩,
      fun w hc => (rshade_bad X Y W H n b cap v lx ly lz 10 w h0 hn hc hh (.inl ⟨hi, rfl⟩)).mono fun e w' h => .inl ⟨by decide, h.1, h.2⟩⟩
  | true =>
    by_cases hd : dirE lx ly lz = 0
    · have h3 : 3 ≤ (W : Int) ∧ 3 ≤ (H : Int) := by unfold innB at hi; exact of_decide_eq_true hi
      obtain ⟨h3, h4⟩ := h3
      obtain ⟨W2, eW⟩ : ∃ W2 : Nat, W = W2 + 2 := ⟨W - 2, by omega⟩
      obtain ⟨H2, eH⟩ : ∃ H2 : Nat, H = H2 + 2 := ⟨H - 2, by omega⟩
      have w1 : 1 ≤ W2 := by omega
      have g1 : 1 ≤ H2 := by omega
      have hnn : n = H * W := by rw [hn]; exact Nat.mul_comm _ _
      obtain ⟨l1, l2, l3, lp⟩ := dir_ok hd
      obtain ⟨_, hM⟩ := dir_len l1 l2 l3 lp
      obtain ⟨_, _, _, _, c5, _⟩ := checkR_zero (rim_check h0 eW eH w1 g1)
      have hz : ((H2 * W2 : Nat) : Int) ≤ 65536 := by rw [Nat.mul_comm]; simpa using c5
      refine ⟨X + 1, Y + 1, W2, H2, H2 * W2, shaF (lenW lx ly lz) lx ly lz v W, 0, Nat.mul_pos (by omega) (by omega), by omega, fun j hj => ?_, fun w hc => ?_, fun w hc => ?_⟩
      · obtain ⟨r, a, e, hr, _⟩ := sha_all (X := X) (Y := Y) hnn hh eW eH w1 hM l1 l2 l3 j hj
        rw [e]; exact shd_nn hr
      · exact shade_ok X Y W H n b cap W2 H2 v lx ly lz w h0 hn hcap hcp hc hh eW eH w1 g1 hd
      · exact rshade_ok X Y W H n b cap W2 H2 v lx ly lz w h0 hn hc hh eW eH w1 g1 hd
    · exact ⟨0, 0, 0, 0, 1, fun _ => 0, dirE lx ly lz, by omega, by omega, fun _ _ => hz,
        fun w hc => (shade_bad X Y W H n b cap v lx ly lz _ w h0 hn hc hh (.inr ⟨hi, rfl, hd⟩)).mono fun e w' h => .inl ⟨hd, h.1, h.2⟩,
        fun w hc => (rshade_bad X Y W H n b cap v lx ly lz _ w h0 hn hc hh (.inr ⟨hi, rfl, hd⟩)).mono fun e w' h => .inl ⟨hd, h.1, h.2⟩⟩
end Go.Proofs.Ytjjhhnoeiglnhab
