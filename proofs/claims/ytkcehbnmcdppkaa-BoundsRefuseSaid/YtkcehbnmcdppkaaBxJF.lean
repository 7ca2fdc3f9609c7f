/- Lemmas and contracts for the proof that the last text of this claim holds. -/
import Derived.Test.YtkcehbnmcdppkaaBxJE

/- Contracts: nearest, Magnitude by words, math.IsNaN, math.Signbit. -/
namespace Go.Proofs.Ytkcehbnmcdppkaa
open Go.RowKit Fl
set_option linter.unusedVariables false

theorem near_wordD (s : Bool) (m : Nat) (p : Int) : ∃ q, q ≤ Ieee.double.infRung ∧ Ieee.double.nearest s m p = Ieee.double.word s q := by
  unfold Ieee.Format.nearest
  split
  · exact ⟨0, Nat.zero_le _, rfl⟩
  · exact ⟨_, Nat.min_le_right _ _, rfl⟩
/-- The double of a single that is no NaN, by its sign. -/
theorem conv_sign {x : Nat} {s : Bool} (h : Sg s x) : ∃ X q, floatToFloatBits .f32 x .f64 = some X ∧ q ≤ 9218868437227405312 ∧ X = s.toNat * 9223372036854775808 + q := by
  have hw : ∀ q, Ieee.double.word s q = s.toNat * 9223372036854775808 + q := by
    intro q; unfold Ieee.Format.word; rw [swD]; cases s <;> simp
  rcases h with ⟨m, p, e⟩ | e
  · obtain ⟨X, M, I, c1, -⟩ := toD e
    obtain ⟨q, q1, q2⟩ := near_wordD s m p
    refine ⟨X, q, c1, by rw [← infD']; exact q1, ?_⟩
    rw [← hw, ← q2]
    unfold floatToFloatBits at c1
    rw [if_neg (by decide)] at c1
    have d : FloatKind.f32.decode x = .number s m p := e
    rw [d] at c1
    simp only at c1
    split at c1
    · cases c1
    · exact (Option.some.inj c1).symm
  · refine ⟨_, 9218868437227405312, conv_infS e, Nat.le_refl _, ?_⟩
    rw [hw, infD']

theorem order_self {x : Nat} {s : Bool} (h : Sg s x) : Ieee.single.order x x = some .eq := by
  unfold Ieee.Format.order
  rcases h with ⟨m, p, e⟩ | e
  · rw [e]
    simp [Ieee.Datum.order]
  · rw [e]
    simp [Ieee.Datum.order]
theorem order_selfD {x X : Nat} {s : Bool} (h : Sg s x) (c : floatToFloatBits .f32 x .f64 = some X) : (Ieee.double.order X X == some .eq) = true := by
  rcases h with ⟨m, p, e⟩ | e
  · obtain ⟨X', M, I, c1, c2, -⟩ := toD e
    rw [c] at c1; cases c1
    unfold Ieee.Format.order
    rw [c2]
    simp [Ieee.Datum.order]
  · rw [conv_infS e] at c
    cases c
    unfold Ieee.Format.order
    rw [read_infD]
    simp [Ieee.Datum.order]

set_option maxHeartbeats 400000 in
theorem isNaN_any (X : Nat) (b : Bool) (h : (FloatKind.f64.format.order X X == some .eq) = b) (w : World) : Calls Try.prog 70 #[.float .f64 X] w fun e w' => e = .returned (.bool (!b)) ∧ w = w' := by
  have h2 : (FloatKind.f64.format.order X X != some .eq) = !b := by rw [← h]; rfl
  clear h
  go_enter Try.func70, Try.ntmps70
  go_wp2
  go_ret
  exact ⟨rfl, rfl⟩
set_option maxHeartbeats 400000 in
theorem signbit_any (s : Bool) (X : Int) (h0 : 0 ≤ X) (h1 : X < 18446744073709551616) (hX : decide (9223372036854775808 ≤ X) = s) (w : World) : Calls Try.prog 126 #[.float .f64 X.toNat] w fun e w' => e = .returned (.bool s) ∧ w = w' := by
  have hb := f64bits
  have e : ((X.toNat : Nat) : Int) = X := by omega
  go_enter Try.func126, Try.ntmps126
  go_wp2
  go_ret
  exact ⟨ret_bool (by rw [← hX, decide_eq_decide]; unfold wrap64; omega), rfl⟩

/-- The magnitude by words. -/
theorem vS_neg {r : Nat} (h : r < 2139095040) : vS (2147483648 + r) = some (-((rv r : Nat) : Int)) := by
  have := vS_rung true h
  simpa using this
theorem ord_pn {r : Nat} (hr : r ≤ 2139095040) (h0 : 0 < r) : FloatKind.f32.format.order r (2147483648 + r) = some .gt := by
  rw [f32fmt]
  rcases Nat.lt_or_eq_of_le hr with c | c
  · rw [order_val (vS_pos c) (vS_neg c)]
    have p : 0 < rv r := by have := rv_lt h0; omega
    congr 1
    exact Int.compare_eq_gt.2 (by omega)
  · rw [c]; decide
theorem ord_np {r : Nat} (hr : r ≤ 2139095040) (h0 : 0 < r) : FloatKind.f32.format.order (2147483648 + r) r = some .lt := by
  rw [f32fmt]
  rcases Nat.lt_or_eq_of_le hr with c | c
  · rw [order_val (vS_neg c) (vS_pos c)]
    have p : 0 < rv r := by have := rv_lt h0; omega
    congr 1
    exact Int.compare_eq_lt.2 (by omega)
  · rw [c]; decide
theorem max_pn {r : Nat} (hr : r ≤ 2139095040) : Builtin.max2 (.float .f32 r) (.float .f32 (2147483648 + r)) = pure (.float .f32 r) := by
  unfold Builtin.max2
  dsimp only
  rcases Nat.eq_zero_or_pos r with z | z
  · subst z
    have o : FloatKind.f32.format.order 0 (2147483648 + 0) = some .eq := by decide
    have d : (FloatKind.f32.decode 0).neg = false := by decide
    rw [o]
    dsimp only
    rw [d]
    rfl
  · rw [ord_pn hr z]
theorem max_np {r : Nat} (hr : r ≤ 2139095040) : Builtin.max2 (.float .f32 (2147483648 + r)) (.float .f32 r) = pure (.float .f32 r) := by
  unfold Builtin.max2
  dsimp only
  rcases Nat.eq_zero_or_pos r with z | z
  · subst z
    have o : FloatKind.f32.format.order (2147483648 + 0) 0 = some .eq := by decide
    have d : (FloatKind.f32.decode (2147483648 + 0)).neg = true := by decide
    rw [o]
    dsimp only
    rw [d]
    rfl
  · rw [ord_np hr z]

/-- The word of a sign and a magnitude. -/
def sw (s : Bool) (r : Nat) : Nat := if s then 2147483648 + r else r
theorem sw_form (s : Bool) (r : Nat) : sw s r = s.toNat * 2147483648 + r := by unfold sw; cases s <;> simp
theorem sw_sg {s : Bool} {r : Nat} (h : r ≤ 2139095040) : Sg s (sw s r) := by
  have := read_le s r (by rw [infS']; exact h)
  have e : Ieee.single.word s r = sw s r := by unfold Ieee.Format.word sw; rw [swS]
  rwa [e] at this
theorem run_negS (w : World) (b : Nat) : (Op.unary .neg (.float .f32 b)).run Try.prog w = .ok (.float .f32 (negW b)) w := rfl
theorem neg_pos {r : Nat} (h : r < 2147483648) : negW r = 2147483648 + r := by unfold negW; rw [xor31 (by omega), if_pos h]; omega
theorem neg_neg' {r : Nat} (h : r < 2147483648) : negW (2147483648 + r) = r := by unfold negW; rw [xor31 (by omega), if_neg (by omega)]; omega
theorem neg_sw {s : Bool} {r : Nat} (h : r ≤ 2139095040) : negW (sw s r) = sw (!s) r := by
  cases s
  · show negW r = 2147483648 + r
    exact neg_pos (by omega)
  · show negW (2147483648 + r) = r
    exact neg_neg' (by omega)
theorem max_sw {s : Bool} {r : Nat} (hr : r ≤ 2139095040) (ts : Array TypeId) (t : TypeId) (w : World) : (Builtin.max_ ts t #[.float .f32 (sw s r), .float .f32 (sw (!s) r)]).run Try.prog w = .ok (.float .f32 r) w := by
  show (([Value.float .f32 (sw (!s) r)]).foldlM Builtin.max2 (Value.float .f32 (sw s r))).run Try.prog w = _
  simp only [List.foldlM]
  cases s
  · rw [show sw false r = r from rfl, show sw (!false) r = 2147483648 + r from rfl, max_pn hr]; rfl
  · rw [show sw true r = 2147483648 + r from rfl, show sw (!true) r = r from rfl, max_np hr]; rfl
set_option maxHeartbeats 400000 in
theorem magn_sw {s : Bool} {r : Nat} (hr : r ≤ 2139095040) (w : World) : Calls Try.prog 125 #[.float .f32 (sw s r)] w fun e w' => e = .returned (.float .f32 r) ∧ w = w' := by
  have ng := fun w => run_negS w (sw s r)
  rw [neg_sw hr] at ng
  have mx := fun ts t w => max_sw (s := s) hr ts t w
  generalize sw s r = x at *
  generalize sw (!s) r = y at *
  go_enter Try.func125, Try.ntmps125
  go_wp2
  go_ret
  exact ⟨rfl, rfl⟩

/-- The nearest of two numbers that have 2 ^ 13 and 2 ^ 16 as units. -/
theorem and_one (x : Nat) (h : x < 4294967296) : bits .and .u32 (x : Int) 1 = ((x % 2 : Nat) : Int) := by
  have := u32_and_nat x 1 h (by omega)
  rw [show ((1 : Nat) : Int) = 1 from rfl] at this
  rw [this, Nat.and_one_is_mod]
set_option maxHeartbeats 400000 in
theorem nearest13 (n : Nat) (hn : n < 2147483648) (w : World) : Calls Try.prog 71 #[.int .u32 n, .int .i64 13] w fun e w' => e = .returned (.int .u32 (((n + 4095 + n / 8192 % 2) / 8192 : Nat) : Int)) ∧ w = w' := by
  have a1 : bits .and .u32 ((n : Int) / 8192) 1 = ((n / 8192 % 2 : Nat) : Int) := by
    have := and_one (n / 8192) (by omega)
    rwa [Int.natCast_ediv] at this
  go_enter Try.func71, Try.ntmps71
  go_wp2
  go_ret
  exact ⟨ret_int (by omega), rfl⟩
set_option maxHeartbeats 400000 in
theorem nearest16 (n : Nat) (hn : n ≤ 4286578688) (w : World) : Calls Try.prog 71 #[.int .u32 n, .int .i64 16] w fun e w' => e = .returned (.int .u32 ((nrS n : Nat) : Int)) ∧ w = w' := by
  have a1 : bits .and .u32 ((n : Int) / 65536) 1 = ((n / 65536 % 2 : Nat) : Int) := by
    have := and_one (n / 65536) (by omega)
    rwa [Int.natCast_ediv] at this
  unfold nrS
  go_enter Try.func71, Try.ntmps71
  go_wp2
  go_ret
  exact ⟨ret_int (by omega), rfl⟩
end Go.Proofs.Ytkcehbnmcdppkaa

/- Contracts: halves and shorts of the program. -/
namespace Go.Proofs.Ytkcehbnmcdppkaa
open Go.RowKit Fl
set_option linter.unusedVariables false

/-- The nearest half of a magnitude. -/
def nhR (r : Nat) : Nat := if 1199566848 ≤ r then 31744 else if r < 947912704 then rnq (rv r) u24 else nrH r
def nhW (s : Bool) (r : Nat) : Nat := s.toNat * 32768 + nhR r

theorem geq_word {r c : Nat} (hr : r ≤ 2139095040) (hc : c < 2139095040) : (FloatKind.f32.format.order r c == some .gt || FloatKind.f32.format.order r c == some .eq) = decide (c ≤ r) := by
  rw [f32fmt]
  rcases Nat.lt_or_eq_of_le hr with h | h
  · rw [geq_val (vS_pos h) (vS_pos hc), decide_eq_decide]
    have := @rv_le c r
    omega
  · subst h
    rw [order_inf (show Ieee.single.read 2139095040 = .infinity false by decide) (vS_pos hc)]
    have : decide (c ≤ 2139095040) = true := by simp; omega
    rw [this]; rfl
theorem lss_word {r c : Nat} (hr : r ≤ 2139095040) (hc : c < 2139095040) : (FloatKind.f32.format.order r c == some .lt) = decide (r < c) := by
  rw [f32fmt]
  rcases Nat.lt_or_eq_of_le hr with h | h
  · rw [lss_val (vS_pos h) (vS_pos hc), decide_eq_decide]
    have := @rv_lt' r c
    omega
  · subst h
    rw [order_inf (show Ieee.single.read 2139095040 = .infinity false by decide) (vS_pos hc)]
    have : decide (2139095040 < c) = false := by simp; omega
    rw [this]; rfl

set_option maxHeartbeats 1000000 in
set_option maxRecDepth 100000 in
theorem nearestHalf_any {s : Bool} {r : Nat} (hr : r ≤ 2139095040) (w : World) :
    Calls Try.prog 60 #[.float .f32 (sw s r)] w fun e w' => e = .returned (.int .i64 ((nhW s r : Nat) : Int)) ∧ w = w' := by
  obtain ⟨X, q, c1, hq, hX⟩ := conv_sign (sw_sg (s := s) hr)
  have CV := fun (W : World) => run_convert_float_float (P := Try.prog) W 22 32 .f32 .f64 (sw s r) X (by kernel_rfl) Try.underlying32 c1
  have IN := Lib.hid (fun w => isNaN_any X true (order_selfD (sw_sg (s := s) hr) c1) w)
  have sb : ∀ w, Calls Try.prog 126 #[.float .f64 X] w fun e w' => e = .returned (.bool s) ∧ w = w' := fun w => signbit_any s (X : Int) (by omega) (by rw [hX]; cases s <;> simp <;> omega) (by rw [hX]; cases s <;> simp <;> omega) w
  have SB := Lib.hid sb
  clear sb
  have MG := Lib.hid (fun w => magn_sw (s := s) hr w)
  have hb := f32bits
  have g1 := geq_word (c := 1199566848) hr (by omega)
  have g2 := lss_word (c := 947912704) hr (by omega)
  clear c1 hX hq
  unfold nhW nhR
  generalize sw s r = x at *
  by_cases k1 : 1199566848 ≤ r
  · rw [if_pos k1]
    rw [decide_eq_true k1] at g1
    clear g2
    cases s
    all_goals
      go_enter Try.func60, Try.ntmps60
      go_wp2_with (first
        | (go_at_call 125; (with_reducible refine (MG.out _).mono ?_); rintro e w' ⟨rfl, rfl⟩)
        | (go_at_call 70; (with_reducible refine (IN.out _).mono ?_); rintro e w' ⟨rfl, rfl⟩)
        | (go_at_call 126; (with_reducible refine (SB.out _).mono ?_); rintro e w' ⟨rfl, rfl⟩))
      go_ret
      exact ⟨rfl, rfl⟩
  · rw [if_neg k1]
    rw [decide_eq_false k1] at g1
    by_cases k2 : r < 947912704
    · rw [if_pos k2]
      rw [decide_eq_true k2] at g2
      obtain ⟨a1, a2⟩ := small_sum k2
      generalize rnq (rv r) u24 = k at *
      have AD := fun (W : World) => run_float_arith (P := Try.prog) W .add 22 .f32 _ _ _ a1
      clear a1
      cases s
      all_goals
        go_enter Try.func60, Try.ntmps60
        go_wp2_with (first
          | (go_at_call 125; (with_reducible refine (MG.out _).mono ?_); rintro e w' ⟨rfl, rfl⟩)
          | (go_at_call 70; (with_reducible refine (IN.out _).mono ?_); rintro e w' ⟨rfl, rfl⟩)
          | (go_at_call 126; (with_reducible refine (SB.out _).mono ?_); rintro e w' ⟨rfl, rfl⟩))
        go_ret
        exact ⟨ret_int (by first | (simp; omega) | omega), rfl⟩
    · rw [if_neg k2]
      rw [decide_eq_false k2] at g2
      have NN := Lib.hid (fun w => nearest13 r (by omega) w)
      have e1 : 114688 ≤ (r + 4095 + r / 8192 % 2) / 8192 := by omega
      have e2 : (r + 4095 + r / 8192 % 2) / 8192 < 300000 := by omega
      have e3 : nrH r = (r + 4095 + r / 8192 % 2) / 8192 - 114688 := rfl
      rw [e3]
      generalize (r + 4095 + r / 8192 % 2) / 8192 = k at *
      clear e3
      cases s
      all_goals
        go_enter Try.func60, Try.ntmps60
        go_wp2_with (first
          | (go_at_call 125; (with_reducible refine (MG.out _).mono ?_); rintro e w' ⟨rfl, rfl⟩)
          | (go_at_call 70; (with_reducible refine (IN.out _).mono ?_); rintro e w' ⟨rfl, rfl⟩)
          | (go_at_call 71; (with_reducible refine (NN.out _).mono ?_); rintro e w' ⟨rfl, rfl⟩)
          | (go_at_call 126; (with_reducible refine (SB.out _).mono ?_); rintro e w' ⟨rfl, rfl⟩))
        go_ret
        exact ⟨ret_int (by first | (simp; omega) | omega), rfl⟩

theorem or_inf : ∀ m : Nat, m < 1024 → ((31744 + m) * 8192 ||| 2139095040) = 2139095040 + m * 8192 := by decide +kernel
theorem mod_half {s : Bool} {q : Nat} (h : q < 32768) {n : Int} (hn : n = ((s.toNat * 32768 + q : Nat) : Int)) : n % 32768 = (q : Int) ∧ decide (32768 ≤ n) = s ∧ 0 ≤ n ∧ n < 65536 := by
  subst hn
  cases s
  · simp; omega
  · simp; omega
theorem tn_half (q : Nat) : ((q : Int) * 8192).toNat = q * 8192 := by omega

set_option maxHeartbeats 1000000 in
set_option maxRecDepth 100000 in
theorem ofHalf_any {s : Bool} {q : Nat} (h : q < 31744) {n : Int} (hn : n = ((s.toNat * 32768 + q : Nat) : Int)) (w : World) :
    Calls Try.prog 61 #[.int .i64 n] w fun e w' => e = .returned (.float .f32 (sw s (whW q))) ∧ w = w' := by
  obtain ⟨a1, a2, -⟩ := whole_word h
  have M1 := fun (W : World) => run_float_arith (P := Try.prog) W .mul 22 .f32 _ _ _ a1
  have hb : ∀ w : World, (callFunc 68 #[.int .u32 ((q : Int) * 8192)]).run Try.prog w = .ok (.value (.float .f32 (q * 8192))) w := fun w => by
    have := f32from ((q : Int) * 8192) w
    rwa [tn_half] at this
  have ng := fun w => run_negS w (whW q)
  rw [neg_pos (by omega)] at ng
  obtain ⟨m1, m2, m3, m4⟩ := mod_half (by omega) hn
  clear hn
  generalize hy : whW q = y at *
  clear a1 hy
  generalize q * 8192 = z at *
  have q1 : ¬ ((31744 : Int) ≤ (q : Int)) := by omega
  cases s
  all_goals
    have m5 := m2
    simp only [decide_eq_true_eq, decide_eq_false_iff_not] at m5
    clear m2
    go_enter Try.func61, Try.ntmps61
    go_wp2
    go_ret
    exact ⟨rfl, rfl⟩
set_option maxHeartbeats 1000000 in
set_option maxRecDepth 100000 in
theorem ofHalf_inf {s : Bool} {m : Nat} (h : m < 1024) {n : Int} (hn : n = ((s.toNat * 32768 + (31744 + m) : Nat) : Int)) (w : World) :
    Calls Try.prog 61 #[.int .i64 n] w fun e w' => e = .returned (.float .f32 (sw s (2139095040 + m * 8192))) ∧ w = w' := by
  obtain ⟨y, y1, -⟩ := mul_pos_word (vS_pos (r := (31744 + m) * 8192) (by omega)) (vS_big (j := 1186) rfl) (by omega) (by omega)
  have M1 := fun (W : World) => run_float_arith (P := Try.prog) W .mul 22 .f32 _ _ _ y1
  have hb : ∀ w : World, (callFunc 68 #[.int .u32 (((31744 + m : Nat) : Int) * 8192)]).run Try.prog w = .ok (.value (.float .f32 ((31744 + m) * 8192))) w := fun w => by
    have := f32from (((31744 + m : Nat) : Int) * 8192) w
    rwa [tn_half] at this
  have ho : bits .or .u32 (((31744 + m : Nat) : Int) * 8192) 2139095040 = ((2139095040 + m * 8192 : Nat) : Int) := by
    have := u32_or_nat ((31744 + m) * 8192) 2139095040 (by omega) (by omega)
    rw [or_inf m h, Int.natCast_mul] at this
    exact this
  have hc : ∀ w : World, (callFunc 68 #[.int .u32 ((2139095040 + m * 8192 : Nat) : Int)]).run Try.prog w = .ok (.value (.float .f32 (2139095040 + m * 8192))) w := fun w => f32from ((2139095040 + m * 8192 : Nat) : Int) w
  have ng := fun w => run_negS w (2139095040 + m * 8192)
  rw [neg_pos (by omega)] at ng
  obtain ⟨m1, m2, m3, m4⟩ := mod_half (by omega) hn
  clear hn y1
  have q1 : (31744 : Int) ≤ ((31744 + m : Nat) : Int) := by omega
  have q2 : ((31744 + m : Nat) : Int) < 32768 := by omega
  generalize (31744 + m) * 8192 = z at *
  generalize 2139095040 + m * 8192 = u at *
  generalize ((31744 + m : Nat) : Int) = qi at *
  cases s
  all_goals
    have m5 := m2
    simp only [decide_eq_true_eq, decide_eq_false_iff_not] at m5
    clear m2
    go_enter Try.func61, Try.ntmps61
    go_wp2
    go_ret
    exact ⟨rfl, rfl⟩
end Go.Proofs.Ytkcehbnmcdppkaa

/- Contracts: Half, Whole, Short, Long. -/
namespace Go.Proofs.Ytkcehbnmcdppkaa
open Go.RowKit Fl
set_option linter.unusedVariables false

theorem vS_sw {s : Bool} {r : Nat} (h : r < 2139095040) : vS (sw s r) = some ((if s then -1 else 1) * ((rv r : Nat) : Int)) := by
  rw [sw_form]; exact vS_rung s h
theorem wi_fin {s : Bool} {r : Nat} (h : r < 2139095040) : wiE (sw s r) 4286578687 2139095039 = 0 := by
  have hv := vS_sw (s := s) h
  have hf : finB (sw s r) = true := by unfold finB; rw [hv]; rfl
  have h1 : vS 4286578687 = some (-((rv 2139095039 : Nat) : Int)) := vS_neg (r := 2139095039) (by omega)
  have h2 : vS 2139095039 = some ((rv 2139095039 : Nat) : Int) := vS_pos (by omega)
  have hle : rv r ≤ rv 2139095039 := rv_le.2 (by omega)
  unfold wiE
  rw [if_neg (by rw [hf]; simp), if_neg]
  rw [f32f, lss_val hv h1, gtr_val hv h2]
  cases s <;> simp <;> omega
theorem wi_inf {s : Bool} {r : Nat} (h : 2139095040 ≤ r) (h2 : r < 2147483648) : wiE (sw s r) 4286578687 2139095039 = 2 := by
  have hf : finB (sw s r) = false := by
    unfold finB vS Ieee.Format.read
    have e1 : sw s r % Ieee.single.signWeight = r := by unfold sw; rw [swS]; cases s <;> simp <;> omega
    simp only [e1, binS', infS']
    rw [if_neg (by omega), if_neg (by omega)]
    split
    · rename_i q; split at q <;> cases q
    · rfl
  unfold wiE
  rw [if_pos hf]

set_option maxHeartbeats 1000000 in
set_option maxRecDepth 100000 in
theorem decoded_far (n : Int) (V : Value) (hn : withinB n 0 65535 = false) (w : World) :
    Calls Try.prog 66 #[.int .i64 n, V] w fun e w' => e = .returned (.tuple #[.float .f32 0, .int .i64 3]) ∧ w = w' := by
  have WI := Lib.hid (fun w => within_any n 0 65535 w)
  rw [hn] at WI
  clear hn
  go_enter Try.func66, Try.ntmps66
  go_wp2_with (go_at_call 79; (with_reducible refine Calls.mono (WI.out _) ?_); rintro e w' ⟨rfl, rfl⟩)
  go_ret2
  exact ⟨rfl, rfl⟩

set_option maxHeartbeats 1000000 in
set_option maxRecDepth 100000 in
theorem whole_far (n : Int) (hn : withinB n 0 65535 = false) (w : World) :
    Calls Try.prog 11 #[.int .i64 n] w fun e w' => e = .returned (.tuple #[.float .f32 0, .int .i64 3]) ∧ w = w' := by
  have DE := Lib.hid (fun V w => decoded_far n V hn w)
  clear hn
  go_enter Try.func11, Try.ntmps11
  go_wp2_with (go_at_call 66; (with_reducible refine Calls.mono (DE.out _ _) ?_); rintro e w' ⟨rfl, rfl⟩)
  go_ret2
  exact ⟨rfl, rfl⟩

theorem in_code {n : Int} (h0 : 0 ≤ n) (h1 : n < 65536) : withinB n 0 65535 = true := withinB_iff.2 ⟨h0, by omega⟩
/-- A half, by its sign and its magnitude. -/
theorem half_form {n : Int} (h0 : 0 ≤ n) (h1 : n < 65536) : ∃ (s : Bool) (q : Nat), q < 32768 ∧ n = ((s.toNat * 32768 + q : Nat) : Int) := by
  by_cases c : n < 32768
  · exact ⟨false, n.toNat, by omega, by simp; omega⟩
  · exact ⟨true, (n - 32768).toNat, by omega, by simp; omega⟩

set_option maxHeartbeats 1000000 in
set_option maxRecDepth 100000 in
theorem decoded_ok {n : Int} (g : Nat) (y : Nat) (hn : withinB n 0 65535 = true) (hg : g = 61 ∨ g = 67) (hf : ∀ w, Calls Try.prog g #[.int .i64 n] w fun e w' => e = .returned (.float .f32 y) ∧ w = w') (er : Int) (hw : wiE y 4286578687 2139095039 = er) (z : Nat) (hz : z = if er = 0 then y else 0) (w : World) :
    Calls Try.prog 66 #[.int .i64 n, .func (.func g) #[] #[]] w fun e w' => e = .returned (.tuple #[.float .f32 z, .int .i64 er]) ∧ w = w' := by
  have WI := Lib.hid (fun w => within_any n 0 65535 w)
  rw [hn] at WI
  have OF := Lib.hid hf
  have CW := Lib.hid (fun w => checkWithin_any y 4286578687 2139095039 w)
  rw [hw] at CW
  clear hn hf hw
  by_cases c : er = 0
  · rw [if_pos c] at hz
    subst hz c
    rcases hg with rfl | rfl
    · go_enter Try.func66, Try.ntmps66
      go_wp2_with (first
        | (go_at_call 79; (with_reducible refine Calls.mono (WI.out _) ?_); rintro e w' ⟨rfl, rfl⟩)
        | (go_at_call 61; (with_reducible refine Calls.mono (OF.out _) ?_); rintro e w' ⟨rfl, rfl⟩)
        | (go_at_call 127; (with_reducible refine Calls.mono (CW.out _) ?_); rintro e w' ⟨rfl, rfl⟩))
      go_ret2
      exact ⟨rfl, rfl⟩
    · go_enter Try.func66, Try.ntmps66
      go_wp2_with (first
        | (go_at_call 79; (with_reducible refine Calls.mono (WI.out _) ?_); rintro e w' ⟨rfl, rfl⟩)
        | (go_at_call 67; (with_reducible refine Calls.mono (OF.out _) ?_); rintro e w' ⟨rfl, rfl⟩)
        | (go_at_call 127; (with_reducible refine Calls.mono (CW.out _) ?_); rintro e w' ⟨rfl, rfl⟩))
      go_ret2
      exact ⟨rfl, rfl⟩
  · rw [if_neg c] at hz
    subst hz
    have c1 : (er != 0) = true := by simpa using c
    clear c
    rcases hg with rfl | rfl
    · go_enter Try.func66, Try.ntmps66
      go_wp2_with (first
        | (go_at_call 79; (with_reducible refine Calls.mono (WI.out _) ?_); rintro e w' ⟨rfl, rfl⟩)
        | (go_at_call 61; (with_reducible refine Calls.mono (OF.out _) ?_); rintro e w' ⟨rfl, rfl⟩)
        | (go_at_call 127; (with_reducible refine Calls.mono (CW.out _) ?_); rintro e w' ⟨rfl, rfl⟩))
      go_ret2
      exact ⟨rfl, rfl⟩
    · go_enter Try.func66, Try.ntmps66
      go_wp2_with (first
        | (go_at_call 79; (with_reducible refine Calls.mono (WI.out _) ?_); rintro e w' ⟨rfl, rfl⟩)
        | (go_at_call 67; (with_reducible refine Calls.mono (OF.out _) ?_); rintro e w' ⟨rfl, rfl⟩)
        | (go_at_call 127; (with_reducible refine Calls.mono (CW.out _) ?_); rintro e w' ⟨rfl, rfl⟩))
      go_ret2
      exact ⟨rfl, rfl⟩

/-- Whole of a half that is a number; of one that is none. -/
theorem whole_ok {s : Bool} {q : Nat} (h : q < 31744) {n : Int} (hn : n = ((s.toNat * 32768 + q : Nat) : Int)) (w : World) :
    Calls Try.prog 11 #[.int .i64 n] w fun e w' => e = .returned (.tuple #[.float .f32 (sw s (whW q)), .int .i64 0]) ∧ w = w' := by
  obtain ⟨-, -, m3, m4⟩ := mod_half (by omega) hn
  have DE := Lib.hid (fun w => decoded_ok 61 (sw s (whW q)) (in_code m3 m4) (.inl rfl) (fun w => ofHalf_any h hn w) 0 (wi_fin (whole_word h).2.1) _ rfl w)
  rw [if_pos rfl] at DE
  clear hn m3 m4
  generalize sw s (whW q) = y at *
  go_enter Try.func11, Try.ntmps11
  go_wp2_with (go_at_call 66; (with_reducible refine Calls.mono (DE.out _) ?_); rintro e w' ⟨rfl, rfl⟩)
  go_ret2
  exact ⟨rfl, rfl⟩
theorem whole_inf {s : Bool} {m : Nat} (h : m < 1024) {n : Int} (hn : n = ((s.toNat * 32768 + (31744 + m) : Nat) : Int)) (w : World) :
    Calls Try.prog 11 #[.int .i64 n] w fun e w' => e = .returned (.tuple #[.float .f32 0, .int .i64 2]) ∧ w = w' := by
  obtain ⟨-, -, m3, m4⟩ := mod_half (by omega) hn
  have DE := Lib.hid (fun w => decoded_ok 61 (sw s (2139095040 + m * 8192)) (in_code m3 m4) (.inl rfl) (fun w => ofHalf_inf h hn w) 2 (wi_inf (by omega) (by omega)) _ rfl w)
  rw [if_neg (by decide)] at DE
  clear hn m3 m4
  go_enter Try.func11, Try.ntmps11
  go_wp2_with (go_at_call 66; (with_reducible refine Calls.mono (DE.out _) ?_); rintro e w' ⟨rfl, rfl⟩)
  go_ret2
  exact ⟨rfl, rfl⟩

theorem tn_short (q : Nat) : ((q : Int) * 65536).toNat = q * 65536 := by omega
theorem ofShort_any {q : Nat} (h : q < 65536) (w : World) : Calls Try.prog 67 #[.int .i64 (q : Int)] w fun e w' => e = .returned (.float .f32 (q * 65536)) ∧ w = w' := by
  have hb : ∀ w : World, (callFunc 68 #[.int .u32 ((q : Int) * 65536)]).run Try.prog w = .ok (.value (.float .f32 (q * 65536))) w := fun w => by
    have := f32from ((q : Int) * 65536) w
    rwa [tn_short] at this
  generalize q * 65536 = z at *
  go_enter Try.func67, Try.ntmps67
  go_wp2
  go_ret
  exact ⟨rfl, rfl⟩
theorem long_far (n : Int) (hn : withinB n 0 65535 = false) (w : World) :
    Calls Try.prog 12 #[.int .i64 n] w fun e w' => e = .returned (.tuple #[.float .f32 0, .int .i64 3]) ∧ w = w' := by
  have DE := Lib.hid (fun V w => decoded_far n V hn w)
  clear hn
  go_enter Try.func12, Try.ntmps12
  go_wp2_with (go_at_call 66; (with_reducible refine Calls.mono (DE.out _ _) ?_); rintro e w' ⟨rfl, rfl⟩)
  go_ret2
  exact ⟨rfl, rfl⟩
theorem long_any {q : Nat} (h : q < 65536) (er : Int) (hw : wiE (q * 65536) 4286578687 2139095039 = er) (w : World) :
    Calls Try.prog 12 #[.int .i64 (q : Int)] w fun e w' => e = .returned (.tuple #[.float .f32 (if er = 0 then q * 65536 else 0), .int .i64 er]) ∧ w = w' := by
  have DE := Lib.hid (fun w => decoded_ok 67 (q * 65536) (in_code (by omega) (by omega)) (.inr rfl) (fun w => ofShort_any h w) er hw _ rfl w)
  generalize (if er = 0 then q * 65536 else 0) = z at *
  clear hw
  go_enter Try.func12, Try.ntmps12
  go_wp2_with (go_at_call 66; (with_reducible refine Calls.mono (DE.out _) ?_); rintro e w' ⟨rfl, rfl⟩)
  go_ret2
  exact ⟨rfl, rfl⟩

set_option maxHeartbeats 1000000 in
set_option maxRecDepth 100000 in
theorem short_any {s : Bool} {r : Nat} (hr : r ≤ 2139095040) (w : World) :
    Calls Try.prog 16 #[.float .f32 (sw s r)] w fun e w' => e = .returned (.int .i64 ((nrS (sw s r) : Nat) : Int)) ∧ w = w' := by
  obtain ⟨X, q, c1, -, -⟩ := conv_sign (sw_sg (s := s) hr)
  have CV := fun (W : World) => run_convert_float_float (P := Try.prog) W 22 32 .f32 .f64 (sw s r) X (by kernel_rfl) Try.underlying32 c1
  have IN := Lib.hid (fun w => isNaN_any X true (order_selfD (sw_sg (s := s) hr) c1) w)
  have hb := f32bits
  have hx : sw s r ≤ 4286578688 := by unfold sw; cases s <;> simp <;> omega
  have NN := Lib.hid (fun w => nearest16 (sw s r) hx w)
  have hk : nrS (sw s r) < 4294967296 := by unfold nrS; omega
  clear c1
  generalize sw s r = x at *
  generalize nrS x = k at *
  go_enter Try.func16, Try.ntmps16
  go_wp2_with (first
    | (go_at_call 70; (with_reducible refine (IN.out _).mono ?_); rintro e w' ⟨rfl, rfl⟩)
    | (go_at_call 71; (with_reducible refine (NN.out _).mono ?_); rintro e w' ⟨rfl, rfl⟩))
  go_ret
  exact ⟨rfl, rfl⟩

set_option maxHeartbeats 1000000 in
set_option maxRecDepth 100000 in
theorem half_any {s : Bool} {r : Nat} (hr : r ≤ 2139095040) (hq : nhR r < 31744) (b : Bool) (hb : (FloatKind.f32.format.order (sw s (whW (nhR r))) (sw s r) == some .eq) = b) (w : World) :
    Calls Try.prog 9 #[.float .f32 (sw s r)] w fun e w' => e = .returned (.tuple #[.int .i64 ((nhW s r : Nat) : Int), .bool b]) ∧ w = w' := by
  have NH := Lib.hid (fun w => nearestHalf_any (s := s) hr w)
  have OH := Lib.hid (fun w => ofHalf_any (s := s) (q := nhR r) hq (n := ((nhW s r : Nat) : Int)) rfl w)
  generalize nhW s r = k at *
  generalize sw s (whW (nhR r)) = y at *
  generalize sw s r = x at *
  clear hq hr
  cases b
  all_goals
    go_enter Try.func9, Try.ntmps9
    go_wp2_with (first
      | (go_at_call 60; (with_reducible refine (NH.out _).mono ?_); rintro e w' ⟨rfl, rfl⟩)
      | (go_at_call 61; (with_reducible refine (OH.out _).mono ?_); rintro e w' ⟨rfl, rfl⟩))
    go_ret2
    exact ⟨rfl, rfl⟩
end Go.Proofs.Ytkcehbnmcdppkaa

/- HalvesLeadBack: what its four parts ask, as facts (pure, and by the contracts). -/
namespace Go.Proofs.Ytkcehbnmcdppkaa
open Go.RowKit Fl
set_option linter.unusedVariables false

/-- A half's own word leads back to it. -/
theorem nhR_back {q : Nat} (h : q < 31744) : nhR (whW q) = q := by
  unfold nhR
  by_cases c : 1024 ≤ q
  · rw [whW_big h c, if_neg (by omega), if_neg (by omega)]
    unfold nrH
    omega
  · obtain ⟨-, h2, h3⟩ := whole_word h
    have hv : rv (whW q) = q * u24 := by
      have e := vS_pos h2
      rw [h3] at e
      have := Option.some.inj e
      have e2 : hvM q = q * u24 := by unfold hvM; rw [if_pos (by omega)]
      omega
    have p := u24_pos
    have hlt : whW q < 947912704 := by
      rw [← rv_lt', hv, rv_m14]
      exact Nat.mul_lt_mul_of_pos_right (by omega) p
    rw [if_neg (by omega), if_pos hlt, hv, rnq_mul _ _ p]

/-- P230, first half: a half that is a number. -/
theorem lead_half (n : Int) : ∃ (y : Nat) (e : Int), (∀ w, Calls Try.prog 11 #[.int .i64 n] w fun en w' => en = .returned (.tuple #[.float .f32 y, .int .i64 e]) ∧ w = w') ∧
    (e = 0 → ∀ w, Calls Try.prog 9 #[.float .f32 y] w fun en w' => en = .returned (.tuple #[.int .i64 n, .bool true]) ∧ w = w') := by
  cases hn : withinB n 0 65535 with
  | false => exact ⟨0, 3, fun w => whole_far n hn w, fun h => by omega⟩
  | true =>
    obtain ⟨n0, n1⟩ := withinB_iff.1 hn
    obtain ⟨s, q, hq, e⟩ := half_form n0 (show n < 65536 by omega)
    by_cases c : q < 31744
    · refine ⟨sw s (whW q), 0, fun w => whole_ok c e w, fun _ w => ?_⟩
      have h2 := (whole_word c).2.1
      have hb := nhR_back c
      have := half_any (s := s) (r := whW q) (by omega) (by rw [hb]; exact c) true (by
        rw [hb, f32f, order_self (sw_sg (s := s) (show whW q ≤ 2139095040 by omega))]; rfl) w
      rw [show ((nhW s (whW q) : Nat) : Int) = n by unfold nhW; rw [hb, e]] at this
      exact this
    · obtain ⟨m, rfl⟩ : ∃ m, q = 31744 + m := ⟨q - 31744, by omega⟩
      exact ⟨0, 2, fun w => whole_inf (by omega) e w, fun h => by omega⟩

theorem short_back {s : Bool} {r : Nat} : nrS (sw s (r * 65536)) = s.toNat * 32768 + r := by
  unfold nrS sw
  cases s
  · simp; omega
  · simp; omega
theorem short_word {s : Bool} {q : Nat} : (s.toNat * 32768 + q) * 65536 = sw s (q * 65536) := by
  unfold sw
  cases s
  · simp
  · simp; omega
/-- P230, the shorts. -/
theorem lead_short (n : Int) : ∃ (y : Nat) (e : Int), (∀ w, Calls Try.prog 12 #[.int .i64 n] w fun en w' => en = .returned (.tuple #[.float .f32 y, .int .i64 e]) ∧ w = w') ∧
    (e = 0 → ∀ w, Calls Try.prog 16 #[.float .f32 y] w fun en w' => en = .returned (.int .i64 n) ∧ w = w') := by
  cases hn : withinB n 0 65535 with
  | false => exact ⟨0, 3, fun w => long_far n hn w, fun h => by omega⟩
  | true =>
    obtain ⟨n0, n1⟩ := withinB_iff.1 hn
    obtain ⟨s, q, hq, e⟩ := half_form n0 (show n < 65536 by omega)
    have hk : s.toNat * 32768 + q < 65536 := by cases s <;> simp <;> omega
    obtain ⟨k, hk2⟩ : ∃ k, k = s.toNat * 32768 + q := ⟨_, rfl⟩
    have hz : k * 65536 = sw s (q * 65536) := by rw [hk2]; exact short_word
    rw [← hk2] at hk e
    subst e
    by_cases c : q < 32640
    · have hw := wi_fin (s := s) (r := q * 65536) (by omega)
      have hs := fun w => short_any (s := s) (r := q * 65536) (by omega) w
      rw [short_back, ← hk2] at hs
      rw [← hz] at hw hs
      exact ⟨k * 65536, 0, fun w => by have := long_any hk 0 hw w; rwa [if_pos rfl] at this, fun _ w => hs w⟩
    · have hw := wi_inf (s := s) (r := q * 65536) (by omega) (by omega)
      rw [← hz] at hw
      exact ⟨0, 2, fun w => by have := long_any hk 2 hw w; rwa [if_neg (by decide)] at this, fun h => by omega⟩
end Go.Proofs.Ytkcehbnmcdppkaa

/- HalvesLeadBack: what is lost, in doubles (pure). -/
namespace Go.Proofs.Ytkcehbnmcdppkaa
open Go.RowKit Fl
set_option linter.unusedVariables false

theorem opt_ltD {d : Option Ieee.Datum} {r : Nat} (h : d.map Ieee.double.write = some r) : r < b64 := by
  cases d with
  | none => cases h
  | some d => cases h; exact Ieee.Format.write_lt Ieee.double d

theorem conv_val {s : Bool} {r : Nat} (h : r < 2139095040) : ∃ X, floatToFloatBits .f32 (sw s r) .f64 = some X ∧ X < b64 ∧ vD X = some ((if s then -1 else 1) * ((rv r : Nat) : Int)) := by
  obtain ⟨X, c1, c2⟩ := toD_val (vS_sw (s := s) h)
  exact ⟨X, c1, conv32_lt c1, c2⟩

/-- The two tests of a magnitude's double. -/
theorem dbl_tests {s : Bool} {r lo hi cl ch : Nat} (hr : r ≤ 2139095040) (hl : vD cl = some ((rv lo : Nat) : Int)) (hh : vD ch = some ((rv hi : Nat) : Int)) (hhi : hi < 2139095040) (hlo : lo < 2139095040) :
    ∃ X, floatToFloatBits .f32 (sw s r) .f64 = some X ∧ X < b64 ∧ (FloatKind.f64.format.order (X % b63) cl == some .gt || FloatKind.f64.format.order (X % b63) cl == some .eq) = decide (lo ≤ r) ∧ (FloatKind.f64.format.order (X % b63) ch == some .lt || FloatKind.f64.format.order (X % b63) ch == some .eq) = decide (r ≤ hi) := by
  have f64f : FloatKind.f64.format = Ieee.double := rfl
  rcases Nat.lt_or_eq_of_le hr with h | h
  · obtain ⟨X, c1, c2, c3⟩ := conv_val (s := s) h
    have hA := abs_valD c3
    have e : ((if s then -1 else 1) * ((rv r : Nat) : Int)).natAbs = rv r := by
      rw [Int.natAbs_mul, Int.natAbs_natCast]; cases s <;> simp
    rw [e] at hA
    refine ⟨X, c1, c2, ?_, ?_⟩
    · rw [f64f, show b63 = 9223372036854775808 from rfl, geq_valD hA hl, decide_eq_decide]
      have := @rv_le lo r
      omega
    · rw [f64f, show b63 = 9223372036854775808 from rfl, leq_valD hA hh, decide_eq_decide]
      have := @rv_le r hi
      omega
  · subst h
    have hi' : Ieee.single.read (sw s 2139095040) = .infinity s := by cases s <;> decide
    have c1 := conv_infS hi'
    refine ⟨_, c1, conv32_lt c1, ?_, ?_⟩
    · have e : Ieee.double.word s Ieee.double.infRung % b63 = 9218868437227405312 := by cases s <;> decide
      rw [f64f, e, order_infD (show Ieee.double.read 9218868437227405312 = .infinity false by decide) hl]
      have : decide (lo ≤ 2139095040) = true := by simp; omega
      rw [this]; rfl
    · have e : Ieee.double.word s Ieee.double.infRung % b63 = 9218868437227405312 := by cases s <;> decide
      rw [f64f, e, order_infD (show Ieee.double.read 9218868437227405312 = .infinity false by decide) hh]
      have : decide (2139095040 ≤ hi) = false := by simp; omega
      rw [this]; rfl

/-- What is lost is within its bound. -/
theorem lost_ok {s : Bool} {r r' k Y : Nat} {X : Nat} (hr0 : 8388608 ≤ r) (hr : r < 2139095040) (hr' : r' < 2139095040) (hk : k ≤ 23) (h1 : r / 8388608 * 8388608 ≤ r') (h2 : r' ≤ r / 8388608 * 8388608 + 8388608) (h3 : r' ≤ r + 2 ^ (23 - k)) (h4 : r ≤ r' + 2 ^ (23 - k))
    (hY : Ieee.double.read Y = .number false 4503599627370496 ((k : Int) - 52)) (hX : floatToFloatBits .f32 (sw s r) .f64 = some X) :
    ∃ W D Q, floatToFloatBits .f32 (sw s r') .f64 = some W ∧ floatBits .sub .f64 W X = some D ∧ D < b64 ∧ floatBits .quo .f64 (X % b63) Y = some Q ∧ (FloatKind.f64.format.order (D % b63) Q == some .gt) = false := by
  obtain ⟨u, j, e1, e2, e3, e4⟩ := near_lost hr0 hk h1 h2 h3 h4
  obtain ⟨W, w1, w2, w3⟩ := conv_val (s := s) hr'
  obtain ⟨X', x1, x2, x3⟩ := conv_val (s := s) hr
  rw [hX] at x1; cases x1
  -- the difference
  have hc : ∃ c : Int, (if s then -1 else 1) * ((rv r' : Nat) : Int) - (if s then -1 else 1) * ((rv r : Nat) : Int) = c ∧ c.natAbs = u * 2 ^ j := by
    refine ⟨_, rfl, ?_⟩
    have z1 : (if s = true then (-1 : Int) else 1).natAbs = 1 := by cases s <;> rfl
    have z2 : (if r ≤ r' then (1 : Int) else -1).natAbs = 1 := by split <;> rfl
    rw [← Int.mul_sub, e1, Int.natAbs_mul, Int.natAbs_mul, Int.natAbs_natCast, z1, z2, Nat.one_mul, Nat.one_mul]
  obtain ⟨c, hc1, hc2⟩ := hc
  have hj : j ≤ 1180 := by omega
  obtain ⟨B, hB⟩ : ∃ B : Nat, B = 1300 := ⟨_, rfl⟩
  have hlt : c.natAbs < 2 ^ B := by
    rw [hc2]
    have e5 : (8388608 : Nat) = 2 ^ 23 := by decide
    calc u * 2 ^ j ≤ 8388608 * 2 ^ j := Nat.mul_le_mul_right _ e2
      _ = 2 ^ (23 + j) := by rw [e5]; exact (Nat.pow_add 2 23 j).symm
      _ < 2 ^ B := Nat.pow_lt_pow_right (by omega) (by omega)
  obtain ⟨D, d1, d2⟩ := vD_sub (u := u) (k := j) (B := B) w3 x3 hc1 hc2 (by
    have : (2 : Nat) ^ 53 = 9007199254740992 := by decide
    omega) hlt (by omega)
  have hD := abs_valD d2
  rw [hc2] at hD
  -- the bound
  have hq : ∃ Q V, floatBits .quo .f64 (X % b63) Y = some Q ∧ vD Q = some ((V : Nat) : Int) ∧ V * 2 ^ k = rv r := by
    have hx := read_rungs s hr
    rw [← sw_form] at hx
    obtain ⟨X2, M, I, c1, c2, c3, c4, c5⟩ := toD hx
    rw [hX] at c1; cases c1
    have ha := read_abs Ieee.double X
    rw [c2, swD] at ha
    simp only at ha
    rw [show (((rgE r : Nat) : Int) - 1074 + 1074).toNat = rgE r by omega] at c4
    have c4' : M * 2 ^ (I + 1074).toNat = rv r := c4
    have p0 : 0 < rv r := by have := rv_lt (show 0 < r by omega); omega
    have hM : M ≠ 0 := by
      intro z; rw [z, Nat.zero_mul] at c4'; omega
    have hI := c5 hM
    have hI2 : I ≤ 200 := by
      rcases Int.lt_or_le 200 I with l | l
      · exfalso
        obtain ⟨C, hC⟩ : ∃ C : Nat, C = 1202 := ⟨_, rfl⟩
        have g1 : 2 ^ C ≤ M * 2 ^ (I + 1074).toNat := by
          calc 2 ^ C ≤ 2 ^ (I + 1074).toNat := Nat.pow_le_pow_right (by omega) (by omega)
            _ ≤ M * 2 ^ (I + 1074).toNat := Nat.le_mul_of_pos_left _ (by omega)
        have g2 : rv r < 2 ^ C := by
          unfold rv
          have m1 := rgM_lt r
          have m2 : rgE r ≤ 1178 := by unfold rgE; split <;> omega
          have e5 : (16777216 : Nat) = 2 ^ 24 := by decide
          calc rgM r * 2 ^ rgE r < 16777216 * 2 ^ rgE r := Nat.mul_lt_mul_of_pos_right m1 (Nat.two_pow_pos _)
            _ = 2 ^ (24 + rgE r) := by rw [e5]; exact (Nat.pow_add 2 24 (rgE r)).symm
            _ ≤ 2 ^ C := Nat.pow_le_pow_right (by omega) (by omega)
        omega
      · exact l
    obtain ⟨Q, V, q1, q2, q3⟩ := quo_pow (t := k) ha hI hI2 hY rfl (by omega)
    exact ⟨Q, V, q1, by simpa using q2, q3.trans c4'⟩
  obtain ⟨Q, V, q1, q2, q3⟩ := hq
  refine ⟨W, D, Q, w1, d1, opt_ltD (d := (Ieee.double.read W).sum (Ieee.double.read X).opposite) d1, q1, ?_⟩
  rw [show FloatKind.f64.format = Ieee.double from rfl, show b63 = 9223372036854775808 from rfl, gtr_valD hD q2]
  have : V * 2 ^ k ≥ u * 2 ^ j * 2 ^ k := by rw [q3]; exact e4
  have h5 := Nat.le_of_mul_le_mul_right this (Nat.two_pow_pos k)
  refine decide_eq_false ?_
  generalize u * 2 ^ j = z at *
  omega
end Go.Proofs.Ytkcehbnmcdppkaa

/- The double of a NaN; math.Ldexp of two constants. -/
namespace Go.Proofs.Ytkcehbnmcdppkaa
open Go.RowKit Fl
set_option linter.unusedVariables false

/-- The double that the machine chooses for a NaN. -/
def nanD (x : Nat) (w : World) : Nat := Question.cut (.nanConv .f64 x) (w.tape w.drawn (.nanConv .f64 x))
theorem nanD_form (x : Nat) (w : World) : ∃ s k : Nat, s ≤ 1 ∧ 0 < k ∧ k < 4503599627370496 ∧ nanD x w = s * 9223372036854775808 + (9218868437227405312 + k) := by
  unfold nanD
  generalize w.tape w.drawn (.nanConv .f64 x) = t
  refine ⟨t % 2, 1 + t / 2 % (2 ^ 52 - 1), by omega, by omega, ?_, ?_⟩
  · have : (2 : Nat) ^ 52 = 4503599627370496 := by decide
    rw [this]; omega
  · show (t % 2) * 2 ^ 63 + 0x7ff0000000000000 + 1 + (t / 2) % (2 ^ 52 - 1) = _
    have e63 : (2 : Nat) ^ 63 = 9223372036854775808 := by decide
    rw [e63]
    omega
theorem nanD_lt (x : Nat) (w : World) : nanD x w < b64 := by
  obtain ⟨s, k, h1, h2, h3, h4⟩ := nanD_form x w
  rw [h4]
  show _ < 18446744073709551616
  omega
theorem nanD_order (x : Nat) (w : World) (c : Nat) : Ieee.double.order (nanD x w % b63) c = none := by
  obtain ⟨s, k, h1, h2, h3, h4⟩ := nanD_form x w
  have e : nanD x w % b63 = 9218868437227405312 + k := by
    rw [h4]
    show _ % 9223372036854775808 = _
    omega
  have r : Ieee.double.read (nanD x w % b63) = .nan false k := by
    rw [e]
    unfold Ieee.Format.read
    rw [swD, bnD, infD]
    have e2 : (2047 : Nat) * b52 = 9218868437227405312 := rfl
    have e3 : b52 = 4503599627370496 := rfl
    rw [e2, e3]
    obtain ⟨z, hz⟩ : ∃ z, z = 9218868437227405312 + k := ⟨_, rfl⟩
    rw [← hz]
    have a1 : (z / 9223372036854775808 % 2 == 1) = false := by
      have : z / 9223372036854775808 % 2 = 0 := by omega
      rw [this]; rfl
    have a2 : z % 9223372036854775808 = z := by omega
    simp only [a1, a2]
    rw [if_neg (by omega), if_neg (by omega), if_neg (by omega)]
    have a3 : z - 9218868437227405312 = k := by omega
    rw [a3]
  unfold Ieee.Format.order
  rw [r]
  rfl
theorem nan_geq (x : Nat) (w : World) (c : Nat) : (FloatKind.f64.format.order (nanD x w % b63) c == some .gt || FloatKind.f64.format.order (nanD x w % b63) c == some .eq) = false := by
  rw [show FloatKind.f64.format = Ieee.double from rfl, nanD_order]; rfl

theorem conv_nan {x : Nat} (h : ∃ s t, Ieee.single.read x = .nan s t) (w : World) : (convert 22 32 (.float .f32 x)).run Try.prog w = .ok (.float .f64 (nanD x w)) w.drew := by
  obtain ⟨s, t, h⟩ := h
  have he : FloatKind.f32.decode x = .nan s t := h
  have hs := Try.underlying22
  have hd := Try.underlying32
  have hf : Question.forced (.nanConv .f64 x) = false := rfl
  simp [convert, run_underlying hs, run_underlying hd, Conv.floatToFloat, he, hf]
  rfl
theorem read_nan {x : Nat} (h : 2139095040 < x % 2147483648) : ∃ s t, Ieee.single.read x = .nan s t := by
  unfold Ieee.Format.read
  rw [swS, binS', infS']
  simp only
  rw [if_neg (by omega), if_neg (by omega), if_neg (by omega)]
  exact ⟨_, _, rfl⟩


theorem abs_one (w : World) : Calls Try.prog 19 #[.float .f64 4607182418800017408] w fun e w' => e = .returned (.float .f64 4607182418800017408) ∧ w = w' := by
  have := mathAbs_any 4607182418800017408 w (show 4607182418800017408 < 18446744073709551616 by omega)
  rwa [show 4607182418800017408 % b63 = 4607182418800017408 from (show 4607182418800017408 % 9223372036854775808 = 4607182418800017408 by omega)] at this
theorem isNaN_one (w : World) : Calls Try.prog 70 #[.float .f64 4607182418800017408] w fun e w' => e = .returned (.bool false) ∧ w = w' := isNaN_any 4607182418800017408 true (by decide) w
theorem isInf_one (w : World) : Calls Try.prog 65 #[.float .f64 4607182418800017408, .int .i64 0] w fun e w' => e = .returned (.bool false) ∧ w = w' := isInf_any 4607182418800017408 false (show 4607182418800017408 < 18446744073709551616 by omega) (by
  rw [show 4607182418800017408 % b63 = 4607182418800017408 from (show 4607182418800017408 % 9223372036854775808 = 4607182418800017408 by omega)]
  decide) w
set_option maxHeartbeats 1000000 in
theorem normal_one (w : World) : Calls Try.prog 132 #[.float .f64 4607182418800017408] w fun e w' => e = .returned (.tuple #[.float .f64 4607182418800017408, .int .i64 0]) ∧ w = w' := by
  have AB := Lib.hid abs_one
  have o1 : (FloatKind.f64.format.order 4607182418800017408 4503599627370496 == some .lt) = false := by decide
  go_enter Try.func132, Try.ntmps132
  go_wp2_with (go_at_call 19; (with_reducible refine (AB.out _).mono ?_); rintro e w' ⟨rfl, rfl⟩)
  go_ret2
  exact ⟨rfl, rfl⟩

set_option maxHeartbeats 1000000 in
set_option maxRecDepth 100000 in
theorem ldexp14_in (w : World) : Calls Try.prog 75 #[.float .f64 4607182418800017408, .int .i64 (-14)] w fun e w' => e = .returned (.float .f64 4544132024016830464) ∧ w = w' := by
  have hb : ∀ w : World, (callFunc 73 #[.float .f64 4607182418800017408]).run Try.prog w = .ok (.value (.int .u64 4607182418800017408)) w := fun w => f64bits _ w
  have hc : ∀ w : World, (callFunc 72 #[.int .u64 4544132024016830464]).run Try.prog w = .ok (.value (.float .f64 4544132024016830464)) w := fun w => f64from _ w
  have IN := Lib.hid isNaN_one
  have II := Lib.hid isInf_one
  have NO := Lib.hid normal_one
  have o0 : (FloatKind.f64.format.order 4607182418800017408 0 == some .eq) = false := by decide
  have n1 : bits .and .i64 1023 2047 = 1023 := by kernel_rfl
  have n2 : bits .andNot .u64 4607182418800017408 9218868437227405312 = 0 := by kernel_rfl
  have n3 : bits .or .u64 0 4544132024016830464 = 4544132024016830464 := by kernel_rfl
  have M1 := fun (W : World) => run_float_arith (P := Try.prog) W .mul 32 .f64 4607182418800017408 4544132024016830464 4544132024016830464 (by kernel_rfl)
  go_enter Try.func75, Try.ntmps75
  go_wp2_with (first
    | (go_at_call 65; (with_reducible refine (II.out _).mono ?_); rintro e w' ⟨rfl, rfl⟩)
    | (go_at_call 70; (with_reducible refine (IN.out _).mono ?_); rintro e w' ⟨rfl, rfl⟩)
    | (go_at_call 132; (with_reducible refine (NO.out _).mono ?_); rintro e w' ⟨rfl, rfl⟩))
  go_ret
  exact ⟨rfl, rfl⟩
set_option maxHeartbeats 400000 in
theorem ldexp14 (w : World) : Calls Try.prog 20 #[.float .f64 4607182418800017408, .int .i64 (-14)] w fun e w' => e = .returned (.float .f64 4544132024016830464) ∧ w = w' := by
  have IN := Lib.hid ldexp14_in
  go_enter Try.func20, Try.ntmps20
  go_wp2_with (go_at_call 75; (with_reducible refine (IN.out _).mono ?_); rintro e w' ⟨rfl, rfl⟩)
  go_ret
  exact ⟨rfl, rfl⟩

set_option maxHeartbeats 1000000 in
set_option maxRecDepth 100000 in
theorem ldexp100_in (w : World) : Calls Try.prog 75 #[.float .f64 4607182418800017408, .int .i64 (-100)] w fun e w' => e = .returned (.float .f64 4156822456062967808) ∧ w = w' := by
  have hb : ∀ w : World, (callFunc 73 #[.float .f64 4607182418800017408]).run Try.prog w = .ok (.value (.int .u64 4607182418800017408)) w := fun w => f64bits _ w
  have hc : ∀ w : World, (callFunc 72 #[.int .u64 4156822456062967808]).run Try.prog w = .ok (.value (.float .f64 4156822456062967808)) w := fun w => f64from _ w
  have IN := Lib.hid isNaN_one
  have II := Lib.hid isInf_one
  have NO := Lib.hid normal_one
  have o0 : (FloatKind.f64.format.order 4607182418800017408 0 == some .eq) = false := by decide
  have n1 : bits .and .i64 1023 2047 = 1023 := by kernel_rfl
  have n2 : bits .andNot .u64 4607182418800017408 9218868437227405312 = 0 := by kernel_rfl
  have n3 : bits .or .u64 0 4156822456062967808 = 4156822456062967808 := by kernel_rfl
  have M1 := fun (W : World) => run_float_arith (P := Try.prog) W .mul 32 .f64 4607182418800017408 4156822456062967808 4156822456062967808 (by kernel_rfl)
  go_enter Try.func75, Try.ntmps75
  go_wp2_with (first
    | (go_at_call 65; (with_reducible refine (II.out _).mono ?_); rintro e w' ⟨rfl, rfl⟩)
    | (go_at_call 70; (with_reducible refine (IN.out _).mono ?_); rintro e w' ⟨rfl, rfl⟩)
    | (go_at_call 132; (with_reducible refine (NO.out _).mono ?_); rintro e w' ⟨rfl, rfl⟩))
  go_ret
  exact ⟨rfl, rfl⟩
set_option maxHeartbeats 400000 in
theorem ldexp100 (w : World) : Calls Try.prog 20 #[.float .f64 4607182418800017408, .int .i64 (-100)] w fun e w' => e = .returned (.float .f64 4156822456062967808) ∧ w = w' := by
  have IN := Lib.hid ldexp100_in
  go_enter Try.func20, Try.ntmps20
  go_wp2_with (go_at_call 75; (with_reducible refine (IN.out _).mono ?_); rintro e w' ⟨rfl, rfl⟩)
  go_ret
  exact ⟨rfl, rfl⟩
end Go.Proofs.Ytkcehbnmcdppkaa

/- math.Ldexp of small whole numbers. -/
namespace Go.Proofs.Ytkcehbnmcdppkaa
open Go.RowKit Fl
set_option linter.unusedVariables false

theorem and_top {x : Nat} (h : x < 9223372036854775808) : x &&& (18446744073709551615 - 9218868437227405312) = x % 4503599627370496 := by
  have e : (18446744073709551615 - 9218868437227405312 : Nat) = 2 ^ 63 ||| (2 ^ 52 - 1) := by decide
  rw [e, Nat.and_or_distrib_left, Nat.and_two_pow_sub_one_eq_mod]
  have z : x &&& 2 ^ 63 = 0 := by
    apply Nat.eq_of_testBit_eq
    intro i
    rw [Nat.testBit_and, Nat.testBit_two_pow, Nat.zero_testBit]
    by_cases c : 63 = i
    · subst c
      have : x.testBit 63 = false := Nat.testBit_lt_two_pow (by have : (2 : Nat) ^ 63 = 9223372036854775808 := by decide
                                                                omega)
      rw [this]; rfl
    · simp [c]
  rw [z, Nat.zero_or]

theorem and_2047 {E : Nat} (h : E < 2047) : bits .and .i64 (E : Int) 2047 = (E : Int) := by
  have hb : ∀ n : Nat, n < 2047 → bits BinOp.and IntKind.i64 (n : Int) 2047 = (n : Int) := by decide +kernel
  exact hb E h
/-- The double of a whole number, by its parts. -/
theorem whole_parts {Z k : Nat} (hZ : vD Z = some ((k * one : Nat) : Int)) (hZ2 : Z < 18446744073709551616) (hk : 1 ≤ k) (hk2 : k ≤ 2047) :
    ∃ E f, Z = E * 4503599627370496 + f ∧ f < 4503599627370496 ∧ 1023 ≤ E ∧ E ≤ 1034 ∧ (4503599627370496 + f) * 2 ^ (E - 1) = k * one := by
  obtain ⟨s, E, f, hs, hE, hf, rfl⟩ := parts_of (show Z < 2 * s63 from hZ2) hZ
  rw [vD_parts hs hE hf] at hZ
  have hZ' := Option.some.inj hZ
  have p := one_pos
  have kp : 0 < k * one := Nat.mul_pos hk p
  have h0 : s = 0 := by
    rcases (show s = 0 ∨ s = 1 by omega) with h | h
    · exact h
    · rw [if_pos h] at hZ'; omega
  subst h0
  simp only [Nat.zero_ne_one, if_false, Int.one_mul] at hZ'
  have hm : magOf E f = k * one := by omega
  have hE1 : 1023 ≤ E := by
    rcases Nat.lt_or_ge E 1023 with c | c
    · have := mag_small c hf
      have : one ≤ k * one := Nat.le_mul_of_pos_left _ hk
      omega
    · exact c
  have hme : magOf E f = (b52 + f) * 2 ^ (E - 1) := by unfold magOf; rw [if_neg (by omega)]
  rw [hme] at hm
  have hE2 : E ≤ 1034 := by
    rcases Nat.lt_or_ge 1034 E with c | c
    · exfalso
      obtain ⟨J, hJ⟩ : ∃ J : Nat, J = 1074 := ⟨_, rfl⟩
      have g1 : k * one < 2 ^ (11 + J) := by
        rw [Nat.pow_add, ← one_pow hJ]
        exact Nat.mul_lt_mul_of_pos_right (by omega) p
      have g2 : 2 ^ (11 + J) ≤ (b52 + f) * 2 ^ (E - 1) := by
        have e52 : b52 = 2 ^ 52 := by decide
        calc 2 ^ (11 + J) ≤ 2 ^ (52 + (E - 1)) := Nat.pow_le_pow_right (by omega) (by omega)
          _ = b52 * 2 ^ (E - 1) := by rw [e52]; exact Nat.pow_add 2 52 (E - 1)
          _ ≤ _ := Nat.mul_le_mul_right _ (by omega)
      omega
    · exact c
  refine ⟨E, f, ?_, hf, hE1, hE2, hm⟩
  show 0 * s63 + E * 4503599627370496 + f = _
  omega

/-- One times a double that is not small. -/
theorem one_mulD {E f : Nat} (h1 : 900 ≤ E) (h2 : E ≤ 1100) (hf : f < 4503599627370496) : ∃ R, floatBits .mul .f64 4607182418800017408 (E * 4503599627370496 + f) = some R ∧ R < b64 ∧ vD R = some (((4503599627370496 + f) * 2 ^ (E - 1) : Nat) : Int) := by
  have hr := read_parts (s := 0) (E := E) (f := f) (by omega) (by omega) hf
  rw [if_neg (by omega)] at hr
  have hZ : 0 * s63 + E * b52 + f = E * 4503599627370496 + f := by
    show 0 * s63 + E * 4503599627370496 + f = _
    omega
  rw [hZ] at hr
  have h1' : Ieee.double.read 4607182418800017408 = .number false 4503599627370496 (-52) := by decide
  have e52 : (4503599627370496 : Nat) = 2 ^ 52 := by decide
  have hp : ∃ r, ((Ieee.double.read 4607182418800017408).product (Ieee.double.read (E * 4503599627370496 + f))).map Ieee.double.write = some r ∧ r = Ieee.double.nearest false (4503599627370496 * (4503599627370496 + f)) (-52 + ((E : Int) - 1075)) := by
    rw [h1', hr]
    exact ⟨_, rfl, rfl⟩
  obtain ⟨r, r1, r2⟩ := hp
  refine ⟨r, r1, opt_ltD r1, ?_⟩
  have hV : 4503599627370496 * (4503599627370496 + f) * 2 ^ (-52 + ((E : Int) - 1075) - (-1074)).toNat = (4503599627370496 + f) * 2 ^ (E - 1) := by
    rw [show (-52 + ((E : Int) - 1075) - (-1074)).toNat = E - 53 by omega, Nat.mul_comm 4503599627370496, Nat.mul_assoc]
    congr 1
    rw [e52, ← Nat.pow_add]
    congr 1
    omega
  obtain ⟨B, hB⟩ : ∃ B : Nat, B = 1300 := ⟨_, rfl⟩
  have hlt : (4503599627370496 + f) * 2 ^ (E - 1) < 2 ^ B := by
    have : 4503599627370496 + f < 2 ^ 53 := by
      have : (2 : Nat) ^ 53 = 9007199254740992 := by decide
      omega
    calc (4503599627370496 + f) * 2 ^ (E - 1) < 2 ^ 53 * 2 ^ (E - 1) := Nat.mul_lt_mul_of_pos_right this (Nat.two_pow_pos _)
      _ = 2 ^ (53 + (E - 1)) := (Nat.pow_add 2 53 (E - 1)).symm
      _ ≤ 2 ^ B := Nat.pow_le_pow_right (by omega) (by omega)
  rw [r2, nearest_val Ieee.double false (-1074) 0 leastD _ (p := -52 + ((E : Int) - 1075)) (by omega), hV, vD_word hlt (by omega), rd_exact Ieee.double 0 (4503599627370496 + f) (E - 1) (by
    rw [fbD]
    have : (2 : Nat) ^ (52 + 1) = 9007199254740992 := by decide
    omega) (by omega)]
  simp

set_option maxHeartbeats 1000000 in
set_option maxRecDepth 100000 in
theorem ldexp_in {E f : Nat} {e : Int} (hf : f < 4503599627370496) (h1 : 1023 ≤ E) (h2 : E ≤ 1034) (e1 : -30 ≤ e) (e2 : e ≤ 10) {R : Nat} (hR : floatBits .mul .f64 4607182418800017408 (((E : Int) + e).toNat * 4503599627370496 + f) = some R) (w : World) :
    Calls Try.prog 75 #[.float .f64 (E * 4503599627370496 + f), .int .i64 e] w fun en w' => en = .returned (.float .f64 R) ∧ w = w' := by
  obtain ⟨Z, hZ⟩ : ∃ Z, Z = E * 4503599627370496 + f := ⟨_, rfl⟩
  obtain ⟨E', hE'⟩ : ∃ E', E' = ((E : Int) + e).toNat := ⟨_, rfl⟩
  have hE2 : (E' : Int) = (E : Int) + e := by omega
  rw [← hE'] at hR
  rw [← hZ]
  have hZlt : Z < 9223372036854775808 := by omega
  have hv : vD Z = some ((((4503599627370496 + f) * 2 ^ (E - 1) : Nat) : Nat) : Int) := by
    have := vD_parts (s := 0) (E := E) (f := f) (by omega) (by omega) hf
    rw [show 0 * s63 + E * b52 + f = Z by rw [hZ]; show 0 * s63 + E * 4503599627370496 + f = _; omega] at this
    rw [this]
    unfold magOf
    rw [if_neg (show ¬ E = 0 by omega)]
    simp [show b52 = 4503599627370496 from rfl]
  have hpos : 0 < (4503599627370496 + f) * 2 ^ (E - 1) := Nat.mul_pos (by omega) (Nat.two_pow_pos _)
  have o0 : (FloatKind.f64.format.order Z 0 == some .eq) = false := by
    have z0 : vD 0 = some 0 := by decide
    rw [show FloatKind.f64.format = Ieee.double from rfl, eql_valD hv z0]
    refine decide_eq_false ?_
    omega
  have ab : ∀ w, Calls Try.prog 19 #[.float .f64 Z] w fun e w' => e = .returned (.float .f64 Z) ∧ w = w' := fun w => by
    have := mathAbs_any Z w (show Z < 18446744073709551616 by omega)
    rwa [show Z % b63 = Z from (show Z % 9223372036854775808 = Z by omega)] at this
  have isn : ∀ w, Calls Try.prog 70 #[.float .f64 Z] w fun e w' => e = .returned (.bool false) ∧ w = w' := fun w => isNaN_any Z true (by rw [show FloatKind.f64.format = Ieee.double from rfl, eql_valD hv hv]; simp) w
  have isi : ∀ w, Calls Try.prog 65 #[.float .f64 Z, .int .i64 0] w fun e w' => e = .returned (.bool false) ∧ w = w' := fun w => isInf_any Z false (show Z < 18446744073709551616 by omega) (by
    rw [show Z % b63 = Z from (show Z % 9223372036854775808 = Z by omega), show FloatKind.f64.format = Ieee.double from rfl]
    obtain ⟨T, hT⟩ : ∃ T : Nat, T = 2046 := ⟨_, rfl⟩
    have hm := vD_parts (s := 0) (E := T) (f := 4503599627370495) (by omega) (by omega) (by decide)
    rw [show 0 * s63 + T * b52 + 4503599627370495 = 9218868437227405311 by show 0 * s63 + T * 4503599627370496 + 4503599627370495 = _; omega, if_neg (by omega), Int.one_mul] at hm
    rw [gtr_valD hv hm]
    refine decide_eq_false ?_
    have : (4503599627370496 + f) * 2 ^ (E - 1) ≤ magOf T 4503599627370495 := by
      unfold magOf
      rw [if_neg (by omega), show b52 = 4503599627370496 from rfl]
      exact Nat.mul_le_mul (by omega) (Nat.pow_le_pow_right (by omega) (by omega))
    omega) w
  have IN := Lib.hid isn
  have II := Lib.hid isi
  have no : ∀ w, Calls Try.prog 132 #[.float .f64 Z] w fun e w' => e = .returned (.tuple #[.float .f64 Z, .int .i64 0]) ∧ w = w' := fun w => by
    have AB := Lib.hid ab
    have o1 : (FloatKind.f64.format.order Z 4503599627370496 == some .lt) = false := by
      have hm : vD 4503599627370496 = some ((magOf 1 0 : Nat) : Int) := by
        have := vD_parts (s := 0) (E := 1) (f := 0) (by omega) (by omega) (by decide)
        simpa [show b52 = 4503599627370496 from rfl] using this
      rw [show FloatKind.f64.format = Ieee.double from rfl, lss_valD hv hm]
      refine decide_eq_false ?_
      have : magOf 1 0 ≤ (4503599627370496 + f) * 2 ^ (E - 1) := by
        unfold magOf
        rw [if_neg (by decide), show b52 = 4503599627370496 from rfl]
        exact Nat.mul_le_mul (by omega) (Nat.pow_le_pow_right (by omega) (by omega))
      omega
    clear isn isi hv hR hpos o0 hZ
    go_enter Try.func132, Try.ntmps132
    go_wp2_with (go_at_call 19; (with_reducible refine (AB.out _).mono ?_); rintro e w' ⟨rfl, rfl⟩)
    go_ret2
    exact ⟨rfl, rfl⟩
  have NO := Lib.hid no
  have hb : ∀ w : World, (callFunc 73 #[.float .f64 Z]).run Try.prog w = .ok (.value (.int .u64 (Z : Int))) w := fun w => f64bits _ w
  have hc : ∀ w : World, (callFunc 72 #[.int .u64 ((E' * 4503599627370496 + f : Nat) : Int)]).run Try.prog w = .ok (.value (.float .f64 (E' * 4503599627370496 + f))) w := fun w => f64from _ w
  have M1 := fun (W : World) => run_float_arith (P := Try.prog) W .mul 32 .f64 _ _ _ hR
  have z1 : (Z : Int) / 4503599627370496 = (E : Int) := by rw [hZ]; omega
  have n1 : bits .and .i64 (E : Int) 2047 = (E : Int) := and_2047 (by omega)
  have n2 : bits .andNot .u64 (Z : Int) 9218868437227405312 = (f : Int) := by
    have := u64_andNot_nat Z 9218868437227405312 (by omega) (by omega)
    rw [and_top hZlt] at this
    rw [show ((9218868437227405312 : Nat) : Int) = 9218868437227405312 from rfl] at this
    rw [this, hZ]
    omega
  have n3 : bits .or .u64 (f : Int) ((e + ((E : Int) - 1023) + 1023) * 4503599627370496) = ((E' * 4503599627370496 + f : Nat) : Int) := by
    have := u64_or_nat f (E' * 4503599627370496) (by omega) (by omega)
    have e3 : f ||| E' * 4503599627370496 = E' * 4503599627370496 + f := by
      have e52 : (4503599627370496 : Nat) = 2 ^ 52 := by decide
      have := Nat.two_pow_add_eq_or_of_lt (i := 52) (b := f) (by rw [← e52]; exact hf) E'
      rw [← e52] at this
      rw [Nat.or_comm, Nat.mul_comm]
      exact this.symm
    rw [e3] at this
    rw [← this]
    congr 1
    rw [Int.natCast_mul, hE2]
    have : e + ((E : Int) - 1023) + 1023 = (E : Int) + e := by omega
    rw [this]
    rfl
  clear hv hpos ab isn isi no hR hZ hE'
  generalize E' * 4503599627370496 + f = R0 at *
  go_enter Try.func75, Try.ntmps75
  go_wp2_with (first
    | (go_at_call 65; (with_reducible refine (II.out _).mono ?_); rintro e w' ⟨rfl, rfl⟩)
    | (go_at_call 70; (with_reducible refine (IN.out _).mono ?_); rintro e w' ⟨rfl, rfl⟩)
    | (go_at_call 132; (with_reducible refine (NO.out _).mono ?_); rintro e w' ⟨rfl, rfl⟩))
  go_ret
  exact ⟨rfl, rfl⟩

/-- math.Ldexp of a small whole number. -/
theorem ldexp_any {Z k : Nat} {e : Int} (hZ : vD Z = some ((k * one : Nat) : Int)) (hZ2 : Z < 18446744073709551616) (hk : 1 ≤ k) (hk2 : k ≤ 2047) (e1 : -30 ≤ e) (e2 : e ≤ 10) :
    ∃ R, R < b64 ∧ vD R = some ((k * 2 ^ (e + 1074).toNat : Nat) : Int) ∧ ∀ w, Calls Try.prog 20 #[.float .f64 Z, .int .i64 e] w fun en w' => en = .returned (.float .f64 R) ∧ w = w' := by
  obtain ⟨E, f, rfl, hf, h1, h2, hv⟩ := whole_parts hZ hZ2 hk hk2
  obtain ⟨R, r1, r2, r3⟩ := one_mulD (E := ((E : Int) + e).toNat) (f := f) (by omega) (by omega) hf
  refine ⟨R, r2, ?_, fun w => ?_⟩
  · rw [r3]
    congr 2
    obtain ⟨J, hJ⟩ : ∃ J : Nat, J = 1074 := ⟨_, rfl⟩
    rw [one_pow hJ] at hv
    refine Nat.eq_of_mul_eq_mul_right (Nat.two_pow_pos 30) ?_
    rw [Nat.mul_assoc, Nat.mul_assoc, ← Nat.pow_add, ← Nat.pow_add, show ((E : Int) + e).toNat - 1 + 30 = (E - 1) + (30 + e).toNat by omega, Nat.pow_add, ← Nat.mul_assoc, hv, Nat.mul_assoc, ← Nat.pow_add, show J + (30 + e).toNat = (e + 1074).toNat + 30 by omega]
  · have IN := Lib.hid (fun w => ldexp_in hf h1 h2 e1 e2 r1 w)
    clear hZ hZ2 hv r1 r3
    generalize E * 4503599627370496 + f = Z at *
    go_enter Try.func20, Try.ntmps20
    go_wp2_with (go_at_call 75; (with_reducible refine (IN.out _).mono ?_); rintro e w' ⟨rfl, rfl⟩)
    go_ret
    exact ⟨rfl, rfl⟩
end Go.Proofs.Ytkcehbnmcdppkaa

/- Contracts of the reference: halfValue and the value of a half; WholeOf, LongOf, ShortOf. -/
namespace Go.Proofs.Ytkcehbnmcdppkaa
open Go.RowKit Fl
set_option linter.unusedVariables false

theorem i64_and_nat (a b : Nat) (ha : a < 4611686018427387904) (hb : b < 4611686018427387904) : bits .and .i64 (a : Int) (b : Int) = ((a &&& b : Nat) : Int) := by
  have hx : a &&& b < 2 ^ 62 := Nat.and_lt_two_pow _ (by omega)
  have o : ∀ x : Nat, x < 4611686018427387904 → (BitVec.ofInt 64 (x : Int)).toNat = x := fun x hx => by
    rw [BitVec.ofInt_natCast, BitVec.toNat_ofNat]; exact Nat.mod_eq_of_lt (by omega)
  show IntKind.i64.wrap ((BitVec.ofInt 64 (a : Int) &&& BitVec.ofInt 64 (b : Int)).toNat : Int) = _
  rw [BitVec.toNat_and, o a ha, o b hb]
  exact IntWalk.i64_in _ (by omega)

set_option maxHeartbeats 1000000 in
theorem ldexp_zero (e : Int) (w : World) : Calls Try.prog 20 #[.float .f64 0, .int .i64 e] w fun en w' => en = .returned (.float .f64 0) ∧ w = w' := by
  have o0 : (FloatKind.f64.format.order 0 0 == some .eq) = true := by decide
  have IN : ∀ w, Calls Try.prog 75 #[.float .f64 0, .int .i64 e] w fun en w' => en = .returned (.float .f64 0) ∧ w = w' := fun w => by
    go_enter Try.func75, Try.ntmps75
    go_wp2
    go_ret
    exact ⟨rfl, rfl⟩
  have IN2 := Lib.hid IN
  clear IN o0
  go_enter Try.func20, Try.ntmps20
  go_wp2_with (go_at_call 75; (with_reducible refine (IN2.out _).mono ?_); rintro e w' ⟨rfl, rfl⟩)
  go_ret
  exact ⟨rfl, rfl⟩

theorem hvM_pos {q : Nat} (h : 1 ≤ q) : 0 < hvM q := by
  unfold hvM
  split
  · exact Nat.mul_pos h u24_pos
  · exact Nat.mul_pos (by omega) (Nat.two_pow_pos _)
/-- The single of a half's double. -/
theorem conv_half {R q : Nat} (h0 : 1 ≤ q) (h1 : q < 31744) (hR : vD R = some ((hvM q : Nat) : Int)) : floatToFloatBits .f64 R .f32 = some (whW q) := by
  obtain ⟨s, M, I, hr, hv⟩ := vD_some hR
  have lo := read_dbl_low hr
  have hp := hvM_pos h0
  rw [vOf_mag] at hv
  have hs : s = false := by
    cases s with
    | false => rfl
    | true => simp only [if_true] at hv; omega
  subst hs
  simp only [Bool.false_eq_true, if_false, Int.one_mul] at hv
  have hV : M * 2 ^ (I + 1074).toNat = hvM q := by omega
  obtain ⟨-, w2, w3⟩ := whole_word h1
  obtain ⟨t, j, ht, hj, e⟩ := vS_form w3
  have hn := nearest_val Ieee.single false (-1074) 925 leastS M (p := I) lo
  rw [show (I - (-1074)).toNat = (I + 1074).toNat by omega, hV] at hn
  obtain ⟨B, hB⟩ : ∃ B : Nat, B = 1100 := ⟨_, rfl⟩
  have hlt : hvM q < 2 ^ B := by
    unfold hvM
    split
    · obtain ⟨K, hK⟩ : ∃ K : Nat, K = 1050 := ⟨_, rfl⟩
      rw [u24_pow hK]
      calc q * 2 ^ K < 1024 * 2 ^ K := Nat.mul_lt_mul_of_pos_right (by omega) (Nat.two_pow_pos _)
        _ = 2 ^ (10 + K) := (Nat.pow_add 2 10 K).symm
        _ ≤ 2 ^ B := Nat.pow_le_pow_right (by omega) (by omega)
    · calc (1024 + q % 1024) * 2 ^ (1049 + q / 1024) < 2048 * 2 ^ (1049 + q / 1024) := Nat.mul_lt_mul_of_pos_right (by omega) (Nat.two_pow_pos _)
        _ = 2 ^ (11 + (1049 + q / 1024)) := (Nat.pow_add 2 11 _).symm
        _ ≤ 2 ^ B := Nat.pow_le_pow_right (by omega) (by omega)
  have e2 : hvM q = t.natAbs * 2 ^ j := by
    have := congrArg Int.natAbs e
    rw [Int.natAbs_mul, Int.natAbs_natCast, Int.natAbs_natCast] at this
    exact this
  have hword : vS (wordAt Ieee.single 925 false (hvM q)) = some ((hvM q : Nat) : Int) := by
    rw [vS_word hlt (by omega), e2, rd_exact Ieee.single 925 t.natAbs j (by rw [fbS]; exact ht) hj]
    simp
  have hwd : wordAt Ieee.single 925 false (hvM q) < 4294967296 := by
    rw [← hn]
    exact Ieee.Format.write_lt Ieee.single (.number false M I)
  have hin := word_inj hwd (by omega) hword w3 (by omega)
  have hb := back_sgl hr (by
    rw [hn]
    obtain ⟨s', m', p', h', -⟩ := vS_some hword
    obtain ⟨q', hq1, hq2⟩ := near_word false M I
    have sg := near_sg false M I
    rw [hn] at sg
    rcases sg with g | g
    · exact g
    · rw [g] at h'; cases h')
  rw [hb, hn, hin]

theorem c1024 : vD 4652218415073722368 = some ((1024 * one : Nat) : Int) := by
  have h : Ieee.double.read 4652218415073722368 = .number false 4503599627370496 (-42) := by decide
  obtain ⟨J, hJ⟩ : ∃ J : Nat, J = 1074 := ⟨_, rfl⟩
  rw [vD_num h, vOf_mag, show ((-42 : Int) + 1074).toNat = J - 42 by omega, one_pow hJ]
  have : 4503599627370496 * 2 ^ (J - 42) = 1024 * 2 ^ J := by
    rw [show (4503599627370496 : Nat) = 2 ^ 52 by decide, show (1024 : Nat) = 2 ^ 10 by decide, ← Nat.pow_add, ← Nat.pow_add, show 52 + (J - 42) = 10 + J by omega]
  rw [this]; simp
theorem c65536 : vD 4679240012837945344 = some ((hvM 31744 : Nat) : Int) := by
  have h : Ieee.double.read 4679240012837945344 = .number false 4503599627370496 (-36) := by decide
  obtain ⟨J, hJ⟩ : ∃ J : Nat, J = 1038 := ⟨_, rfl⟩
  rw [vD_num h, vOf_mag, show ((-36 : Int) + 1074).toNat = J by omega]
  have : 4503599627370496 * 2 ^ J = hvM 31744 := by
    unfold hvM
    rw [if_neg (by decide), show (4503599627370496 : Nat) = 2 ^ 52 by decide, show 1024 + 31744 % 1024 = 2 ^ 10 by decide, show 1049 + 31744 / 1024 = 42 + J by omega, ← Nat.pow_add, ← Nat.pow_add, show 52 + J = 10 + (42 + J) by omega]
  rw [this]; simp

set_option maxHeartbeats 1000000 in
set_option maxRecDepth 100000 in
theorem halfValue_any {q : Nat} (h : q < 31744) : ∃ R, R < b64 ∧ vD R = some ((hvM q : Nat) : Int) ∧ floatToFloatBits .f64 R .f32 = some (whW q) ∧ ∀ w, Calls Try.prog 64 #[.int .i64 (q : Int)] w fun en w' => en = .returned (.float .f64 R) ∧ w = w' := by
  have n1 : bits .and .i64 (q : Int) 1023 = ((q % 1024 : Nat) : Int) := by
    have := i64_and_nat q 1023 (by omega) (by omega)
    rw [show q &&& 1023 = q % 1024 from Nat.and_two_pow_sub_one_eq_mod q 10] at this
    exact this
  have sh : (q : Int) / 1024 = ((q / 1024 : Nat) : Int) := by omega
  have hval := int_valD (n := q % 1024) (by have : (2 : Nat) ^ 53 = 9007199254740992 := by decide
                                            omega)
  have hlt : floatOfInt .f64 ((q % 1024 : Nat) : Int) < b64 := opt_ltD (d := some (Ieee.Datum.number (decide (((q % 1024 : Nat) : Int) < 0)) (q % 1024) 0)) rfl
  obtain ⟨J, hJ⟩ : ∃ J : Nat, J = 1074 := ⟨_, rfl⟩
  by_cases c : q < 1024
  · have e0 : (q : Int) / 1024 = 0 := by omega
    rw [show q % 1024 = q by omega] at hval n1 hlt
    by_cases z : q = 0
    · subst z
      have LZ := Lib.hid (fun w => ldexp_zero (-24) w)
      have f0 : floatOfInt .f64 0 = 0 := by decide
      refine ⟨0, by decide, by rw [show hvM 0 = 0 by unfold hvM; simp]; decide, by decide, fun w => ?_⟩
      have n0 : bits .and .i64 0 1023 = 0 := by kernel_rfl
      clear hval hlt e0 sh h n1
      go_enter Try.func64, Try.ntmps64
      go_wp2_with (go_at_call 20; (with_reducible refine (LZ.out _).mono ?_); rintro e w' ⟨rfl, rfl⟩)
      go_ret
      exact ⟨rfl, rfl⟩
    · obtain ⟨R, r1, r2, r3⟩ := ldexp_any (e := -24) hval hlt (by omega) (by omega) (by omega) (by omega)
      have hv : vD R = some ((hvM q : Nat) : Int) := by
        rw [r2]
        congr 2
        unfold hvM
        obtain ⟨K, hK⟩ : ∃ K : Nat, K = 1050 := ⟨_, rfl⟩
        rw [if_pos c, u24_pow hK, show ((-24 : Int) + 1074).toNat = K by omega]
      refine ⟨R, r1, hv, conv_half (by omega) h hv, fun w => ?_⟩
      have LZ := Lib.hid r3
      clear r3 hv r2 r1 hval hlt sh
      go_enter Try.func64, Try.ntmps64
      go_wp2_with (go_at_call 20; (with_reducible refine (LZ.out _).mono ?_); rintro e w' ⟨rfl, rfl⟩)
      go_ret
      exact ⟨rfl, rfl⟩
  · obtain ⟨m, hm⟩ : ∃ m, m = q % 1024 := ⟨_, rfl⟩
    obtain ⟨E, hE⟩ : ∃ E, E = q / 1024 := ⟨_, rfl⟩
    rw [← hm] at hval n1 hlt
    rw [← hE] at sh
    have hm2 : m < 1024 := by omega
    have hE1 : 1 ≤ E := by omega
    have hE2 : E ≤ 30 := by omega
    have hsum : ((1024 * one : Nat) : Int) + ((m * one : Nat) : Int) = (((1024 + m) * one : Nat) : Int) := by rw [← Int.natCast_add, ← Nat.add_mul]
    obtain ⟨Z, z1, z2⟩ := vD_add (u := 1024 + m) (k := J) (B := 11 + J) c1024 hval hsum (by rw [Int.natAbs_natCast, one_pow hJ]) (by
      have : (2 : Nat) ^ 53 = 9007199254740992 := by decide
      omega) (by
      rw [Int.natAbs_natCast, Nat.pow_add, one_pow hJ]
      exact Nat.mul_lt_mul_of_pos_right (by omega) (Nat.two_pow_pos _)) (by omega)
    have zl : Z < b64 := opt_ltD (d := (Ieee.double.read 4652218415073722368).sum (Ieee.double.read (floatOfInt .f64 (m : Int)))) z1
    obtain ⟨R, r1, r2, r3⟩ := ldexp_any (e := (E : Int) - 25) z2 zl (by omega) (by omega) (by omega) (by omega)
    have hv : vD R = some ((hvM q : Nat) : Int) := by
      rw [r2]
      congr 2
      unfold hvM
      rw [if_neg c, ← hm, ← hE, show ((E : Int) - 25 + 1074).toNat = 1049 + E by omega]
    refine ⟨R, r1, hv, conv_half (by omega) h hv, fun w => ?_⟩
    have LZ := Lib.hid r3
    have AD := fun (W : World) => run_float_arith (P := Try.prog) W .add 32 .f64 _ _ _ z1
    have ne : ¬ ((E : Int) = 0) := by omega
    clear r3 hv r2 r1 hval hlt z1 z2 zl hm hE hsum
    go_enter Try.func64, Try.ntmps64
    go_wp2_with (go_at_call 20; (with_reducible refine (LZ.out _).mono ?_); rintro e w' ⟨rfl, rfl⟩)
    go_ret
    exact ⟨rfl, rfl⟩
end Go.Proofs.Ytkcehbnmcdppkaa

/- Contracts of the reference: WholeOf, LongOf, ShortOf, the closure of HalfOf; the same of the program, of NaNs. -/
namespace Go.Proofs.Ytkcehbnmcdppkaa
open Go.RowKit Fl
set_option linter.unusedVariables false

set_option maxHeartbeats 1000000 in
theorem value_any {q : Nat} (h : q ≤ 31744) : ∃ R, R < b64 ∧ vD R = some ((hvM q : Nat) : Int) ∧ ∀ w, Calls Try.prog 63 #[.int .i64 (q : Int)] w fun en w' => en = .returned (.float .f64 R) ∧ w = w' := by
  by_cases c : q = 31744
  · subst c
    refine ⟨4679240012837945344, by decide, c65536, fun w => ?_⟩
    go_enter Try.func63, Try.ntmps63
    go_wp2
    go_ret
    exact ⟨rfl, rfl⟩
  · obtain ⟨R, r1, r2, -, r3⟩ := halfValue_any (q := q) (by omega)
    refine ⟨R, r1, r2, fun w => ?_⟩
    have HV := Lib.hid r3
    have ne : ¬ ((q : Int) = 31744) := by omega
    clear r1 r2 r3
    go_enter Try.func63, Try.ntmps63
    go_wp2_with (go_at_call 64; (with_reducible refine (HV.out _).mono ?_); rintro e w' ⟨rfl, rfl⟩)
    go_ret
    exact ⟨rfl, rfl⟩

theorem and_mask10 {n : Nat} (h : n < 65536) : bits .and .i64 (n : Int) 31744 = ((n % 32768 / 1024 * 1024 : Nat) : Int) := by
  have := i64_and_nat n 31744 (by omega) (by omega)
  have e := nat_midmask 15 10 n (by omega)
  rw [show (2 : Nat) ^ 15 - 2 ^ 10 = 31744 by decide, show (2 : Nat) ^ 15 = 32768 by decide, show (2 : Nat) ^ 10 = 1024 by decide] at e
  rw [e] at this
  exact this
theorem and_mask7 {n : Nat} (h : n < 65536) : bits .and .i64 (n : Int) 32640 = ((n % 32768 / 128 * 128 : Nat) : Int) := by
  have := i64_and_nat n 32640 (by omega) (by omega)
  have e := nat_midmask 15 7 n (by omega)
  rw [show (2 : Nat) ^ 15 - 2 ^ 7 = 32640 by decide, show (2 : Nat) ^ 15 = 32768 by decide, show (2 : Nat) ^ 7 = 128 by decide] at e
  rw [e] at this
  exact this
theorem and_mask15 {n : Nat} (h : n < 65536) : bits .and .i64 (n : Int) 32767 = ((n % 32768 : Nat) : Int) := by
  have := i64_and_nat n 32767 (by omega) (by omega)
  rw [show n &&& 32767 = n % 32768 from Nat.and_two_pow_sub_one_eq_mod n 15] at this
  exact this

set_option maxHeartbeats 1000000 in
set_option maxRecDepth 100000 in
theorem wholeOf_far (n : Int) (hn : withinB n 0 65535 = false) (w : World) : Calls Try.prog 13 #[.int .i64 n] w fun e w' => e = .returned (.tuple #[.float .f32 0, .int .i64 3]) ∧ w = w' := by
  have h : n < 0 ∨ (¬ n < 0 ∧ 65535 < n) := by
    by_cases c : n < 0
    · exact .inl c
    · refine .inr ⟨c, ?_⟩
      rcases Int.lt_or_le 65535 n with d | d
      · exact d
      · rw [withinB_iff.2 ⟨by omega, d⟩] at hn; cases hn
  clear hn
  rcases h with h | ⟨h1, h2⟩
  all_goals
    go_enter Try.func13, Try.ntmps13
    go_wp2
    go_ret2
    exact ⟨rfl, rfl⟩
set_option maxHeartbeats 1000000 in
set_option maxRecDepth 100000 in
theorem longOf_far (n : Int) (hn : withinB n 0 65535 = false) (w : World) : Calls Try.prog 14 #[.int .i64 n] w fun e w' => e = .returned (.tuple #[.float .f32 0, .int .i64 3]) ∧ w = w' := by
  have h : n < 0 ∨ (¬ n < 0 ∧ 65535 < n) := by
    by_cases c : n < 0
    · exact .inl c
    · refine .inr ⟨c, ?_⟩
      rcases Int.lt_or_le 65535 n with d | d
      · exact d
      · rw [withinB_iff.2 ⟨by omega, d⟩] at hn; cases hn
  clear hn
  rcases h with h | ⟨h1, h2⟩
  all_goals
    go_enter Try.func14, Try.ntmps14
    go_wp2
    go_ret2
    exact ⟨rfl, rfl⟩

set_option maxHeartbeats 1000000 in
set_option maxRecDepth 100000 in
theorem wholeOf_inf {n : Nat} (h : n < 65536) (hi : 31744 ≤ n % 32768) (w : World) : Calls Try.prog 13 #[.int .i64 (n : Int)] w fun e w' => e = .returned (.tuple #[.float .f32 0, .int .i64 2]) ∧ w = w' := by
  have a1 := and_mask10 h
  rw [show n % 32768 / 1024 * 1024 = 31744 by omega] at a1
  have b1 : ¬ ((n : Int) < 0) := by omega
  have b2 : ¬ ((65535 : Int) < (n : Int)) := by omega
  go_enter Try.func13, Try.ntmps13
  go_wp2
  go_ret2
  exact ⟨rfl, rfl⟩
set_option maxHeartbeats 1000000 in
set_option maxRecDepth 100000 in
theorem wholeOf_ok {s : Bool} {q : Nat} (h : q < 31744) (n : Nat) (hn : n = s.toNat * 32768 + q) (w : World) : Calls Try.prog 13 #[.int .i64 (n : Int)] w fun e w' => e = .returned (.tuple #[.float .f32 (sw s (whW q)), .int .i64 0]) ∧ w = w' := by
  have hn2 : n < 65536 := by rw [hn]; cases s <;> simp <;> omega
  have hq : n % 32768 = q := by rw [hn]; cases s <;> simp <;> omega
  have a1 := and_mask10 hn2
  have a2 := and_mask15 hn2
  rw [hq] at a1 a2
  have b3 : ¬ (((q / 1024 * 1024 : Nat) : Int) = 31744) := by omega
  generalize q / 1024 * 1024 = z at *
  have b1 : ¬ ((n : Int) < 0) := by omega
  have b2 : ¬ ((65535 : Int) < (n : Int)) := by omega
  obtain ⟨R, -, -, r3, r4⟩ := halfValue_any h
  have HV := Lib.hid r4
  have ng := fun w => run_negS w (whW q)
  rw [neg_pos (by have := (whole_word h).2.1; omega)] at ng
  have CV := fun (W : World) => run_convert_float_float (P := Try.prog) W 32 22 .f64 .f32 R (whW q) (by kernel_rfl) Try.underlying22 r3
  have hc : decide ((32768 : Int) ≤ (n : Int)) = s := by rw [hn]; cases s <;> simp <;> omega
  clear r3 r4 hq hn hn2
  generalize whW q = y at *
  generalize (n : Int) = ni at *
  cases s
  all_goals
    have m5 := hc
    simp only [decide_eq_true_eq, decide_eq_false_iff_not] at m5
    clear hc
    go_enter Try.func13, Try.ntmps13
    go_wp2_with (go_at_call 64; (with_reducible refine (HV.out _).mono ?_); rintro e w' ⟨rfl, rfl⟩)
    go_ret2
    exact ⟨rfl, rfl⟩

set_option maxHeartbeats 1000000 in
set_option maxRecDepth 100000 in
theorem longOf_in {n : Nat} (h : n < 65536) (er : Int) (he : er = if 32640 ≤ n % 32768 then 2 else 0) (w : World) : Calls Try.prog 14 #[.int .i64 (n : Int)] w fun e w' => e = .returned (.tuple #[.float .f32 (if er = 0 then n * 65536 else 0), .int .i64 er]) ∧ w = w' := by
  have a1 := and_mask7 h
  have b1 : ¬ ((n : Int) < 0) := by omega
  have b2 : ¬ ((65535 : Int) < (n : Int)) := by omega
  have hb : ∀ w : World, (callFunc 68 #[.int .u32 ((n : Int) * 65536)]).run Try.prog w = .ok (.value (.float .f32 (n * 65536))) w := fun w => by
    have := f32from ((n : Int) * 65536) w
    rwa [tn_short] at this
  by_cases c : 32640 ≤ n % 32768
  · rw [if_pos c] at he
    subst he
    rw [show n % 32768 / 128 * 128 = 32640 by omega] at a1
    rw [if_neg (by decide)]
    clear c hb
    go_enter Try.func14, Try.ntmps14
    go_wp2
    go_ret2
    exact ⟨rfl, rfl⟩
  · rw [if_neg c] at he
    subst he
    rw [if_pos rfl]
    have b3 : ¬ (((n % 32768 / 128 * 128 : Nat) : Int) = 32640) := by omega
    generalize n % 32768 / 128 * 128 = z at *
    generalize n * 65536 = u at *
    clear c
    go_enter Try.func14, Try.ntmps14
    go_wp2
    go_ret2
    exact ⟨rfl, rfl⟩

set_option maxHeartbeats 1000000 in
set_option maxRecDepth 100000 in
theorem shortOf_num {x : Nat} (hx : x < 4294967296) (hs : (FloatKind.f32.format.order x x == some .eq) = true) (w : World) : Calls Try.prog 17 #[.float .f32 x] w fun e w' => e = .returned (.int .i64 ((nrS x : Nat) : Int)) ∧ w = w' := by
  have hb := f32bits
  have hne : (FloatKind.f32.format.order x x != some .eq) = false := by
    rw [bne, hs]; rfl
  have n1 : bits .and .u32 (x : Int) 65535 = ((x % 65536 : Nat) : Int) := by
    have := u32_and_nat x 65535 hx (by omega)
    rw [show x &&& 65535 = x % 65536 from Nat.and_two_pow_sub_one_eq_mod x 16] at this
    exact this
  have sh : (x : Int) / 65536 = ((x / 65536 : Nat) : Int) := by omega
  have n2 : bits .and .i64 ((x / 65536 : Nat) : Int) 1 = ((x / 65536 % 2 : Nat) : Int) := by
    have := i64_and_nat (x / 65536) 1 (by omega) (by omega)
    rw [Nat.and_one_is_mod] at this
    exact this
  have e1 : nrS x = if 32768 < x % 65536 then x / 65536 + 1 else if x % 65536 = 32768 ∧ x / 65536 % 2 = 1 then x / 65536 + 1 else x / 65536 := by
    unfold nrS
    split
    · omega
    · split <;> omega
  rw [e1]
  have h1 : x / 65536 < 65536 := by omega
  have h2 : x % 65536 < 65536 := by omega
  have h3 : x / 65536 % 2 < 2 := by omega
  generalize x / 65536 % 2 = o at *
  generalize x / 65536 = k at *
  generalize x % 65536 = t at *
  clear e1 hs
  by_cases c1 : 32768 < t
  · rw [if_pos c1]
    have c1' : (32768 : Int) < (t : Int) := by omega
    go_enter Try.func17, Try.ntmps17
    go_wp2
    go_ret
    exact ⟨ret_int (by omega), rfl⟩
  · rw [if_neg c1]
    have c1' : ¬ ((32768 : Int) < (t : Int)) := by omega
    by_cases c2 : t = 32768
    · subst c2
      rcases (show o = 0 ∨ o = 1 by omega) with rfl | rfl
      · rw [if_neg (by omega)]
        go_enter Try.func17, Try.ntmps17
        go_wp2
        go_ret
        exact ⟨rfl, rfl⟩
      · rw [if_pos (by omega)]
        go_enter Try.func17, Try.ntmps17
        go_wp2
        go_ret
        exact ⟨ret_int (by omega), rfl⟩
    · rw [if_neg (by omega)]
      have c2' : ((t : Int) == 32768) = false := by simp; omega
      go_enter Try.func17, Try.ntmps17
      go_wp2
      go_ret
      exact ⟨rfl, rfl⟩
set_option maxHeartbeats 1000000 in
theorem shortOf_nan {x : Nat} (hs : (FloatKind.f32.format.order x x == some .eq) = false) (w : World) : Calls Try.prog 17 #[.float .f32 x] w fun e w' => e = .returned (.int .i64 32704) ∧ w = w' := by
  have hne : (FloatKind.f32.format.order x x != some .eq) = true := by
    rw [bne, hs]; rfl
  clear hs
  go_enter Try.func17, Try.ntmps17
  go_wp2
  go_ret
  exact ⟨rfl, rfl⟩
end Go.Proofs.Ytkcehbnmcdppkaa

/- The nearest half, by the two halves that a magnitude lies between (pure). -/
namespace Go.Proofs.Ytkcehbnmcdppkaa
open Go.RowKit Fl
set_option linter.unusedVariables false

theorem hvM_big {q : Nat} (h0 : 1024 ≤ q) : hvM q = rv (q * 8192 + 939524096) := by
  unfold rv rgM rgE hvM
  rw [if_neg (by omega), if_neg (by omega), if_neg (by omega)]
  have e1 : 8388608 + (q * 8192 + 939524096) % 8388608 = (1024 + q % 1024) * 2 ^ 13 := by omega
  have e2 : (q * 8192 + 939524096) / 8388608 = q / 1024 + 112 := by omega
  rw [e1, e2, Nat.mul_assoc, ← Nat.pow_add, show 13 + (924 + (q / 1024 + 112)) = 1049 + q / 1024 by omega]
theorem hvM_small {q : Nat} (h : q ≤ 1024) : hvM q = q * u24 := by
  rcases Nat.lt_or_eq_of_le h with c | c
  · unfold hvM; rw [if_pos c]
  · rw [c, hvM_big (by omega)]; exact rv_m14

/-- A magnitude between two halves that are not small. -/
theorem between_big {r lo : Nat} (h0 : 1024 ≤ lo) (h1 : lo < 31744) (hl : hvM lo ≤ rv r) (hh : rv r < hvM (lo + 1)) :
    ∃ t P, t < 8192 ∧ r = lo * 8192 + 939524096 + t ∧ rv r = hvM lo + t * 2 ^ P ∧ hvM (lo + 1) = hvM lo + 8192 * 2 ^ P ∧ P ≤ 1100 := by
  rw [hvM_big h0] at hl ⊢
  rw [hvM_big (by omega)] at hh ⊢
  have a1 := rv_le.1 hl
  have a2 := rv_lt'.1 hh
  obtain ⟨r0, hr0⟩ : ∃ r0, r0 = lo * 8192 + 939524096 := ⟨_, rfl⟩
  rw [← hr0] at a1 ⊢
  rw [show (lo + 1) * 8192 + 939524096 = r0 + 8192 by omega] at a2 ⊢
  obtain ⟨E, hE⟩ : ∃ E, E = r0 / 8388608 := ⟨_, rfl⟩
  have b0 : r0 / 8388608 * 8388608 ≤ r0 := by omega
  have b1 : r0 + 8192 ≤ r0 / 8388608 * 8388608 + 8388608 := by omega
  have e0 := rv_near (r := r0) (r' := r0) (by omega) b0 (by omega)
  have e1 := rv_near (r := r0) (r' := r) (by omega) (by omega) (by omega)
  have e2 := rv_near (r := r0) (r' := r0 + 8192) (by omega) (by omega) b1
  refine ⟨r - r0, 924 + r0 / 8388608, by omega, by omega, ?_, ?_, by omega⟩
  · rw [e1, e0, ← Nat.add_mul, show 8388608 + (r0 - r0 / 8388608 * 8388608) + (r - r0) = 8388608 + (r - r0 / 8388608 * 8388608) by omega]
  · rw [e2, e0, ← Nat.add_mul, show 8388608 + (r0 - r0 / 8388608 * 8388608) + 8192 = 8388608 + (r0 + 8192 - r0 / 8388608 * 8388608) by omega]

/-- The nearest half, by the halves beside. -/
theorem nhR_beside {r lo : Nat} (h1 : lo < 31744) (hl : hvM lo ≤ rv r) (hh : rv r < hvM (lo + 1)) :
    nhR r = if hvM (lo + 1) - rv r < rv r - hvM lo ∨ (hvM (lo + 1) - rv r = rv r - hvM lo ∧ lo % 2 = 1) then lo + 1 else lo := by
  by_cases c : 1024 ≤ lo
  · obtain ⟨t, P, t1, t2, t3, t4, -⟩ := between_big c h1 hl hh
    have p := Nat.two_pow_pos P
    have e1 : hvM (lo + 1) - rv r = (8192 - t) * 2 ^ P := by
      rw [t3, t4, Nat.sub_mul]; omega
    have e2 : rv r - hvM lo = t * 2 ^ P := by rw [t3]; omega
    rw [e1, e2]
    have q1 : ((8192 - t) * 2 ^ P < t * 2 ^ P) ↔ 4096 < t := by
      rw [Nat.mul_lt_mul_right p]; omega
    have q2 : ((8192 - t) * 2 ^ P = t * 2 ^ P) ↔ t = 4096 := by
      rw [Nat.mul_left_inj (by omega)]; omega
    simp only [q1, q2]
    unfold nhR nrH
    have hd : r / 8192 = lo + 114688 := by omega
    rw [hd]
    split
    · split <;> omega
    · rw [if_neg (by omega)]
      split <;> omega
  · have p := u24_pos
    have hr : r < 947912704 := by
      rw [← rv_lt', rv_m14]
      refine Nat.lt_of_lt_of_le hh ?_
      rw [hvM_small (by omega)]
      exact Nat.mul_le_mul_right _ (by omega)
    rw [hvM_small (by omega)] at hl ⊢
    rw [hvM_small (by omega)] at hh ⊢
    unfold nhR
    rw [if_neg (by omega), if_pos hr]
    unfold rnq
    obtain ⟨t, ht⟩ : ∃ t, rv r = lo * u24 + t := ⟨rv r - lo * u24, by omega⟩
    have t1 : t < u24 := by rw [ht, Nat.add_mul] at hh; omega
    have d1 : rv r / u24 = lo := by rw [ht, Nat.mul_comm, Nat.mul_add_div p, Nat.div_eq_of_lt t1]; rfl
    have d2 : rv r % u24 = t := by rw [ht, Nat.mul_comm, Nat.mul_add_mod, Nat.mod_eq_of_lt t1]
    rw [d1, d2, ht, Nat.add_mul]
    have e1 : lo * u24 + 1 * u24 - (lo * u24 + t) = u24 - t := by omega
    have e2 : lo * u24 + t - lo * u24 = t := by omega
    rw [e1, e2]
    generalize u24 = U at *
    by_cases c1 : U < 2 * t ∨ (2 * t = U ∧ lo % 2 = 1)
    · rw [if_pos c1, if_pos (by omega)]
    · rw [if_neg c1, if_neg (by omega), Nat.add_zero]

/-- A difference of magnitudes that a double holds. -/
theorem sub_exact {X Y a b u k : Nat} (hx : vD X = some (a : Int)) (hy : vD Y = some (b : Int)) (hab : b ≤ a) (hu : a - b = u * 2 ^ k) (hu2 : u < 2 ^ 53) (hk : k ≤ 1200) : ∃ Z, floatBits .sub .f64 X Y = some Z ∧ vD Z = some ((a - b : Nat) : Int) := by
  obtain ⟨B, hB⟩ : ∃ B : Nat, B = 1300 := ⟨_, rfl⟩
  have hlt : a - b < 2 ^ B := by
    rw [hu]
    calc u * 2 ^ k < 2 ^ 53 * 2 ^ k := Nat.mul_lt_mul_of_pos_right hu2 (Nat.two_pow_pos _)
      _ = 2 ^ (53 + k) := (Nat.pow_add 2 53 k).symm
      _ ≤ 2 ^ B := Nat.pow_le_pow_right (by omega) (by omega)
  exact vD_sub (u := u) (k := k) (B := B) hx hy (c := ((a - b : Nat) : Int)) (by omega) (by rw [Int.natAbs_natCast]; exact hu) hu2 (by rw [Int.natAbs_natCast]; exact hlt) (by omega)
end Go.Proofs.Ytkcehbnmcdppkaa

/- What lies below and above a magnitude between two halves, in doubles (pure). -/
namespace Go.Proofs.Ytkcehbnmcdppkaa
open Go.RowKit Fl
set_option linter.unusedVariables false

theorem sub_round {X Y a b : Nat} (hx : vD X = some (a : Int)) (hy : vD Y = some (b : Int)) (hab : b < a) {B : Nat} (hB : a < 2 ^ B) (hB2 : B < 2000) : ∃ Z, floatBits .sub .f64 X Y = some Z ∧ vD Z = some ((rd Ieee.double 0 (a - b) : Nat) : Int) := by
  obtain ⟨s, m, p, h1, ea⟩ := vD_some hx
  obtain ⟨t, n, q, h2, eb⟩ := vD_some hy
  obtain ⟨P, Q, q1, q2, q3⟩ := sum_val (s := s) (t := !t) (m := m) (n := n) (read_dbl_low h1) (read_dbl_low h2)
  have hc : vOf s m p + vOf (!t) n q = ((a - b : Nat) : Int) := by rw [vOf_opp, ea, eb]; omega
  rw [hc] at q1 q3
  rw [Int.natAbs_natCast] at q3
  have hne : ¬ (((a - b : Nat) : Int) = 0) := by omega
  have hlt : ¬ (((a - b : Nat) : Int) < 0) := by omega
  rw [if_neg hne, decide_eq_false hlt] at q1
  have hz : ((Ieee.double.read X).sum (Ieee.double.read Y).opposite).map Ieee.double.write = some (Ieee.double.nearest false P Q) := by
    rw [h1, h2]
    show ((Ieee.Datum.number s m p).sum (.number (!t) n q)).map Ieee.double.write = _
    rw [q1]
    rfl
  refine ⟨_, hz, ?_⟩
  have hl : a - b < 2 ^ B := by omega
  rw [nearest_val Ieee.double false (-1074) 0 leastD P (p := Q) q2, show (Q - (-1074)).toNat = (Q + 1074).toNat by omega, q3, vD_word hl (by omega)]
  simp

/-- The two differences of a magnitude between two halves. -/
theorem diffs {A L H r lo : Nat} (hr : r < 2139095040) (h1 : lo < 31744) (hl : hvM lo ≤ rv r) (hh : rv r < hvM (lo + 1)) (hA : vD A = some ((rv r : Nat) : Int)) (hL : vD L = some ((hvM lo : Nat) : Int)) (hH : vD H = some ((hvM (lo + 1) : Nat) : Int)) :
    ∃ BL AB, floatBits .sub .f64 A L = some BL ∧ floatBits .sub .f64 H A = some AB ∧ (FloatKind.f64.format.order AB BL == some .lt) = decide (hvM (lo + 1) - rv r < rv r - hvM lo) ∧ (FloatKind.f64.format.order AB BL == some .eq) = decide (hvM (lo + 1) - rv r = rv r - hvM lo) := by
  have e53 : (2 : Nat) ^ 53 = 9007199254740992 := by decide
  have fin : (∃ BL AB, floatBits .sub .f64 A L = some BL ∧ floatBits .sub .f64 H A = some AB ∧ vD BL = some ((rv r - hvM lo : Nat) : Int) ∧ vD AB = some ((hvM (lo + 1) - rv r : Nat) : Int)) → ∃ BL AB, floatBits .sub .f64 A L = some BL ∧ floatBits .sub .f64 H A = some AB ∧ (FloatKind.f64.format.order AB BL == some .lt) = decide (hvM (lo + 1) - rv r < rv r - hvM lo) ∧ (FloatKind.f64.format.order AB BL == some .eq) = decide (hvM (lo + 1) - rv r = rv r - hvM lo) := by
    rintro ⟨BL, AB, b1, b2, b3, b4⟩
    refine ⟨BL, AB, b1, b2, ?_, ?_⟩
    · rw [show FloatKind.f64.format = Ieee.double from rfl, lss_valD b4 b3, decide_eq_decide]; omega
    · rw [show FloatKind.f64.format = Ieee.double from rfl, eql_valD b4 b3, decide_eq_decide]; omega
  by_cases c : 1024 ≤ lo
  · obtain ⟨t, P, t1, t2, t3, t4, t5⟩ := between_big c h1 hl hh
    obtain ⟨BL, b1, b2⟩ := sub_exact (u := t) (k := P) hA hL hl (by rw [t3]; omega) (by omega) (by omega)
    obtain ⟨AB, a1, a2⟩ := sub_exact (u := 8192 - t) (k := P) hH hA (by omega) (by rw [t3, t4, Nat.sub_mul]; omega) (by omega) (by omega)
    exact fin ⟨BL, AB, b1, a1, b2, a2⟩
  · obtain ⟨K, hK⟩ : ∃ K : Nat, K = 1050 := ⟨_, rfl⟩
    have hU := u24_pow hK
    have p := u24_pos
    have hl' := hl
    have hh' := hh
    rw [hvM_small (show lo ≤ 1024 by omega)] at hl'
    rw [hvM_small (show lo + 1 ≤ 1024 by omega)] at hh'
    have m1 := rgM_lt r
    have hrv : rv r = rgM r * 2 ^ rgE r := rfl
    have hE2 : rgE r ≤ 1037 := by
      rcases Nat.lt_or_ge 1037 (rgE r) with g | g
      · exfalso
        have mq := rgM_ge (show 925 < rgE r by omega)
        have g1 : 1024 * u24 ≤ rv r := by
          rw [hU, hrv]
          calc 1024 * 2 ^ K = 2 ^ (10 + K) := (Nat.pow_add 2 10 K).symm
            _ ≤ 2 ^ (23 + rgE r) := Nat.pow_le_pow_right (by omega) (by omega)
            _ = 8388608 * 2 ^ rgE r := Nat.pow_add 2 23 _
            _ ≤ rgM r * 2 ^ rgE r := Nat.mul_le_mul_right _ mq
        have g2 : (lo + 1) * u24 ≤ 1024 * u24 := Nat.mul_le_mul_right _ (by omega)
        omega
      · exact g
    obtain ⟨d, hd⟩ : ∃ d, K = d + rgE r := ⟨K - rgE r, by omega⟩
    have hUd : u24 = 2 ^ d * 2 ^ rgE r := by rw [hU, hd, Nat.pow_add]
    by_cases z : d ≤ 50
    · have hd50 : 2 ^ d ≤ 1125899906842624 := by
        have : (2 : Nat) ^ 50 = 1125899906842624 := by decide
        rw [← this]; exact Nat.pow_le_pow_right (by omega) z
      have e1 : rv r - lo * u24 = (rgM r - lo * 2 ^ d) * 2 ^ rgE r := by rw [hrv, hUd, ← Nat.mul_assoc, ← Nat.sub_mul]
      have e2 : (lo + 1) * u24 - rv r = ((lo + 1) * 2 ^ d - rgM r) * 2 ^ rgE r := by rw [hrv, hUd, ← Nat.mul_assoc, ← Nat.sub_mul]
      have pE := Nat.two_pow_pos (rgE r)
      have hx : rgM r < (lo + 1) * 2 ^ d := by
        rw [hrv, hUd, ← Nat.mul_assoc] at hh'
        exact Nat.lt_of_mul_lt_mul_right hh'
      have hx2 : lo * 2 ^ d ≤ rgM r := by
        rw [hrv, hUd, ← Nat.mul_assoc] at hl'
        exact Nat.le_of_mul_le_mul_right hl' pE
      have hx3 : (lo + 1) * 2 ^ d = lo * 2 ^ d + 2 ^ d := by rw [Nat.add_mul, Nat.one_mul]
      obtain ⟨BL, b1, b2⟩ := sub_exact (u := rgM r - lo * 2 ^ d) (k := rgE r) hA hL hl (by rw [hvM_small (show lo ≤ 1024 by omega)]; exact e1) (by omega) (by omega)
      obtain ⟨AB, a1, a2⟩ := sub_exact (u := (lo + 1) * 2 ^ d - rgM r) (k := rgE r) hH hA (Nat.le_of_lt hh) (by rw [hvM_small (show lo + 1 ≤ 1024 by omega)]; exact e2) (by omega) (by omega)
      exact fin ⟨BL, AB, b1, a1, b2, a2⟩
    · have hsm : rv r < 2 ^ (K - 26) := by
        rw [hrv]
        have e24 : (16777216 : Nat) = 2 ^ 24 := by decide
        calc rgM r * 2 ^ rgE r < 16777216 * 2 ^ rgE r := Nat.mul_lt_mul_of_pos_right m1 (Nat.two_pow_pos _)
          _ = 2 ^ (24 + rgE r) := by rw [e24]; exact (Nat.pow_add 2 24 _).symm
          _ ≤ 2 ^ (K - 26) := Nat.pow_le_pow_right (by omega) (by omega)
      have hK1 : 2 ^ K = 2 * 2 ^ (K - 1) := by rw [← Nat.pow_succ', show (K - 1).succ = K by omega]
      have hK2 : 2 ^ (K - 26) ≤ 2 ^ (K - 1) := Nat.pow_le_pow_right (by omega) (by omega)
      have hlo : lo = 0 := by
        rcases Nat.eq_zero_or_pos lo with w | w
        · exact w
        · exfalso
          have : u24 ≤ lo * u24 := Nat.le_mul_of_pos_left _ w
          omega
      subst hlo
      have h0 : hvM 0 = 0 := by rw [hvM_small (by omega)]; omega
      have h1' : hvM (0 + 1) = 2 ^ K := by rw [hvM_small (by omega), hU]; omega
      obtain ⟨BL, b1, b2⟩ := sub_exact (u := rgM r) (k := rgE r) hA hL hl (by rw [h0, hrv]; omega) (by omega) (by omega)
      have hHl : hvM (0 + 1) < 2 ^ (K + 1) := by rw [h1']; exact Nat.pow_lt_pow_right (by omega) (by omega)
      obtain ⟨AB, a1, a2⟩ := sub_round hH hA hh hHl (by omega)
      have hge : 2 ^ (K - 1) ≤ rd Ieee.double 0 (hvM (0 + 1) - rv r) := by
        have g := rdD_mono (V := 2 ^ (K - 1)) (W := hvM (0 + 1) - rv r) (by rw [h1']; omega)
        have g2 := rd_exact Ieee.double 0 1 (K - 1) (by rw [fbD]; decide) (by omega)
        rw [Nat.one_mul] at g2
        rw [g2] at g
        exact g
      refine ⟨BL, AB, b1, a1, ?_, ?_⟩
      · rw [show FloatKind.f64.format = Ieee.double from rfl, lss_valD a2 b2, decide_eq_decide]
        rw [h0, h1'] at *
        omega
      · rw [show FloatKind.f64.format = Ieee.double from rfl, eql_valD a2 b2, decide_eq_decide]
        rw [h0, h1'] at *
        omega
end Go.Proofs.Ytkcehbnmcdppkaa

/- Contract of the reference: HalfOf of a single that is no NaN. -/
namespace Go.Proofs.Ytkcehbnmcdppkaa
open Go.RowKit Fl
set_option linter.unusedVariables false

theorem hvM_lt {a b : Nat} (h : a < b) (hb : b ≤ 31744) : hvM a < hvM b := by
  have p := u24_pos
  by_cases c : 1024 ≤ a
  · rw [hvM_big c, hvM_big (by omega)]
    exact rv_lt (by omega)
  · by_cases d : b ≤ 1024
    · rw [hvM_small (by omega), hvM_small d]
      exact Nat.mul_lt_mul_of_pos_right h p
    · have e1 : hvM a < hvM 1024 := by
        rw [hvM_small (by omega), hvM_small (by omega)]
        exact Nat.mul_lt_mul_of_pos_right (by omega) p
      have e2 : hvM 1024 < hvM b := by
        rw [hvM_big (by omega), hvM_big (by omega)]
        exact rv_lt (by omega)
      omega

/-- The value's word of a half in the reference. -/
noncomputable def vlW (q : Nat) : Nat := if h : q ≤ 31744 then Classical.choose (value_any h) else 0
theorem vlW_spec {q : Nat} (h : q ≤ 31744) : vlW q < b64 ∧ vD (vlW q) = some ((hvM q : Nat) : Int) ∧ ∀ w, Calls Try.prog 63 #[.int .i64 (q : Int)] w fun en w' => en = .returned (.float .f64 (vlW q)) ∧ w = w' := by
  unfold vlW
  rw [dif_pos h]
  exact Classical.choose_spec (value_any h)

/-- Whether a single is just its half. -/
def justB (r : Nat) : Bool := if nhR r < 31744 then decide (hvM (nhR r) = rv r) else decide (r = 2139095040)

set_option maxHeartbeats 400000 in
theorem isInf_pos (X : Nat) (k : Bool) (h : (FloatKind.f64.format.order X 9218868437227405311 == some .gt) = k) (w : World) :
    Calls Try.prog 65 #[.float .f64 X, .int .i64 1] w fun e w' => e = .returned (.bool k) ∧ w = w' := by
  go_enter Try.func65, Try.ntmps65
  go_wp2
  go_ret
  exact ⟨by first | rfl | exact ret_bool h, rfl⟩

set_option maxHeartbeats 4000000 in
set_option maxRecDepth 100000 in
theorem halfOf_any {s : Bool} {r : Nat} (hr : r ≤ 2139095040) (w : World) :
    Calls Try.prog 10 #[.float .f32 (sw s r)] w fun e w' => e = .returned (.tuple #[.int .i64 ((nhW s r : Nat) : Int), .bool (justB r)]) ∧ w = w' := by
  -- the double of the magnitude, and how it stands to the halves' values
  have hA : ∃ X, floatToFloatBits .f32 (sw s r) .f64 = some X ∧ X < b64 ∧ (∀ q, q ≤ 31744 → (FloatKind.f64.format.order (vlW q) (X % b63) == some .lt || FloatKind.f64.format.order (vlW q) (X % b63) == some .eq) = decide (r = 2139095040 ∨ hvM q ≤ rv r)) ∧
      (r < 2139095040 → vD (X % b63) = some ((rv r : Nat) : Int)) ∧ (FloatKind.f64.format.order (X % b63) 9218868437227405311 == some .gt) = decide (r = 2139095040) ∧ (FloatKind.f64.format.order (X % b63) 4679240012837945344 == some .gt || FloatKind.f64.format.order (X % b63) 4679240012837945344 == some .eq) = decide (1199570944 ≤ r) := by
    have f64f : FloatKind.f64.format = Ieee.double := rfl
    have hm : vD 9218868437227405311 = some ((rv 2139095040 - 1 : Nat) : Int) ∨ True := .inr trivial
    rcases Nat.lt_or_eq_of_le hr with h | h
    · obtain ⟨X, c1, c2, c3⟩ := conv_val (s := s) h
      have hA := abs_valD c3
      have e : ((if s then -1 else 1) * ((rv r : Nat) : Int)).natAbs = rv r := by
        rw [Int.natAbs_mul, Int.natAbs_natCast]; cases s <;> simp
      rw [e] at hA
      have hne : ¬ (r = 2139095040) := by omega
      refine ⟨X, c1, c2, fun q hq => ?_, fun _ => hA, ?_, ?_⟩
      · rw [f64f, show b63 = 9223372036854775808 from rfl, leq_valD (vlW_spec hq).2.1 hA, decide_eq_decide]
        omega
      · rw [show b63 = 9223372036854775808 from rfl, decide_eq_false hne]
        exact isInf_no (by rw [vS_sw h]; simp) c1
      · rw [f64f, show b63 = 9223372036854775808 from rfl, geq_valD hA c65536, decide_eq_decide, hvM_big (by omega), show 31744 * 8192 + 939524096 = 1199570944 by omega]
        have := @rv_le 1199570944 r
        omega
    · subst h
      have hi' : Ieee.single.read (sw s 2139095040) = .infinity s := by cases s <;> decide
      have c1 := conv_infS hi'
      have e : Ieee.double.word s Ieee.double.infRung % b63 = 9218868437227405312 := by cases s <;> decide
      have hri : Ieee.double.read 9218868437227405312 = .infinity false := by decide
      refine ⟨_, c1, conv32_lt c1, fun q hq => ?_, fun h => by omega, ?_, ?_⟩
      · rw [e, f64f, decide_eq_true (show 2139095040 = 2139095040 ∨ hvM q ≤ rv 2139095040 from .inl rfl)]
        obtain ⟨s', m', p', h', -⟩ := vD_some (vlW_spec hq).2.1
        unfold Ieee.Format.order
        rw [h', hri]
        rfl
      · rw [e]; decide
      · rw [e, f64f, order_infD hri c65536]
        rfl
  obtain ⟨X, c1, c2, LE, FV, IF, GE⟩ := hA
  have CV := fun (W : World) => run_convert_float_float (P := Try.prog) W 22 32 .f32 .f64 (sw s r) X (by kernel_rfl) Try.underlying32 c1
  have AB := Lib.hid (fun w => mathAbs_any X w c2)
  have hne : (FloatKind.f32.format.order (sw s r) (sw s r) != some .eq) = false := by
    rw [f32f, order_self (sw_sg (s := s) hr)]; rfl
  have hb : ∀ w : World, (callFunc 62 #[.float .f32 (sw s r)]).run Try.prog w = .ok (.value (.int .u32 ((sw s r : Nat) : Int))) w := fun w => f32bits _ w
  have sh : ((sw s r : Nat) : Int) / 2147483648 = (s.toNat : Int) := by unfold sw; cases s <;> simp <;> omega
  have VA := Lib.hid (show ∀ q : Nat, q ≤ 31744 → ∀ (n : Int), n = (q : Int) → ∀ w, Calls Try.prog 63 #[.int .i64 n] w fun en w' => en = .returned (.float .f64 (vlW q)) ∧ w = w' from fun q hq n hn w => by subst hn; exact (vlW_spec hq).2.2 w)
  have II := Lib.hid (fun w => isInf_pos (X % b63) _ IF w)
  have LE2 := Lib.hid LE
  have FV2 := Lib.hid FV
  have GE2 := Lib.hid GE
  clear LE FV IF GE c1 c2
  generalize X % b63 = A at *
  obtain ⟨k, hk⟩ : ∃ k, k = nhW s r := ⟨_, rfl⟩
  obtain ⟨jb, hjb⟩ : ∃ jb, jb = justB r := ⟨_, rfl⟩
  rw [← hk, ← hjb]
  have HK := Lib.hid (show (k : Int) = (s.toNat : Int) * 32768 + (nhR r : Int) by rw [hk]; unfold nhW; omega)
  have HJ := Lib.hid hjb
  have HR := Lib.hid hr
  have si1 : (s.toNat : Int) ≤ 1 := by cases s <;> simp
  have si0 : 0 ≤ (s.toNat : Int) := by omega
  clear hk hjb hr
  generalize (s.toNat : Int) = si at *
  generalize hx : sw s r = x at *
  clear hx
  have h0 : (decide (r = 2139095040 ∨ hvM 0 ≤ rv r)) = true := decide_eq_true (.inr (by rw [hvM_small (by omega)]; omega))
  have H0 := Lib.hid h0
  clear h0
  go_enter Try.func10, Try.ntmps10
  go_wp2_with (go_at_call 19; (with_reducible refine (AB.out _).mono ?_); rintro en w' ⟨rfl, rfl⟩)
  go_loopw [7, 8] (fun s7 s8 wr => ∃ (lo hi : Nat), s7 = .int .i64 lo ∧ s8 = .int .i64 hi ∧ lo < hi ∧ hi ≤ 31744 ∧ decide (r = 2139095040 ∨ hvM lo ≤ rv r) = true ∧ (hi = 31744 ∨ decide (r = 2139095040 ∨ hvM hi ≤ rv r) = false) ∧ wr = w) (fun s7 s8 _ => (intOf s8 - intOf s7).toNat)
  case atStart => exact ⟨0, 31744, rfl, rfl, by omega, by omega, H0.out, .inl rfl, rfl⟩
  case round =>
    obtain ⟨lo, hi, rfl, rfl, h1, h2, h3, h4, rfl⟩ := hrel
    have H3 := Lib.hid h3
    have H4 := Lib.hid h4
    clear h3 h4
    by_cases hlt : lo + 1 < hi
    · have hgt : (1 : Int) < (hi : Int) - (lo : Int) := by omega
      obtain ⟨m, hm⟩ : ∃ m, m = (lo + hi) / 2 := ⟨_, rfl⟩
      have hmi : ((lo : Int) + (hi : Int)) / 2 = (m : Int) := by omega
      have m1 : lo < m := by omega
      have m2 : m < hi := by omega
      have hle := LE2.out m (by omega)
      clear hm
      cases hb : decide (r = 2139095040 ∨ hvM m ≤ rv r)
      · rw [hb] at hle
        have HB := Lib.hid hb
        clear hb
        go_wp2_with (go_at_call 63; (with_reducible refine (VA.out m (by omega) _ (by omega) _).mono ?_); rintro en w' ⟨rfl, rfl⟩)
        exact ⟨⟨lo, m, rfl, by go_num, m1, by omega, H3.out, .inr HB.out, trivial⟩, by simp [intOf]; omega⟩
      · rw [hb] at hle
        have HB := Lib.hid hb
        clear hb
        go_wp2_with (go_at_call 63; (with_reducible refine (VA.out m (by omega) _ (by omega) _).mono ?_); rintro en w' ⟨rfl, rfl⟩)
        exact ⟨⟨m, hi, by go_num, rfl, m2, by omega, HB.out, H4.out, trivial⟩, by simp [intOf]; omega⟩
    · have ehi : hi = lo + 1 := by omega
      have hng : ¬ ((1 : Int) < (hi : Int) - (lo : Int)) := by omega
      have bl0 : 0 ≤ (lo : Int) := by omega
      have bl1 : (lo : Int) ≤ 31744 := by omega
      have bh0 : 0 ≤ (hi : Int) := by omega
      have bh1 : (hi : Int) ≤ 31744 := by omega
      have ge := GE2.out
      by_cases g : 1199570944 ≤ r
      · rw [decide_eq_true g] at ge
        have hR : nhR r = 31744 := by unfold nhR; rw [if_pos (by omega)]
        have hJ : jb = decide (r = 2139095040) := by rw [HJ.out]; unfold justB; rw [hR, if_neg (by decide)]
        have hK : (k : Int) = si * 32768 + 31744 := by rw [HK.out, hR]; rfl
        have HE := Lib.hid (show Ending.returned (.tuple #[.int .i64 (si * 32768 + 31744), .bool (decide (r = 2139095040))]) = Ending.returned (.tuple #[.int .i64 (k : Int), .bool jb]) by rw [hJ, hK])
        clear hJ hK hR g ehi
        generalize (hi : Int) = hI at *
        generalize (lo : Int) = lI at *
        go_wp2_with (go_at_call 65; (with_reducible refine (II.out _).mono ?_); rintro en w' ⟨rfl, rfl⟩)
        go_ret2
        exact ⟨HE.out, rfl⟩
      · rw [decide_eq_false g] at ge
        have hfin : ¬ (r = 2139095040) := by omega
        have hlo : hvM lo ≤ rv r := by
          have := of_decide_eq_true H3.out
          rcases this with q | q
          · exact absurd q hfin
          · exact q
        have hhi : rv r < hvM (lo + 1) := by
          rw [← ehi]
          rcases H4.out with q | q
          · rw [q, hvM_big (by omega)]
            exact rv_lt (by omega)
          · have := of_decide_eq_false q
            omega
        have hA := FV2.out (by omega)
        have hL := (vlW_spec (q := lo) (by omega)).2.1
        have hH := (vlW_spec (q := hi) h2).2.1
        have hH' := hH
        rw [ehi] at hH'
        rw [← ehi] at hH'
        rw [show hvM hi = hvM (lo + 1) by rw [ehi]] at hH
        obtain ⟨BL, AV, s1, s2, l1, e1⟩ := diffs (by omega) (by omega) hlo hhi hA hL hH
        have hN := nhR_beside (show lo < 31744 by omega) hlo hhi
        have SU1 := fun (W : World) => run_float_arith (P := Try.prog) W .sub 32 .f64 _ _ _ s1
        have SU2 := fun (W : World) => run_float_arith (P := Try.prog) W .sub 32 .f64 _ _ _ s2
        have EQL : (FloatKind.f64.format.order (vlW lo) A == some .eq) = decide (hvM lo = rv r) := by
          rw [show FloatKind.f64.format = Ieee.double from rfl, eql_valD hL hA, decide_eq_decide]; omega
        have EQH : (FloatKind.f64.format.order (vlW hi) A == some .eq) = decide (hvM (lo + 1) = rv r) := by
          rw [show FloatKind.f64.format = Ieee.double from rfl, eql_valD hH hA, decide_eq_decide]; omega
        have n1 : bits .and .i64 (lo : Int) 1 = ((lo % 2 : Nat) : Int) := by
          have := i64_and_nat lo 1 (by omega) (by omega)
          rw [Nat.and_one_is_mod] at this
          exact this
        have VL := Lib.hid (VA.out lo (by omega) _ rfl)
        have VH := Lib.hid (VA.out hi h2 _ rfl)
        have ansL : nhR r = lo → Ending.returned (.tuple #[.int .i64 (si * 32768 + (lo : Int)), .bool (decide (hvM lo = rv r))]) = Ending.returned (.tuple #[.int .i64 (k : Int), .bool jb]) := fun q => by
          have a1 : (k : Int) = si * 32768 + (lo : Int) := by rw [HK.out, q]
          have a2 : jb = decide (hvM lo = rv r) := by rw [HJ.out]; unfold justB; rw [q, if_pos (by omega)]
          rw [a1, a2]
        have ansH : nhR r = lo + 1 → (hi < 31744 → Ending.returned (.tuple #[.int .i64 (si * 32768 + (hi : Int)), .bool (decide (hvM (lo + 1) = rv r))]) = Ending.returned (.tuple #[.int .i64 (k : Int), .bool jb])) ∧ (¬ hi < 31744 → Ending.returned (.tuple #[.int .i64 (si * 32768 + (hi : Int)), .bool false]) = Ending.returned (.tuple #[.int .i64 (k : Int), .bool jb])) := fun q => by
          have a1 : (k : Int) = si * 32768 + (hi : Int) := by rw [HK.out, q, ehi]
          refine ⟨fun z => ?_, fun z => ?_⟩
          · have a2 : jb = decide (hvM (lo + 1) = rv r) := by rw [HJ.out]; unfold justB; rw [q, if_pos (by omega)]
            rw [a1, a2]
          · have a2 : jb = false := by rw [HJ.out]; unfold justB; rw [q, if_neg (by omega), decide_eq_false hfin]
            rw [a1, a2]
        have AL := Lib.hid ansL
        have AH := Lib.hid ansH
        have HN := Lib.hid hN
        have zl : (lo : Int) < 31744 := by omega
        have zh : decide ((hi : Int) < 31744) = decide (hi < 31744) := by rw [decide_eq_decide]; omega
        have ZH := Lib.hid zh
        have o2 : lo % 2 < 2 := by omega
        clear s1 s2 hA hL hH hH' hlo hhi hfin g ansL ansH hN H3 H4 zh ehi
        generalize vlW lo = vl at *
        generalize vlW hi = vh at *
        generalize hpl : decide (hvM lo = rv r) = pl at *
        generalize hph : decide (hvM (lo + 1) = rv r) = ph at *
        generalize hd1 : decide (hvM (lo + 1) - rv r < rv r - hvM lo) = b1 at *
        generalize hd2 : decide (hvM (lo + 1) - rv r = rv r - hvM lo) = b2 at *
        have N1 := Lib.hid (show (b1 = true ∨ (b2 = true ∧ lo % 2 = 1)) → nhR r = lo + 1 from fun q => by
          rw [HN.out, if_pos]
          rcases q with q | ⟨q, q'⟩
          · exact .inl (of_decide_eq_true (hd1.trans q))
          · exact .inr ⟨of_decide_eq_true (hd2.trans q), q'⟩)
        have N2 := Lib.hid (show b1 = false → (b2 = false ∨ lo % 2 = 0) → nhR r = lo from fun q q' => by
          rw [HN.out, if_neg]
          have d1 := of_decide_eq_false (hd1.trans q)
          rintro (d | ⟨d, d'⟩)
          · exact d1 d
          · rcases q' with q' | q'
            · exact of_decide_eq_false (hd2.trans q') d
            · omega)
        clear hpl hph hd1 hd2 HN HJ HK
        generalize lo % 2 = o at *
        generalize (hi : Int) = hI at *
        generalize (lo : Int) = lI at *
        cases b1
        · cases b2
          · have R := Lib.hid (AL.out (N2.out rfl (.inl rfl)))
            clear AL AH N1 N2
            go_wp2_with (first
              | (go_at_call 63; (with_reducible refine (VL.out _).mono ?_); rintro en w' ⟨rfl, rfl⟩)
              | (go_at_call 63; (with_reducible refine (VH.out _).mono ?_); rintro en w' ⟨rfl, rfl⟩))
            go_ret2
            exact ⟨R.out, rfl⟩
          · rcases (show o = 0 ∨ o = 1 by omega) with rfl | rfl
            · have R := Lib.hid (AL.out (N2.out rfl (.inr rfl)))
              clear AL AH N1 N2
              go_wp2_with (first
                | (go_at_call 63; (with_reducible refine (VL.out _).mono ?_); rintro en w' ⟨rfl, rfl⟩)
                | (go_at_call 63; (with_reducible refine (VH.out _).mono ?_); rintro en w' ⟨rfl, rfl⟩))
              go_ret2
              exact ⟨R.out, rfl⟩
            · have R := Lib.hid (AH.out (N1.out (.inr ⟨rfl, rfl⟩)))
              clear AL AH N1 N2
              by_cases z : hi < 31744
              · have zi : hI < 31744 := by have := ZH.out; rw [decide_eq_true z] at this; exact of_decide_eq_true this
                have R2 := Lib.hid (R.out.1 z)
                clear R z
                go_wp2_with (first
                  | (go_at_call 63; (with_reducible refine (VL.out _).mono ?_); rintro en w' ⟨rfl, rfl⟩)
                  | (go_at_call 63; (with_reducible refine (VH.out _).mono ?_); rintro en w' ⟨rfl, rfl⟩))
                go_ret2
                exact ⟨R2.out, rfl⟩
              · have zi : ¬ (hI < 31744) := by have := ZH.out; rw [decide_eq_false z] at this; exact of_decide_eq_false this
                have R2 := Lib.hid (R.out.2 z)
                clear R z
                go_wp2_with (first
                  | (go_at_call 63; (with_reducible refine (VL.out _).mono ?_); rintro en w' ⟨rfl, rfl⟩)
                  | (go_at_call 63; (with_reducible refine (VH.out _).mono ?_); rintro en w' ⟨rfl, rfl⟩))
                go_ret2
                exact ⟨R2.out, rfl⟩
        · have R := Lib.hid (AH.out (N1.out (.inl rfl)))
          clear AL AH N1 N2
          by_cases z : hi < 31744
          · have zi : hI < 31744 := by have := ZH.out; rw [decide_eq_true z] at this; exact of_decide_eq_true this
            have R2 := Lib.hid (R.out.1 z)
            clear R z
            go_wp2_with (first
              | (go_at_call 63; (with_reducible refine (VL.out _).mono ?_); rintro en w' ⟨rfl, rfl⟩)
              | (go_at_call 63; (with_reducible refine (VH.out _).mono ?_); rintro en w' ⟨rfl, rfl⟩))
            go_ret2
            exact ⟨R2.out, rfl⟩
          · have zi : ¬ (hI < 31744) := by have := ZH.out; rw [decide_eq_false z] at this; exact of_decide_eq_false this
            have R2 := Lib.hid (R.out.2 z)
            clear R z
            go_wp2_with (first
              | (go_at_call 63; (with_reducible refine (VL.out _).mono ?_); rintro en w' ⟨rfl, rfl⟩)
              | (go_at_call 63; (with_reducible refine (VH.out _).mono ?_); rintro en w' ⟨rfl, rfl⟩))
            go_ret2
            exact ⟨R2.out, rfl⟩
end Go.Proofs.Ytkcehbnmcdppkaa

/- Contracts: Half of any single; halves and shorts of NaNs; Whole and WholeOf, Long and LongOf alike. -/
namespace Go.Proofs.Ytkcehbnmcdppkaa
open Go.RowKit Fl
set_option linter.unusedVariables false

theorem nhR_le (r : Nat) (hr : r ≤ 2139095040) : nhR r ≤ 31744 := by
  unfold nhR
  split
  · exact Nat.le_refl _
  · split
    · rename_i h; have := (small_sum h).2; omega
    · unfold nrH; omega

set_option maxHeartbeats 1000000 in
set_option maxRecDepth 100000 in
theorem half_gen {s : Bool} {r : Nat} (hr : r ≤ 2139095040) (y : Nat) (hy : ∀ w, Calls Try.prog 61 #[.int .i64 ((nhW s r : Nat) : Int)] w fun e w' => e = .returned (.float .f32 y) ∧ w = w') (b : Bool) (hb : (FloatKind.f32.format.order y (sw s r) == some .eq) = b) (w : World) :
    Calls Try.prog 9 #[.float .f32 (sw s r)] w fun e w' => e = .returned (.tuple #[.int .i64 ((nhW s r : Nat) : Int), .bool b]) ∧ w = w' := by
  have NH := Lib.hid (fun w => nearestHalf_any (s := s) hr w)
  have OH := Lib.hid hy
  clear hy
  generalize nhW s r = k at *
  generalize sw s r = x at *
  clear hr
  cases b
  all_goals
    go_enter Try.func9, Try.ntmps9
    go_wp2_with (first
      | (go_at_call 60; (with_reducible refine (NH.out _).mono ?_); rintro e w' ⟨rfl, rfl⟩)
      | (go_at_call 61; (with_reducible refine (OH.out _).mono ?_); rintro e w' ⟨rfl, rfl⟩))
    go_ret2
    exact ⟨rfl, rfl⟩
theorem half_full {s : Bool} {r : Nat} (hr : r ≤ 2139095040) (w : World) :
    Calls Try.prog 9 #[.float .f32 (sw s r)] w fun e w' => e = .returned (.tuple #[.int .i64 ((nhW s r : Nat) : Int), .bool (justB r)]) ∧ w = w' := by
  have hle := nhR_le r hr
  by_cases c : nhR r < 31744
  · have hfin : r < 2139095040 := by
      rcases Nat.lt_or_eq_of_le hr with h | h
      · exact h
      · exfalso; rw [h] at c; unfold nhR at c; rw [if_pos (by omega)] at c; omega
    obtain ⟨-, w2, w3⟩ := whole_word c
    have e := vS_pos w2
    rw [w3] at e
    have e2 : rv (whW (nhR r)) = hvM (nhR r) := by have := Option.some.inj e; omega
    refine half_gen hr _ (fun w => ofHalf_any (s := s) (q := nhR r) c (n := ((nhW s r : Nat) : Int)) rfl w) _ ?_ w
    unfold justB
    rw [if_pos c, f32f, eql_val (vS_sw w2) (vS_sw hfin), e2, decide_eq_decide]
    cases s <;> simp <;> omega
  · have hq : nhR r = 31744 := by omega
    refine half_gen hr _ (fun w => ofHalf_inf (s := s) (m := 0) (by omega) (n := ((nhW s r : Nat) : Int)) (by unfold nhW; rw [hq]) w) _ ?_ w
    unfold justB
    rw [if_neg c, f32f]
    have hi : Ieee.single.read (sw s (2139095040 + 0 * 8192)) = .infinity s := by cases s <;> decide
    rcases Nat.lt_or_eq_of_le hr with h | h
    · rw [order_inf hi (vS_sw h), decide_eq_false (by omega)]
      cases s <;> rfl
    · rw [h]
      have := order_self (sw_sg (s := s) (show 2139095040 ≤ 2139095040 by omega))
      rw [show (2139095040 + 0 * 8192 : Nat) = 2139095040 by omega, this]
      rfl

theorem order_nan {x y : Nat} (h : ∃ s t, Ieee.single.read x = .nan s t) : FloatKind.f32.format.order x y = none := by
  obtain ⟨s, t, h⟩ := h
  show Ieee.Datum.order (Ieee.single.read x) (Ieee.single.read y) = none
  rw [h]; rfl
theorem order_nan2 {x y : Nat} (h : ∃ s t, Ieee.single.read y = .nan s t) : FloatKind.f32.format.order x y = none := by
  obtain ⟨s, t, h⟩ := h
  show Ieee.Datum.order (Ieee.single.read x) (Ieee.single.read y) = none
  rw [h]
  cases Ieee.single.read x <;> rfl
/-- What the machine chooses as the greater of two where one is a NaN. -/
def mxD (x y : Nat) (w : World) : Nat := Question.cut (.nanMinMax .f32 true x y) (w.tape w.drawn (.nanMinMax .f32 true x y))
theorem max_nan {x y : Nat} (h : FloatKind.f32.format.order x y = none) (ts : Array TypeId) (t : TypeId) (w : World) : (Builtin.max_ ts t #[.float .f32 x, .float .f32 y]).run Try.prog w = .ok (.float .f32 (mxD x y w)) w.drew := by
  show (([Value.float .f32 y]).foldlM Builtin.max2 (Value.float .f32 x)).run Try.prog w = _
  have hf : Question.forced (.nanMinMax .f32 true x y) = false := rfl
  simp only [List.foldlM]
  unfold Builtin.max2
  simp [h, hf]
  rfl

set_option maxHeartbeats 1000000 in
theorem magn_nan {x : Nat} (h : ∃ s t, Ieee.single.read x = .nan s t) (w : World) : Calls Try.prog 125 #[.float .f32 x] w fun e w' => (∃ y, e = .returned (.float .f32 y)) ∧ w' = w.drew := by
  have ng := fun w => run_negS w x
  have mx := fun ts t w => max_nan (order_nan (y := negW x) h) ts t w
  clear h
  generalize negW x = y at *
  go_enter Try.func125, Try.ntmps125
  go_wp2
  go_ret
  exact ⟨⟨_, rfl⟩, rfl⟩

theorem nan_self (x : Nat) (w : World) : (FloatKind.f64.format.order (nanD x w) (nanD x w) == some .eq) = false := by
  obtain ⟨s, k, h1, h2, h3, h4⟩ := nanD_form x w
  have r : ∃ s' , Ieee.double.read (nanD x w) = .nan s' k := by
    rw [h4]
    unfold Ieee.Format.read
    rw [swD, bnD, infD]
    have e2 : (2047 : Nat) * b52 = 9218868437227405312 := rfl
    have e3 : b52 = 4503599627370496 := rfl
    rw [e2, e3]
    have a2 : (s * 9223372036854775808 + (9218868437227405312 + k)) % 9223372036854775808 = 9218868437227405312 + k := by omega
    simp only [a2]
    rw [if_neg (by omega), if_neg (by omega), if_neg (by omega)]
    have a3 : 9218868437227405312 + k - 9218868437227405312 = k := by omega
    rw [a3]
    exact ⟨_, rfl⟩
  obtain ⟨s', r⟩ := r
  show (Ieee.Datum.order (Ieee.double.read (nanD x w)) (Ieee.double.read (nanD x w)) == some .eq) = false
  rw [r]; rfl

set_option maxHeartbeats 1000000 in
set_option maxRecDepth 100000 in
theorem nearestHalf_nan {x : Nat} (h : ∃ s t, Ieee.single.read x = .nan s t) (w : World) : Calls Try.prog 60 #[.float .f32 x] w fun e w' => e = .returned (.int .i64 32256) ∧ w' = w.drew.drew := by
  have MG := Lib.hid (fun w => magn_nan h w)
  have CN := fun W => conv_nan h W
  have IN := Lib.hid (fun W w => isNaN_any (nanD x W) false (nan_self x W) w)
  clear h
  go_enter Try.func60, Try.ntmps60
  go_wp2_with (first
    | (go_at_call 125; (with_reducible refine (MG.out _).mono ?_); rintro e w' ⟨⟨y, rfl⟩, rfl⟩)
    | (go_at_call 70; (with_reducible refine (IN.out _ _).mono ?_); rintro e w' ⟨rfl, rfl⟩))
  go_ret
  exact ⟨rfl, rfl⟩
set_option maxHeartbeats 1000000 in
set_option maxRecDepth 100000 in
theorem half_nan {x : Nat} (h : ∃ s t, Ieee.single.read x = .nan s t) (w : World) : Calls Try.prog 9 #[.float .f32 x] w fun e w' => e = .returned (.tuple #[.int .i64 32256, .bool false]) ∧ Below w.heap.size w w' := by
  have NH := Lib.hid (fun w => nearestHalf_nan h w)
  have OH := Lib.hid (fun w => ofHalf_inf (s := false) (m := 512) (by omega) (n := 32256) (by decide) w)
  have ho : (FloatKind.f32.format.order (sw false (2139095040 + 512 * 8192)) x == some .eq) = false := by rw [order_nan2 h]; rfl
  clear h
  generalize sw false (2139095040 + 512 * 8192) = y at *
  go_enter Try.func9, Try.ntmps9
  go_wp2_with (first
    | (go_at_call 60; (with_reducible refine (NH.out _).mono ?_); rintro e w' ⟨rfl, rfl⟩)
    | (go_at_call 61; (with_reducible refine (OH.out _).mono ?_); rintro e w' ⟨rfl, rfl⟩))
  go_ret2
  exact ⟨rfl, (Below.refl _ _).drew.drew⟩
set_option maxHeartbeats 1000000 in
set_option maxRecDepth 100000 in
theorem short_nan {x : Nat} (h : ∃ s t, Ieee.single.read x = .nan s t) (w : World) : Calls Try.prog 16 #[.float .f32 x] w fun e w' => e = .returned (.int .i64 32704) ∧ Below w.heap.size w w' := by
  have CN := fun W => conv_nan h W
  have IN := Lib.hid (fun W w => isNaN_any (nanD x W) false (nan_self x W) w)
  clear h
  go_enter Try.func16, Try.ntmps16
  go_wp2_with (go_at_call 70; (with_reducible refine (IN.out _ _).mono ?_); rintro e w' ⟨rfl, rfl⟩)
  go_ret
  exact ⟨rfl, (Below.refl _ _).drew⟩
set_option maxHeartbeats 1000000 in
theorem halfOf_nan {x : Nat} (h : ∃ s t, Ieee.single.read x = .nan s t) (w : World) : Calls Try.prog 10 #[.float .f32 x] w fun e w' => e = .returned (.tuple #[.int .i64 32256, .bool false]) ∧ w = w' := by
  have hne : (FloatKind.f32.format.order x x != some .eq) = true := by rw [order_nan h]; rfl
  clear h
  go_enter Try.func10, Try.ntmps10
  go_wp2
  go_ret2
  exact ⟨rfl, rfl⟩

theorem whole_ex (n : Int) : ∃ (y : Nat) (e : Int), (∀ w, Calls Try.prog 11 #[.int .i64 n] w fun en w' => en = .returned (.tuple #[.float .f32 y, .int .i64 e]) ∧ w = w') ∧ (∀ w, Calls Try.prog 13 #[.int .i64 n] w fun en w' => en = .returned (.tuple #[.float .f32 y, .int .i64 e]) ∧ w = w') := by
  cases hn : withinB n 0 65535 with
  | false => exact ⟨0, 3, fun w => whole_far n hn w, fun w => wholeOf_far n hn w⟩
  | true =>
    obtain ⟨n0, n1⟩ := withinB_iff.1 hn
    obtain ⟨s, q, hq, e⟩ := half_form n0 (show n < 65536 by omega)
    have hk : s.toNat * 32768 + q < 65536 := by cases s <;> simp <;> omega
    by_cases c : q < 31744
    · refine ⟨sw s (whW q), 0, fun w => whole_ok c e w, fun w => ?_⟩
      have := wholeOf_ok (s := s) c (s.toNat * 32768 + q) rfl w
      rwa [← e] at this
    · obtain ⟨m, rfl⟩ : ∃ m, q = 31744 + m := ⟨q - 31744, by omega⟩
      refine ⟨0, 2, fun w => whole_inf (by omega) e w, fun w => ?_⟩
      have := wholeOf_inf (n := s.toNat * 32768 + (31744 + m)) hk (by cases s <;> simp <;> omega) w
      rwa [← e] at this
theorem long_ex (n : Int) : ∃ (y : Nat) (e : Int), (∀ w, Calls Try.prog 12 #[.int .i64 n] w fun en w' => en = .returned (.tuple #[.float .f32 y, .int .i64 e]) ∧ w = w') ∧ (∀ w, Calls Try.prog 14 #[.int .i64 n] w fun en w' => en = .returned (.tuple #[.float .f32 y, .int .i64 e]) ∧ w = w') := by
  cases hn : withinB n 0 65535 with
  | false => exact ⟨0, 3, fun w => long_far n hn w, fun w => longOf_far n hn w⟩
  | true =>
    obtain ⟨n0, n1⟩ := withinB_iff.1 hn
    obtain ⟨s, q, hq, e⟩ := half_form n0 (show n < 65536 by omega)
    have hk : s.toNat * 32768 + q < 65536 := by cases s <;> simp <;> omega
    obtain ⟨k, hk2⟩ : ∃ k, k = s.toNat * 32768 + q := ⟨_, rfl⟩
    have hz : k * 65536 = sw s (q * 65536) := by rw [hk2]; exact short_word
    have hm : k % 32768 = q := by rw [hk2]; cases s <;> simp <;> omega
    rw [← hk2] at hk e
    subst e
    have hw : wiE (k * 65536) 4286578687 2139095039 = if 32640 ≤ k % 32768 then 2 else 0 := by
      rw [hz, hm]
      by_cases c : 32640 ≤ q
      · rw [if_pos c]; exact wi_inf (by omega) (by omega)
      · rw [if_neg c]; exact wi_fin (by omega)
    exact ⟨_, _, fun w => long_any hk _ hw w, fun w => longOf_in hk _ rfl w⟩
end Go.Proofs.Ytkcehbnmcdppkaa

/- Lists of boxes: two lists of one field agree by value; one box that is changed. -/
namespace Go.Proofs.Ytkcehbnmcdppkaa
open Go.RowKit Fl
set_option linter.unusedVariables false

/-- A word compared with two words of one value. -/
theorem eq_same {c x y : Nat} {A : Int} (hx : vS x = some A) (hy : vS y = some A) : (FloatKind.f32.format.order c x == some .eq) = (FloatKind.f32.format.order c y == some .eq) := by
  cases hc : vS c with
  | some C => rw [f32f, eql_val hc hx, eql_val hc hy]
  | none =>
    obtain ⟨s, m, i, h1, -⟩ := vS_some hx
    obtain ⟨t, k, j, h2, -⟩ := vS_some hy
    rcases vS_none hc with ⟨u, hi⟩ | hn
    · show (Ieee.Datum.order (Ieee.single.read c) (Ieee.single.read x) == some .eq) = (Ieee.Datum.order (Ieee.single.read c) (Ieee.single.read y) == some .eq)
      rw [hi, h1, h2]
      cases u <;> rfl
    · show (Ieee.Datum.order (Ieee.single.read c) (Ieee.single.read x) == some .eq) = (Ieee.Datum.order (Ieee.single.read c) (Ieee.single.read y) == some .eq)
      cases hr : Ieee.single.read c with
      | number s m p => rw [hr] at hn; cases hn
      | infinity s => rw [hr] at hn; cases hn
      | nan s t => rfl
theorem BoxIs.same {v : Nat → Nat} {W H l i : Nat} {c d : BxR} (hc : BoxIs v W H l i c) (hd : BoxIs v W H l i d) : c.l = d.l ∧ c.x = d.x ∧ c.y = d.y ∧ (∃ A, vS c.lo = some A ∧ vS d.lo = some A) ∧ ∃ A, vS c.hi = some A ∧ vS d.hi = some A := by
  obtain ⟨c1, c2, c3, c4, c5⟩ := hc
  obtain ⟨d1, d2, d3, d4, d5⟩ := hd
  rw [c2, c3] at c4 c5
  rw [d2, d3] at d4 d5
  exact ⟨by rw [c1, d1], by rw [c2, d2], by rw [c3, d3], c4.same d4, c5.same d5⟩
/-- Each number below the sum is a place on a level. -/
theorem ofN_split {W H : Nat} : ∀ (l q : Nat), q < ofN W H (l + 1) → ∃ l' i, l' ≤ l ∧ i < lvN W H l' ∧ q = ofN W H l' + i := by
  intro l
  induction l with
  | zero =>
    intro q hq
    refine ⟨0, q, Nat.le_refl _, ?_, by simp [ofN]⟩
    have : q < ofN W H 0 + lvN W H 0 := hq
    simpa [ofN] using this
  | succ l ih =>
    intro q hq
    have hq' : q < ofN W H (l + 1) + lvN W H (l + 1) := hq
    by_cases c : q < ofN W H (l + 1)
    · obtain ⟨l', i, h1, h2, h3⟩ := ih q c
      exact ⟨l', i, by omega, h2, h3⟩
    · exact ⟨l + 1, q - ofN W H (l + 1), Nat.le_refl _, by omega, by omega⟩
theorem IsBx.same {v : Nat → Nat} {W H m m' : Nat} {T T' : Nat → BxR} (h : IsBx v W H m T) (h' : IsBx v W H m' T') : m = m' ∧ ∀ q, q < m → (T q).l = (T' q).l ∧ (T q).x = (T' q).x ∧ (T q).y = (T' q).y ∧ (∃ A, vS (T q).lo = some A ∧ vS (T' q).lo = some A) ∧ ∃ A, vS (T q).hi = some A ∧ vS (T' q).hi = some A := by
  obtain ⟨l, rfl, h1, h2, h3, h4⟩ := h
  obtain ⟨l', rfl, g1, g2, g3, g4⟩ := h'
  have : l = l' := by
    rcases Nat.lt_trichotomy l l' with c | c | c
    · exact absurd h2 (g3 l c)
    · exact c
    · exact absurd g2 (h3 l' c)
  subst this
  refine ⟨rfl, fun q hq => ?_⟩
  obtain ⟨l', i, e1, e2, rfl⟩ := ofN_split l q hq
  exact (h4 l' i (.inl ⟨by omega, e2⟩)).same (g4 l' i (.inl ⟨by omega, e2⟩))
/-- What a box is compared with is the same, by value. -/
theorem IsBx.eq {v : Nat → Nat} {W H m m' : Nat} {T T' : Nat → BxR} (h : IsBx v W H m T) (h' : IsBx v W H m' T') (c : BxR) {q : Nat} (hq : q < m) : bxEq c (T q) = bxEq c (T' q) := by
  obtain ⟨_, e⟩ := h.same h'
  obtain ⟨e1, e2, e3, ⟨A, e4, e5⟩, B, e6, e7⟩ := e q hq
  unfold bxEq
  rw [e1, e2, e3, eq_same e4 e5, eq_same e6 e7]
/-- The low bound of a box is set. -/
theorem BxRow.setLo {w : World} {g n q : Nat} {T : Nat → BxR} (h : BxRow w g n T) (hq : q < n) (r : Nat) : BxRow (w.setCell ⟨g, q * 5 + 3, none⟩ (.float .f32 r)) g n (updX T q ⟨(T q).l, (T q).x, (T q).y, r, (T q).hi⟩) := by
  refine ⟨fun i hi j hj => ?_, by simpa using h.2⟩
  by_cases e : i = q
  · subst e
    rw [updX_same]
    by_cases e2 : j = 3
    · subst e2
      rw [World.cell?_setCell_same _ _ _ (u := .float .f32 (T i).lo) (by rw [h.1 i hi 3 (by omega)]; rfl)]
      rfl
    · rw [World.cell?_setCell_other _ _ _ _ (by intro x; injection x with x1 x2; omega), h.1 i hi j hj]
      have : j = 0 ∨ j = 1 ∨ j = 2 ∨ j = 4 := by omega
      rcases this with rfl | rfl | rfl | rfl <;> rfl
  · rw [updX_ne T _ e, World.cell?_setCell_other _ _ _ _ (by intro x; injection x with x1 x2; omega)]
    exact h.1 i hi j hj
end Go.Proofs.Ytkcehbnmcdppkaa

/- Contracts: the reference's Abs and RayError: the same error of a ray. -/
namespace Go.Proofs.Ytkcehbnmcdppkaa
open Go.RowKit Fl
set_option linter.unusedVariables false

set_option maxHeartbeats 400000 in
theorem qAbs_any (x : Nat) (w : World) (hx : x < 4294967296) :
    Calls Try.prog 103 #[.float .f32 x] w fun e w' => e = .returned (.float .f32 (x % 2147483648)) ∧ w = w' := by
  have h1 := f32bits
  have h2 := f32from
  have h3 := andNot32 x hx
  go_enter Try.func103, Try.ntmps103
  go_wp2
  go_ret
  exact ⟨rfl, rfl⟩
theorem vS_q22 : vS 1249902592 = some (4194304 * (one : Int)) := by
  have h : Ieee.single.read 1249902592 = .number false 8388608 (-1) := by decide
  obtain ⟨j, hj⟩ : ∃ j : Nat, j = 1074 := ⟨_, rfl⟩
  rw [vS_lit (t := 4194304) (k := 1) (j := j) h (by decide) (by rw [hj]; decide), one_pow hj]; simp
theorem abs_near {x : Nat} (h : hgtB x = true) : (FloatKind.f32.format.order (x % 2147483648) 1249902592 == some .gt) = false := by
  obtain ⟨a, ha, hb⟩ := hgt_val h
  rw [f32f, gtr_val (abs_val ha) vS_q22]
  simp
  generalize one = O at *
  omega

set_option maxHeartbeats 2000000 in
set_option maxRecDepth 100000 in
theorem rayError_any (c : Cam) (w : World) (hx : c.x < 4294967296) (hy : c.y < 4294967296) : Calls Try.prog 45 #[.agg c.vs] w fun e w' => e = .returned (.int .i64 (rayE c)) ∧ Below w.heap.size w w' := by
  have CH := Lib.hid (fun p w (h : w.heap[p]? = some (.cells c.vs 22)) => qNumberError_row p 0 7 7 c.at (by omega) w (flAt_cam h))
  have AX := Lib.hid (fun w => qAbs_any c.x w hx)
  have AY := Lib.hid (fun w => qAbs_any c.y w hy)
  clear hx hy
  unfold rayE
  by_cases h0 : fldE 7 c.at = 0
  · rw [if_neg (by simp [h0])]
    obtain ⟨g1, g2, _, _, _, _, g7⟩ := cam_hgt h0
    rw [h0] at CH
    clear h0
    have n1 := abs_near g1
    have n2 := abs_near g2
    have hz : finB c.z = true := hgt_fin g7
    clear g1 g2 g7
    have ew : wiE c.z 0 1199570944 = if (FloatKind.f32.format.order c.z 0 == some .lt) = true ∨ (FloatKind.f32.format.order c.z 1199570944 == some .gt) = true then 3 else 0 := by
      unfold wiE
      rw [if_neg (by simp [hz])]
    rw [ew]
    clear ew hz
    obtain ⟨cx, cy, ch, cdx, cdy, cdh, cz⟩ := c
    simp only at *
    generalize cx % 2147483648 = ax at *
    generalize cy % 2147483648 = ay at *
    cases h1 : (FloatKind.f32.format.order cdx 0 == some .eq) <;> cases h2 : (FloatKind.f32.format.order cdy 0 == some .eq) <;> cases h3 : (FloatKind.f32.format.order cz 0 == some .lt) <;> cases h4 : (FloatKind.f32.format.order cz 1199570944 == some .gt)
    all_goals
      go_enter Try.func45, Try.ntmps45
      go_wp2_with (first
        | (go_at_call 24; go_loud (refine (CH.out _ _ (by (first | (rw [heap_alloc_get, if_pos rfl]; done) | ((simp only [heap_alloc_get, heap_size_alloc, if_true]) <;> ((repeat' split) <;> first | rfl | omega))))).mono ?_; rintro e w2 ⟨rfl, rfl⟩))
        | (go_at_call 103; (with_reducible refine (AX.out _).mono ?_); rintro e w2 ⟨rfl, rfl⟩)
        | (go_at_call 103; (with_reducible refine (AY.out _).mono ?_); rintro e w2 ⟨rfl, rfl⟩))
      go_ret
      exact ⟨rfl, (by repeat (first | exact Below.refl _ _ | refine Below.alloc ?_ (by first | omega | (simp; done) | (simp; omega)) _ | refine Below.setCell ?_ (by first | omega | (simp; done) | (simp; omega)) _ | refine Below.drew ?_))⟩
  · rw [if_pos h0]
    have h1 : (fldE 7 c.at != 0) = true := by simpa using h0
    generalize fldE 7 c.at = er at *
    clear h0 AX AY
    obtain ⟨cx, cy, ch, cdx, cdy, cdh, cz⟩ := c
    go_enter Try.func45, Try.ntmps45
    go_wp2_with (go_at_call 24; go_loud (refine (CH.out _ _ (by (first | (rw [heap_alloc_get, if_pos rfl]; done) | ((simp only [heap_alloc_get, heap_size_alloc, if_true]) <;> ((repeat' split) <;> first | rfl | omega))))).mono ?_; rintro e w2 ⟨rfl, rfl⟩))
    go_ret
    exact ⟨rfl, (by repeat (first | exact Below.refl _ _ | refine Below.alloc ?_ (by first | omega | (simp; done) | (simp; omega)) _ | refine Below.setCell ?_ (by first | omega | (simp; done) | (simp; omega)) _ | refine Below.drew ?_))⟩
end Go.Proofs.Ytkcehbnmcdppkaa

/- BoundsRefuse, where the field or the ray is refused, or the field is large. -/
namespace Go.Proofs.Ytkcehbnmcdppkaa
open Go.RowKit Fl
set_option linter.unusedVariables false

set_option maxHeartbeats 1000000 in
theorem smallB_any (X Y W H : Int) (a : Option Addr) (n cap : Nat) (w : World) : Calls Try.prog 44 #[fldV X Y W H (.slice a n cap)] w fun e w' => e = .returned (.bool (decide (n ≤ 200))) ∧ Below w.heap.size w w' := by
  go_enter Try.func44, Try.ntmps44
  go_wp2
  go_ret
  exact ⟨ret_bool (by rw [Bool.eq_iff_iff]; simp; omega), (by repeat (first | exact Below.refl _ _ | refine Below.alloc ?_ (by first | omega | (simp; done) | (simp; omega)) _ | refine Below.setCell ?_ (by first | omega | (simp; done) | (simp; omega)) _ | refine Below.drew ?_))⟩

set_option maxHeartbeats 4000000 in
set_option maxRecDepth 100000 in
theorem bxLaw_no (X Y W H : Int) (a : Option Addr) (n cap : Nat) (er : Int) (c : Cam) (k : Int) (y : Nat) (w : World) (hE : SlE w a n cap er) (hx : c.x < 4294967296) (hy : c.y < 4294967296)
    (h : fldChk X Y W H n er ≠ 0 ∨ (fldChk X Y W H n er = 0 ∧ ¬ (n ≤ 200)) ∨ (fldChk X Y W H n er = 0 ∧ n ≤ 200 ∧ rayE c ≠ 0)) :
    Calls Try.prog 7 #[fldV X Y W H (.slice a n cap), .agg c.vs, .int .i64 k, .float .f32 y] w fun e w' => e = .returned (.bool true) ∧ Below w.heap.size w w' := by
  have FE := Lib.hid (fun W' (hB : Below w.heap.size w W') => qFieldError_any X Y W H a n cap er W' (hE.stay hB).2)
  have SM := Lib.hid (fun w => smallB_any X Y W H a n cap w)
  have RE := Lib.hid (fun w => rayError_any c w hx hy)
  have LV := Lib.hid (fun w => levels_any w)
  clear hE hx hy
  obtain ⟨cx, cy, ch, cdx, cdy, cdh, cz⟩ := c
  have hc : (fldChk X Y W H n er != 0) = true ∨ ((fldChk X Y W H n er = 0 ∧ decide (n ≤ 200) = false) ∨ (fldChk X Y W H n er = 0 ∧ decide (n ≤ 200) = true ∧ (rayE ⟨cx, cy, ch, cdx, cdy, cdh, cz⟩ != 0) = true)) := by
    rcases h with h | ⟨h, h2⟩ | ⟨h, h2, h3⟩
    · exact .inl (by simpa using h)
    · exact .inr (.inl ⟨h, by simpa using h2⟩)
    · exact .inr (.inr ⟨h, by simpa using h2, by simpa using h3⟩)
  clear h
  generalize fldChk X Y W H n er = fe at *
  generalize rayE ⟨cx, cy, ch, cdx, cdy, cdh, cz⟩ = re at *
  generalize decide (n ≤ 200) = sm at *
  rcases hc with hc | ⟨rfl, rfl⟩ | ⟨rfl, rfl, hc⟩
  all_goals
    go_enter Try.func7, Try.ntmps7
    go_wp2_with (first
      | (go_at_call 43; (with_reducible refine Calls.mono (LV.out _) ?_); rintro e w1 ⟨rfl, hb1⟩; first
          | (have HF1 := Lib.hid (blkStay (b := w.heap.size) (o := fldO X Y W H (.slice a n cap)) (by (first | (rw [heap_alloc_get, if_pos rfl]; done) | ((simp only [heap_alloc_get, heap_size_alloc, if_true]) <;> ((repeat' split) <;> first | rfl | omega)))) hb1); have HC1 := Lib.hid (blkStay (b := w.heap.size + 1) (o := .cells #[.float .f32 cx, .float .f32 cy, .float .f32 ch, .float .f32 cdx, .float .f32 cdy, .float .f32 cdh, .float .f32 cz] 65) (by (first | (rw [heap_alloc_get, if_pos rfl]; done) | ((simp only [heap_alloc_get, heap_size_alloc, if_true]) <;> ((repeat' split) <;> first | rfl | omega)))) hb1); have B1 := Lib.hid (Below.trans (show Below w.heap.size w _ from (by repeat (first | exact Below.refl _ _ | refine Below.alloc ?_ (by first | omega | (simp; done) | (simp; omega)) _ | refine Below.setCell ?_ (by first | omega | (simp; done) | (simp; omega)) _ | refine Below.drew ?_))) (hb1.mono (by first | omega | (simp; done) | (simp; omega)))); clear hb1; obtain ⟨cF, fF, zF⟩ := blkC HF1.out; obtain ⟨cC, fC, zC⟩ := blkC HC1.out)
          | (have BZ := Lib.hid (Below.trans (show Below w.heap.size w _ by first | exact B4.out | exact B3.out | exact B2.out) (hb1.mono (by first | exact B4.out.size | exact B3.out.size | exact B2.out.size))); clear hb1))
      | (go_at_call 32; (with_reducible refine Calls.mono (FE.out _ B1.out) ?_); rintro e w2 ⟨rfl, hb2⟩; have HF2 := Lib.hid (blkStay HF1.out hb2); have HC2 := Lib.hid (blkStay HC1.out hb2); have B2 := Lib.hid (B1.out.trans (hb2.mono B1.out.size)); clear hb2 cF fF zF cC fC zC; obtain ⟨cF, fF, zF⟩ := blkC HF2.out; obtain ⟨cC, fC, zC⟩ := blkC HC2.out)
      | (go_at_call 44; (with_reducible refine Calls.mono (SM.out _) ?_); rintro e w3 ⟨rfl, hb3⟩; have HF3 := Lib.hid (blkStay HF2.out hb3); have HC3 := Lib.hid (blkStay HC2.out hb3); have B3 := Lib.hid (B2.out.trans (hb3.mono B2.out.size)); clear hb3 cF fF zF cC fC zC; obtain ⟨cF, fF, zF⟩ := blkC HF3.out; obtain ⟨cC, fC, zC⟩ := blkC HC3.out)
      | (go_at_call 45; (with_reducible refine Calls.mono (RE.out _) ?_); rintro e w4 ⟨rfl, hb4⟩; have B4 := Lib.hid (B3.out.trans (hb4.mono B3.out.size)); clear hb4 cF fF zF cC fC zC))
    go_ret
    exact ⟨rfl, BZ.out⟩
end Go.Proofs.Ytkcehbnmcdppkaa
