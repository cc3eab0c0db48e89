import Derived.Test.YtgalppimdmjdcabGreatDoorIfG
import Derived.Test.YtgalppimdmjdcabGreatDoorIfE
import Derived.Test.YtgalppimdmjdcabGreatDoorJoins
import Derived.Test.YtgalppimdmjdcabGreatDoorFlC
import Derived.Test.YtgalppimdmjdcabGreatDoorIRExact
import Derived.Test.YtgalppimdmjdcabGreatDoorArr
/-
  Ldexp of a word: the float at its place, or an infinity.
-/
namespace Go.Proofs.YtgalppimdmjdcabGreatDoor
open Go Go.RowKit Nt
set_option linter.unusedSimpArgs false
set_option linter.unusedVariables false
set_option maxRecDepth 20000

theorem i_and (ρ : Operand → Value) (o : Oper) (x y : Operand) (w : World) (a : Nat) (h : a < 2048) (h1 : ρ x = .int .i64 (a : Int)) (h2 : ρ y = .int .i64 2047) : (execOp ρ { o with op := .binOp .and 3 x y 3 }).run Tryz.prog w = .ok (.value (.int .i64 (a : Int))) w := by
  have h3 : bits .and .i64 (a : Int) 2047 = (a : Int) := by rw [bits_2047i a (by omega), Nat.mod_eq_of_lt h]
  clear h
  unfold execOp
  go_simp
theorem u_andn (ρ : Operand → Value) (o : Oper) (x y : Operand) (w : World) (a r : Nat) (h : bits .andNot .u64 (a : Int) 9218868437227405312 = (r : Int)) (h1 : ρ x = .int .u64 (a : Int)) (h2 : ρ y = .int .u64 9218868437227405312) : (execOp ρ { o with op := .binOp .andNot 27 x y 27 }).run Tryz.prog w = .ok (.value (.int .u64 (r : Int))) w := by
  unfold execOp
  go_simp
theorem u_or (ρ : Operand → Value) (o : Oper) (x y : Operand) (w : World) (a b r : Nat) (h : bits .or .u64 (a : Int) (b : Int) = (r : Int)) (h1 : ρ x = .int .u64 (a : Int)) (h2 : ρ y = .int .u64 (b : Int)) : (execOp ρ { o with op := .binOp .or 27 x y 27 }).run Tryz.prog w = .ok (.value (.int .u64 (r : Int))) w := by
  unfold execOp
  go_simp
theorem i_u64 (ρ : Operand → Value) (o : Oper) (x : Operand) (w : World) (a : Nat) (h : a < 18446744073709551616) (h1 : ρ x = .int .i64 (a : Int)) : (execOp ρ { o with op := .convert 3 27 x }).run Tryz.prog w = .ok (.value (.int .u64 (a : Int))) w := by
  have h3 : IntKind.u64.wrap (a : Int) = (a : Int) := by rw [IntKind.wrap_u64]; omega
  clear h
  unfold execOp
  go_simp
theorem u_shl52 (ρ : Operand → Value) (o : Oper) (x y : Operand) (w : World) (a : Nat) (T : TypeId) (h : a < 2048) (h1 : ρ x = .int .u64 (a : Int)) (h2 : ρ y = .int .u64 52) : (execOp ρ { o with op := .binOp .shl 27 x y T }).run Tryz.prog w = .ok (.value (.int .u64 ((a * 4503599627370496 : Nat) : Int))) w := by
  have h3 : IntKind.u64.wrap ((a : Int) * 4503599627370496) = (a : Int) * 4503599627370496 := by rw [IntKind.wrap_u64]; omega
  clear h
  unfold execOp
  go_simp
theorem mul_oneG (k f : Nat) (hk : 1 ≤ k) (hk2 : k < 2047) (hf : f < 4503599627370496) : floatBits .mul .f64 4607182418800017408 (fw 0 k f) = some (fw 0 k f) := by
  have h1 : Ieee.double.read 4607182418800017408 = .number false 4503599627370496 (-1074 + ((1022 : Nat) : Int)) := rfl
  have h2 := read_fw 0 k f (by decide) hk2 hk hf
  have hm : mg (k * 4503599627370496 + f) = (4503599627370496 + f) * pw2 (k - 1) := by
    rw [show k * 4503599627370496 + f = (k - 1) * 4503599627370496 + (4503599627370496 + f) from by omega]
    exact mg_form2 (by omega) (Or.inr (by omega))
  have := mul_exact h1 h2 (k * 4503599627370496 + f) (by omega) (by
    have : 0 < 4503599627370496 * (4503599627370496 + f) := Nat.mul_pos (by decide) (by omega)
    omega) (by
    rw [hm, show (4503599627370496 : Nat) = pw2 52 from rfl, uF]
    rw [Nat.mul_comm (pw2 52) (pw2 52 + f), Nat.mul_assoc, Nat.mul_assoc, pw2_add, pw2_add]
    congr 2
    omega)
  rw [this, Bool.false_xor]
  exact congrArg some (word_fw 0 k f (by decide))
/-- By 2^-53, back among the least ones. -/
theorem mul_back (l f m : Nat) (hl : l < 52) (hm0 : 0 < m) (hm : m < 4503599627370496) (hf : f < 4503599627370496) (h : m * 2 ^ (52 - l) = 4503599627370496 + f) : floatBits .mul .f64 4368491638549381120 (fw 0 (l + 2) f) = some m := by
  have h1 : Ieee.double.read 4368491638549381120 = .number false 4503599627370496 (-1074 + ((969 : Nat) : Int)) := rfl
  have h2 := read_fw 0 (l + 2) f (by decide) (by omega) (by omega) hf
  have hmm : mg m = m := by unfold mg; rw [if_pos hm]
  have := mul_exact h1 h2 m (by omega) (by
    have : 0 < 4503599627370496 * (4503599627370496 + f) := Nat.mul_pos (by decide) (by omega)
    omega) (by
    rw [hmm, ← h, show (4503599627370496 : Nat) = pw2 52 from rfl, show (2 : Nat) ^ (52 - l) = pw2 (52 - l) from rfl, uF]
    rw [Nat.mul_comm (pw2 52) (m * pw2 (52 - l)), Nat.mul_assoc, Nat.mul_assoc, pw2_add, pw2_add]
    congr 2
    omega)
  rw [this, Bool.false_xor]
  simp
theorem two_pw {a b : Nat} (h : a = b) : 2 ^ a = pw2 b := by subst h; rfl
theorem mask0 {E f : Nat} (hE : E < 2048) (hf : f < 4503599627370496) : bits .andNot .u64 ((fw 0 E f : Nat) : Int) 9218868437227405312 = ((f : Nat) : Int) := by
  have := bits_mask 0 E f (by decide) hE hf
  have e : 0 * 9223372036854775808 + f = f := by omega
  rw [e] at this
  exact this
theorem exp0 {k f : Nat} (hk : k < 2048) (hf : f < 4503599627370496) : bits .or .u64 ((f : Nat) : Int) ((k * 4503599627370496 : Nat) : Int) = ((fw 0 k f : Nat) : Int) := by
  have := bits_exp 0 k f (by decide) hk hf
  have e : 0 * 9223372036854775808 + f = f := by omega
  rw [e] at this
  exact this
/-- A word as a float. -/
theorem of_word (m : Nat) (hm0 : 0 < m) (hm : m < 9007199254740992) : ∃ l f, l ≤ 52 ∧ f < 4503599627370496 ∧ m * 2 ^ (52 - l) = 4503599627370496 + f ∧ floatOfInt .f64 (m : Int) = fw 0 (l + 1023) f ∧ (l = 52 ↔ 4503599627370496 ≤ m) := by
  have hl1 : 2 ^ m.log2 ≤ m := Nat.log2_self_le (by omega)
  have hl2 : m < 2 ^ (m.log2 + 1) := Nat.lt_log2_self
  have hL : m.log2 ≤ 52 := by
    apply Classical.byContradiction
    intro hc
    have := Nat.pow_le_pow_right (n := 2) (by decide) (show 53 ≤ m.log2 by omega)
    have : (2 : Nat) ^ 53 = 9007199254740992 := rfl
    omega
  generalize m.log2 = l at hl1 hl2 hL
  have hk1 : 4503599627370496 ≤ m * 2 ^ (52 - l) := by
    have h := Nat.mul_le_mul_right (2 ^ (52 - l)) hl1
    rw [← Nat.pow_add, show l + (52 - l) = 52 from by omega] at h
    exact h
  have hk2 : m * 2 ^ (52 - l) < 9007199254740992 := by
    have h := Nat.mul_lt_mul_of_pos_right hl2 (Nat.two_pow_pos (52 - l))
    rw [← Nat.pow_add, show l + 1 + (52 - l) = 53 from by omega] at h
    exact h
  obtain ⟨f, hf⟩ : ∃ f, m * 2 ^ (52 - l) = 4503599627370496 + f := ⟨m * 2 ^ (52 - l) - 4503599627370496, by omega⟩
  refine ⟨l, f, hL, by omega, hf, ?_, ?_⟩
  · show Ieee.double.nearest (decide ((m : Int) < 0)) (m : Int).natAbs 0 = _
    rw [decide_eq_false (by omega), Int.natAbs_natCast]
    obtain ⟨R, h1, h2⟩ := nearest_f64 false m 0 (by omega) (by decide)
    rw [h1]
    have hm' : mg ((l + 1023) * 4503599627370496 + f) = m * pw2 1074 := by
      rw [show (l + 1023) * 4503599627370496 + f = (l + 1022) * 4503599627370496 + (4503599627370496 + f) from by omega, mg_form2 (by omega) (Or.inr (by omega)), ← hf, show (2 : Nat) ^ (52 - l) = pw2 (52 - l) from rfl, Nat.mul_assoc, pw2_add]
      congr 2
      omega
    have := h2.exact (r := (l + 1023) * 4503599627370496 + f) (by omega) (by
      rw [hm', Nat.mul_assoc, uF, pw2_add, two_pw (b := 1074 + 1074) (by decide)])
    rw [this]
    exact word_fw 0 (l + 1023) f (by decide)
  · constructor
    · rintro rfl; have := hl1; rwa [show (2 : Nat) ^ 52 = 4503599627370496 from rfl] at this
    · intro h
      apply Classical.byContradiction
      intro hc
      have := Nat.pow_le_pow_right (n := 2) (by decide) (show l + 1 ≤ 52 by omega)
      rw [show (2 : Nat) ^ 52 = 4503599627370496 from rfl] at this
      omega
theorem fw_div {E f : Nat} (hf : f < 4503599627370496) : fw 0 E f / 4503599627370496 = E := by unfold fw; omega

theorem is2 {f : FuncId} {x y : Value} {ψ : Nat → Pr} (h : ∀ w, Calls Tryz.prog f #[x, y] w (Gives ψ w)) : ∀ w u v, Is x u w → Is y v w → Calls Tryz.prog f #[u, v] w (Gives ψ w) := fun w u v e e' => by obtain rfl : u = x := e; obtain rfl : v = y := e'; exact h w

theorem isinf_n {b : Nat} (hb : b < 18446744073709551616) {p : Int} (hp : plc b = some p) (hq : ¬ (p = 9218868437227405312 ∨ p = -9218868437227405312)) : Pur 14 #[.float .f64 b, .int .i64 0] (.bool false) := by
  have := isinf_a b hb p hp
  rwa [decide_eq_false hq] at this
set_option maxHeartbeats 400000 in
theorem ldexp_I (w : World) (b E f : Nat) (n x : Int) (hb : b < 18446744073709551616) (hp : plc b = some ((E * 4503599627370496 + f : Nat) : Int)) (eb : b = fw 0 E f) (hE1 : 1 ≤ E) (hE : E < 2047) (hf : f < 4503599627370496) (hn : -1000000000 ≤ n) (hn2 : n ≤ 1000000000) (hx : n + ((E : Nat) : Int) - 1023 = x) (h1 : 1023 < x) :
    Calls Tryz.prog 38 #[(.float .f64 b), (.int .i64 n)] w (Gives (IS (.float .f64 9218868437227405312)) w) := by
  refine calls_sta (sl := [(0, (Is (.float .f64 b))), (1, (iV n))]) Tryz.func38 rfl Tryz.ntmps38 (by simp) (args_cons rfl (is_has _) (args_cons rfl (is_has _) args_nil)) ?_
  intro a0 S0
  refine wp_stmt_seq [.val (Is (.float FloatKind.f64 0))] [] [.inr 0, .inr 1] follows S0 rfl (by kernel_rfl) ?_ ?_
  · refine ⟨trivial, ?_⟩
    · exact mC
  intro B1 a1 W1 (S1 : Sta w 63 [] [(0, Is (.float .f64 b)), (1, iV n)] _ _ _)
  refine wp_seq ?_
  refine wp_block ?_
  refine wp_stmt_seq [.val (Is (.float .f64 b)), kF, kF] [] [.inl 2, .inr 0, .inr 1] follows S1 rfl (by kernel_rfl) ?_ ?_
  · refine ⟨⟨⟨trivial, ?_⟩, ?_⟩, ?_⟩
    · exact mS 0 0
    · exact owe_fcmp rfl wA rfl ((oO 0 9).imp (fl_is hb)) ((opnd_const _).imp (fl_is (by decide))) (eq0_f (by rw [hp]; intro h; have := Option.some.inj h; omega)) rfl
    · exact mO 1 10
  intro B2 a2 W2 (S2 : Sta w 63 [] [(8, bF), (0, Is (.float .f64 b)), (1, iV n)] _ _ _)
  refine wp_cond_false (S2.bool 0 8 rfl) ?_
  refine wp_stmt_seq [.val (Is (.float .f64 b)), kF, kF, .val (Is (.float .f64 b)), kF, kF, kF] [] [.inl 6, .inr 1, .inr 2] follows S2 rfl (by kernel_rfl) ?_ ?_
  · repeat' refine And.intro ?_ ?_
    · trivial
    · exact mS 1 0
    · exact cc2 wA (qO 0 13 rfl) (opnd_const _) (fresh_is _) (pur2 (isinf_n hb hp (by omega)))
    · exact mO 1 14
    · exact mW (wI 2 15) (oS 1 0)
    · exact cc1 (wI 2 15) (qO 3 16 rfl) (fresh_is _) (pur1 (isnan_f hp))
    · exact pF wA (oO 2 15) (oO 4 17)
    · exact mO 5 18
  intro B3 a3 W3 (S3 : Sta w 63 [] [(12, bF), (0, Is (.float .f64 b)), (1, iV n)] _ _ _)
  refine wp_cond_false (S3.bool 0 12 rfl) ?_
  refine wp_skip ?_
  refine inBlkN ?_
  refine thenN ?_
  refine wp_stmt_seq [.val (Is (.float .f64 b)), .val ((TWO (IS (.float .f64 b)) (IS (.int .i64 0))) w.heap.size), .val ((TWO (IS (.float .f64 b)) (IS (.int .i64 0))) w.heap.size), .val (Is (.float .f64 b)), .val (iV 0), .val (Is (.float .f64 b)), .val (iV 0)] [] [.inl 5, .inl 6, .inr 2] follows S3 rfl (by kernel_rfl) ?_ ?_
  · repeat' refine And.intro ?_ ?_
    · trivial
    · exact mS 1 0
    · exact cc1 wA (qO 0 21 rfl) (fresh_two (fresh_is _) (fresh_is _)) (pur1t (normalize_n b hb _ hp (by omega)))
    · exact mO 1 22
    · exact e20 wA (oO 2 20)
    · exact e21 wA (oO 2 20)
    · exact mO 3 23
    · exact mO 4 24
  intro B4 a4 W4 (S4 : Sta w 63 [] [(0, Is (.float .f64 b)), (5, iV 0), (1, iV n)] _ _ _)
  refine wp_stmt_seq [.val (iV n), .val (iV 0), .val (iV n), .val (iV n)] [] [.inl 3, .inr 0] follows S4 rfl (by kernel_rfl) ?_ ?_
  · refine ⟨⟨⟨⟨trivial, ?_⟩, ?_⟩, ?_⟩, ?_⟩
    · exact mS 2 1
    · exact mS 1 5
    · exact b_add_int wA (oO 0 25) (oO 1 26)
    · exact mO 2 27
  intro B5 a5 W5 (S5 : Sta w 63 [] [(1, iV n), (0, Is (.float .f64 b))] _ _ _)
  refine wp_stmt_seq [.val (Is (.float .f64 b)), .val (Is (.int .u64 ((b : Nat) : Int))), .val (Is (.int .u64 ((b : Nat) : Int)))] [] [.inl 2, .inr 0, .inr 1] follows S5 rfl (by kernel_rfl) ?_ ?_
  · refine ⟨⟨⟨trivial, ?_⟩, ?_⟩, ?_⟩
    · exact mS 1 0
    · exact owe_tobits rfl wA rfl (oO 0 28) rfl
    · exact mO 1 29
  intro B6 a6 W6 (S6 : Sta w 63 [] [(6, Is (.int .u64 ((b : Nat) : Int))), (1, iV n), (0, Is (.float .f64 b))] _ _ _)
  refine wp_stmt_seq [.val (iV n), .val (Is (.int .u64 ((b : Nat) : Int))), .val (Is (.int .u64 ((E : Nat) : Int))), .val (iV ((E : Nat) : Int)), .val (iV ((E : Nat) : Int)), .val (Is (.int .i64 (((E : Nat) : Int) - 1023))), .val (iV x), .val (iV x)] [] [.inl 7, .inr 0, .inr 2] follows S6 rfl (by kernel_rfl) ?_ ?_
  · repeat' refine And.intro ?_ ?_
    · trivial
    · exact mS 1 1
    · exact mS 0 6
    · exact owe_bin rfl wA rfl (oO 1 31) (opnd_const _) rfl (fun ρ w h1 h2 => by rw [← fw_div (E := E) hf, ← eb]; exact u_shr52 ρ _ _ _ w b _ h1 h2)
    · exact owe_un (x := .tmp 32) rfl wA rfl (oO 2 32) rfl (fun ρ w h1 => by exact u_int ρ _ _ w E (by omega) h1)
    · exact owe_bin rfl wA rfl (oO 3 33) (opnd_const _) rfl (fun ρ w h1 h2 => by exact i_and ρ _ _ _ w E (by omega) h1 h2)
    · exact b_sub_int wA (oO 4 34) (opnd_const _) (h := ⟨rfl, by omega, by omega⟩)
    · exact b_add_int wA (oO 0 30) (oO 5 35)
    · exact mO 6 36
  intro B7 a7 W7 (S7 : Sta w 63 [] [(1, iV x), (6, Is (.int .u64 ((b : Nat) : Int))), (0, Is (.float .f64 b))] _ _ _)
  refine wp_seq ?_
  refine wp_stmt_seq [.val (iV x), kF] [] [.inl 1, .inr 0, .inr 1, .inr 2] follows S7 rfl (by kernel_rfl) ?_ ?_
  · refine ⟨⟨trivial, ?_⟩, ?_⟩
    · exact mS 0 1
    · exact b_lss_int_f wA (oO 0 37) (opnd_const _)
  intro B8 a8 W8 (S8 : Sta w 63 [] [(38, bF), (1, iV x), (6, Is (.int .u64 ((b : Nat) : Int))), (0, Is (.float .f64 b))] _ _ _)
  refine wp_cond_false (S8.bool 0 38 rfl) ?_
  refine wp_skip ?_
  refine thenN ?_
  refine wp_seq ?_
  refine wp_stmt_seq [.val (iV x), kT] [] [.inl 1, .inr 1, .inr 2, .inr 3] follows S8 rfl (by kernel_rfl) ?_ ?_
  · refine ⟨⟨trivial, ?_⟩, ?_⟩
    · exact mS 1 1
    · exact b_gtr_int_t wA (oO 0 41) (opnd_const _) (h := h1)
  intro B9 a9 W9 (S9 : Sta w 63 [] [(42, bT), (1, iV x), (6, Is (.int .u64 ((b : Nat) : Int))), (0, Is (.float .f64 b))] _ _ _)
  refine wp_cond_true (S9.bool 0 42 rfl) ?_
  refine wp_seq ?_
  refine wp_stmt_seq [.val (Is (.float .f64 b)), kF] [] [.inl 1] follows S9 rfl (by kernel_rfl) ?_ ?_
  · refine ⟨⟨trivial, ?_⟩, ?_⟩
    · exact mS 3 0
    · exact owe_fcmp rfl wA rfl ((oO 0 43).imp (fl_is hb)) ((opnd_const _).imp (fl_is (by decide))) (by rw [hp]; exact lt_f (by omega)) rfl
  intro B10 a10 W10 (S10 : Sta w 63 [] [(44, bF)] _ _ _)
  refine wp_cond_false (S10.bool 0 44 rfl) ?_
  refine wp_skip ?_
  refine thenN ?_
  refine wp_stmt_seq [.val (Is (.float .f64 9218868437227405312)), .val (Is (.float .f64 9218868437227405312))] [] [.inl 1] follows S10 rfl (by kernel_rfl) ?_ ?_
  · refine ⟨⟨trivial, ?_⟩, ?_⟩
    · exact cc1 wA (opnd_const _) (fresh_is _) (pur1 (inf_p 1 (Or.inl rfl)))
    · exact mO 0 46
  intro B11 a11 W11 (S11 : Sta w 63 [] [(4, Is (.float .f64 9218868437227405312))] _ _ _)
  refine wp_ret ?_
  refine thenR ?_
  exact end_one S11 rfl (res_tmp S11 0 4 rfl)
set_option maxHeartbeats 400000 in
theorem ldexp_N (w : World) (b E f : Nat) (n x : Int) (hb : b < 18446744073709551616) (hp : plc b = some ((E * 4503599627370496 + f : Nat) : Int)) (eb : b = fw 0 E f) (hE1 : 1 ≤ E) (hE : E < 2047) (hf : f < 4503599627370496) (hn : -1000000000 ≤ n) (hn2 : n ≤ 1000000000) (hx : n + ((E : Nat) : Int) - 1023 = x) (k : Nat) (hk : x + 1023 = ((k : Nat) : Int)) (hk1 : 1 ≤ k) (hk2 : k < 2047) (hm : floatBits .mul .f64 4607182418800017408 (fw 0 k f) = some (fw 0 k f)) :
    Calls Tryz.prog 38 #[(.float .f64 b), (.int .i64 n)] w (Gives (IS (.float .f64 (fw 0 k f))) w) := by
  refine calls_sta (sl := [(0, (Is (.float .f64 b))), (1, (iV n))]) Tryz.func38 rfl Tryz.ntmps38 (by simp) (args_cons rfl (is_has _) (args_cons rfl (is_has _) args_nil)) ?_
  intro a0 S0
  refine wp_stmt_seq [.val (Is (.float FloatKind.f64 0))] [] [.inr 0, .inr 1] follows S0 rfl (by kernel_rfl) ?_ ?_
  · refine ⟨trivial, ?_⟩
    · exact mC
  intro B1 a1 W1 (S1 : Sta w 63 [] [(0, Is (.float .f64 b)), (1, iV n)] _ _ _)
  refine wp_seq ?_
  refine wp_block ?_
  refine wp_stmt_seq [.val (Is (.float .f64 b)), kF, kF] [] [.inl 2, .inr 0, .inr 1] follows S1 rfl (by kernel_rfl) ?_ ?_
  · refine ⟨⟨⟨trivial, ?_⟩, ?_⟩, ?_⟩
    · exact mS 0 0
    · exact owe_fcmp rfl wA rfl ((oO 0 9).imp (fl_is hb)) ((opnd_const _).imp (fl_is (by decide))) (eq0_f (by rw [hp]; intro h; have := Option.some.inj h; omega)) rfl
    · exact mO 1 10
  intro B2 a2 W2 (S2 : Sta w 63 [] [(8, bF), (0, Is (.float .f64 b)), (1, iV n)] _ _ _)
  refine wp_cond_false (S2.bool 0 8 rfl) ?_
  refine wp_stmt_seq [.val (Is (.float .f64 b)), kF, kF, .val (Is (.float .f64 b)), kF, kF, kF] [] [.inl 6, .inr 1, .inr 2] follows S2 rfl (by kernel_rfl) ?_ ?_
  · repeat' refine And.intro ?_ ?_
    · trivial
    · exact mS 1 0
    · exact cc2 wA (qO 0 13 rfl) (opnd_const _) (fresh_is _) (pur2 (isinf_n hb hp (by omega)))
    · exact mO 1 14
    · exact mW (wI 2 15) (oS 1 0)
    · exact cc1 (wI 2 15) (qO 3 16 rfl) (fresh_is _) (pur1 (isnan_f hp))
    · exact pF wA (oO 2 15) (oO 4 17)
    · exact mO 5 18
  intro B3 a3 W3 (S3 : Sta w 63 [] [(12, bF), (0, Is (.float .f64 b)), (1, iV n)] _ _ _)
  refine wp_cond_false (S3.bool 0 12 rfl) ?_
  refine wp_skip ?_
  refine inBlkN ?_
  refine thenN ?_
  refine wp_stmt_seq [.val (Is (.float .f64 b)), .val ((TWO (IS (.float .f64 b)) (IS (.int .i64 0))) w.heap.size), .val ((TWO (IS (.float .f64 b)) (IS (.int .i64 0))) w.heap.size), .val (Is (.float .f64 b)), .val (iV 0), .val (Is (.float .f64 b)), .val (iV 0)] [] [.inl 5, .inl 6, .inr 2] follows S3 rfl (by kernel_rfl) ?_ ?_
  · repeat' refine And.intro ?_ ?_
    · trivial
    · exact mS 1 0
    · exact cc1 wA (qO 0 21 rfl) (fresh_two (fresh_is _) (fresh_is _)) (pur1t (normalize_n b hb _ hp (by omega)))
    · exact mO 1 22
    · exact e20 wA (oO 2 20)
    · exact e21 wA (oO 2 20)
    · exact mO 3 23
    · exact mO 4 24
  intro B4 a4 W4 (S4 : Sta w 63 [] [(0, Is (.float .f64 b)), (5, iV 0), (1, iV n)] _ _ _)
  refine wp_stmt_seq [.val (iV n), .val (iV 0), .val (iV n), .val (iV n)] [] [.inl 3, .inr 0] follows S4 rfl (by kernel_rfl) ?_ ?_
  · refine ⟨⟨⟨⟨trivial, ?_⟩, ?_⟩, ?_⟩, ?_⟩
    · exact mS 2 1
    · exact mS 1 5
    · exact b_add_int wA (oO 0 25) (oO 1 26)
    · exact mO 2 27
  intro B5 a5 W5 (S5 : Sta w 63 [] [(1, iV n), (0, Is (.float .f64 b))] _ _ _)
  refine wp_stmt_seq [.val (Is (.float .f64 b)), .val (Is (.int .u64 ((b : Nat) : Int))), .val (Is (.int .u64 ((b : Nat) : Int)))] [] [.inl 2, .inr 0, .inr 1] follows S5 rfl (by kernel_rfl) ?_ ?_
  · refine ⟨⟨⟨trivial, ?_⟩, ?_⟩, ?_⟩
    · exact mS 1 0
    · exact owe_tobits rfl wA rfl (oO 0 28) rfl
    · exact mO 1 29
  intro B6 a6 W6 (S6 : Sta w 63 [] [(6, Is (.int .u64 ((b : Nat) : Int))), (1, iV n), (0, Is (.float .f64 b))] _ _ _)
  refine wp_stmt_seq [.val (iV n), .val (Is (.int .u64 ((b : Nat) : Int))), .val (Is (.int .u64 ((E : Nat) : Int))), .val (iV ((E : Nat) : Int)), .val (iV ((E : Nat) : Int)), .val (Is (.int .i64 (((E : Nat) : Int) - 1023))), .val (iV x), .val (iV x)] [] [.inl 7, .inr 0, .inr 2] follows S6 rfl (by kernel_rfl) ?_ ?_
  · repeat' refine And.intro ?_ ?_
    · trivial
    · exact mS 1 1
    · exact mS 0 6
    · exact owe_bin rfl wA rfl (oO 1 31) (opnd_const _) rfl (fun ρ w h1 h2 => by rw [← fw_div (E := E) hf, ← eb]; exact u_shr52 ρ _ _ _ w b _ h1 h2)
    · exact owe_un (x := .tmp 32) rfl wA rfl (oO 2 32) rfl (fun ρ w h1 => by exact u_int ρ _ _ w E (by omega) h1)
    · exact owe_bin rfl wA rfl (oO 3 33) (opnd_const _) rfl (fun ρ w h1 h2 => by exact i_and ρ _ _ _ w E (by omega) h1 h2)
    · exact b_sub_int wA (oO 4 34) (opnd_const _) (h := ⟨rfl, by omega, by omega⟩)
    · exact b_add_int wA (oO 0 30) (oO 5 35)
    · exact mO 6 36
  intro B7 a7 W7 (S7 : Sta w 63 [] [(1, iV x), (6, Is (.int .u64 ((b : Nat) : Int))), (0, Is (.float .f64 b))] _ _ _)
  refine wp_seq ?_
  refine wp_stmt_seq [.val (iV x), kF] [] [.inl 1, .inr 0, .inr 1, .inr 2] follows S7 rfl (by kernel_rfl) ?_ ?_
  · refine ⟨⟨trivial, ?_⟩, ?_⟩
    · exact mS 0 1
    · exact b_lss_int_f wA (oO 0 37) (opnd_const _)
  intro B8 a8 W8 (S8 : Sta w 63 [] [(38, bF), (1, iV x), (6, Is (.int .u64 ((b : Nat) : Int))), (0, Is (.float .f64 b))] _ _ _)
  refine wp_cond_false (S8.bool 0 38 rfl) ?_
  refine wp_skip ?_
  refine thenN ?_
  refine wp_seq ?_
  refine wp_stmt_seq [.val (iV x), kF] [] [.inl 1, .inr 1, .inr 2, .inr 3] follows S8 rfl (by kernel_rfl) ?_ ?_
  · refine ⟨⟨trivial, ?_⟩, ?_⟩
    · exact mS 1 1
    · exact b_gtr_int_f wA (oO 0 41) (opnd_const _)
  intro B9 a9 W9 (S9 : Sta w 63 [] [(42, bF), (1, iV x), (6, Is (.int .u64 ((b : Nat) : Int))), (0, Is (.float .f64 b))] _ _ _)
  refine wp_cond_false (S9.bool 0 42 rfl) ?_
  refine wp_skip ?_
  refine thenN ?_
  refine wp_stmt_seq [.val (Is (.float FloatKind.f64 4607182418800017408))] [] [.inl 0, .inr 1, .inr 2] follows S9 rfl (by kernel_rfl) ?_ ?_
  · refine ⟨trivial, ?_⟩
    · exact mC
  intro B10 a10 W10 (S10 : Sta w 63 [] [(7, Is (.float FloatKind.f64 4607182418800017408)), (1, iV x), (6, Is (.int .u64 ((b : Nat) : Int)))] _ _ _)
  refine wp_seq ?_
  refine wp_stmt_seq [.val (iV x), kF] [] [.inl 1, .inr 0, .inr 1, .inr 2] follows S10 rfl (by kernel_rfl) ?_ ?_
  · refine ⟨⟨trivial, ?_⟩, ?_⟩
    · exact mS 1 1
    · exact b_lss_int_f wA (oO 0 47) (opnd_const _)
  intro B11 a11 W11 (S11 : Sta w 63 [] [(48, bF), (7, Is (.float FloatKind.f64 4607182418800017408)), (1, iV x), (6, Is (.int .u64 ((b : Nat) : Int)))] _ _ _)
  refine wp_cond_false (S11.bool 0 48 rfl) ?_
  refine wp_skip ?_
  refine thenN ?_
  refine wp_stmt_seq [.val (Is (.int .u64 ((b : Nat) : Int))), .val (Is (.int .u64 ((f : Nat) : Int))), .val (Is (.int .u64 ((f : Nat) : Int)))] [] [.inl 2, .inr 1, .inr 2] follows S11 rfl (by kernel_rfl) ?_ ?_
  · refine ⟨⟨⟨trivial, ?_⟩, ?_⟩, ?_⟩
    · exact mS 3 6
    · exact owe_bin rfl wA rfl (oO 0 51) (opnd_const _) rfl (fun ρ w h1 h2 => by exact u_andn ρ _ _ _ w b f (by rw [eb]; exact mask0 (by omega) hf) h1 h2)
    · exact mO 1 52
  intro B12 a12 W12 (S12 : Sta w 63 [] [(6, Is (.int .u64 ((f : Nat) : Int))), (7, Is (.float FloatKind.f64 4607182418800017408)), (1, iV x)] _ _ _)
  refine wp_stmt_seq [.val (Is (.int .u64 ((f : Nat) : Int))), .val (iV x), .val (iV ((k : Nat) : Int)), .val (Is (.int .u64 ((k : Nat) : Int))), .val (Is (.int .u64 ((k * 4503599627370496 : Nat) : Int))), .val (Is (.int .u64 ((fw 0 k f : Nat) : Int))), .val (Is (.int .u64 ((fw 0 k f : Nat) : Int)))] [] [.inl 6, .inr 1] follows S12 rfl (by kernel_rfl) ?_ ?_
  · repeat' refine And.intro ?_ ?_
    · trivial
    · exact mS 0 6
    · exact mS 2 1
    · exact b_add_int wA (oO 1 54) (opnd_const _)
    · exact owe_un (x := .tmp 55) rfl wA rfl (oO 2 55) rfl (fun ρ w h1 => by exact i_u64 ρ _ _ w k (by omega) h1)
    · exact owe_bin rfl wA rfl (oO 3 56) (opnd_const _) rfl (fun ρ w h1 h2 => by exact u_shl52 ρ _ _ _ w k _ (by omega) h1 h2)
    · exact owe_bin rfl wA rfl (oO 0 53) (oO 4 57) rfl (fun ρ w h1 h2 => by exact u_or ρ _ _ _ w f (k * 4503599627370496) _ (exp0 (by omega) hf) h1 h2)
    · exact mO 5 58
  intro B13 a13 W13 (S13 : Sta w 63 [] [(6, Is (.int .u64 ((fw 0 k f : Nat) : Int))), (7, Is (.float FloatKind.f64 4607182418800017408))] _ _ _)
  refine wp_stmt_seq [.val (Is (.float FloatKind.f64 4607182418800017408)), .val (Is (.int .u64 ((fw 0 k f : Nat) : Int))), .val (Is (.float .f64 (fw 0 k f))), .val (Is (.float .f64 (fw 0 k f))), .val (Is (.float .f64 (fw 0 k f)))] [] [.inl 4] follows S13 rfl (by kernel_rfl) ?_ ?_
  · refine ⟨⟨⟨⟨⟨trivial, ?_⟩, ?_⟩, ?_⟩, ?_⟩, ?_⟩
    · exact mS 1 7
    · exact mS 0 6
    · exact owe_frbits rfl wA rfl (oO 1 60) rfl
    · exact owe_fmul hm rfl wA rfl (oO 0 59) (oO 2 61) rfl
    · exact mO 3 62
  intro B14 a14 W14 (S14 : Sta w 63 [] [(4, Is (.float .f64 (fw 0 k f)))] _ _ _)
  refine wp_ret ?_
  exact end_one S14 rfl (res_tmp S14 0 4 rfl)
set_option maxHeartbeats 400000 in
theorem ldexp_D (w : World) (b E f : Nat) (n x : Int) (hb : b < 18446744073709551616) (hp : plc b = some ((E * 4503599627370496 + f : Nat) : Int)) (eb : b = fw 0 E f) (hE1 : 1 ≤ E) (hE : E < 2047) (hf : f < 4503599627370496) (hn : -1000000000 ≤ n) (hn2 : n ≤ 1000000000) (hx : n + ((E : Nat) : Int) - 1023 = x) (k r : Nat) (hk : x + 1076 = ((k : Nat) : Int)) (hk0 : -1075 ≤ x) (hk2 : x < -1022) (hm : floatBits .mul .f64 4368491638549381120 (fw 0 k f) = some r) :
    Calls Tryz.prog 38 #[(.float .f64 b), (.int .i64 n)] w (Gives (IS (.float .f64 r)) w) := by
  refine calls_sta (sl := [(0, (Is (.float .f64 b))), (1, (iV n))]) Tryz.func38 rfl Tryz.ntmps38 (by simp) (args_cons rfl (is_has _) (args_cons rfl (is_has _) args_nil)) ?_
  intro a0 S0
  refine wp_stmt_seq [.val (Is (.float FloatKind.f64 0))] [] [.inr 0, .inr 1] follows S0 rfl (by kernel_rfl) ?_ ?_
  · refine ⟨trivial, ?_⟩
    · exact mC
  intro B1 a1 W1 (S1 : Sta w 63 [] [(0, Is (.float .f64 b)), (1, iV n)] _ _ _)
  refine wp_seq ?_
  refine wp_block ?_
  refine wp_stmt_seq [.val (Is (.float .f64 b)), kF, kF] [] [.inl 2, .inr 0, .inr 1] follows S1 rfl (by kernel_rfl) ?_ ?_
  · refine ⟨⟨⟨trivial, ?_⟩, ?_⟩, ?_⟩
    · exact mS 0 0
    · exact owe_fcmp rfl wA rfl ((oO 0 9).imp (fl_is hb)) ((opnd_const _).imp (fl_is (by decide))) (eq0_f (by rw [hp]; intro h; have := Option.some.inj h; omega)) rfl
    · exact mO 1 10
  intro B2 a2 W2 (S2 : Sta w 63 [] [(8, bF), (0, Is (.float .f64 b)), (1, iV n)] _ _ _)
  refine wp_cond_false (S2.bool 0 8 rfl) ?_
  refine wp_stmt_seq [.val (Is (.float .f64 b)), kF, kF, .val (Is (.float .f64 b)), kF, kF, kF] [] [.inl 6, .inr 1, .inr 2] follows S2 rfl (by kernel_rfl) ?_ ?_
  · repeat' refine And.intro ?_ ?_
    · trivial
    · exact mS 1 0
    · exact cc2 wA (qO 0 13 rfl) (opnd_const _) (fresh_is _) (pur2 (isinf_n hb hp (by omega)))
    · exact mO 1 14
    · exact mW (wI 2 15) (oS 1 0)
    · exact cc1 (wI 2 15) (qO 3 16 rfl) (fresh_is _) (pur1 (isnan_f hp))
    · exact pF wA (oO 2 15) (oO 4 17)
    · exact mO 5 18
  intro B3 a3 W3 (S3 : Sta w 63 [] [(12, bF), (0, Is (.float .f64 b)), (1, iV n)] _ _ _)
  refine wp_cond_false (S3.bool 0 12 rfl) ?_
  refine wp_skip ?_
  refine inBlkN ?_
  refine thenN ?_
  refine wp_stmt_seq [.val (Is (.float .f64 b)), .val ((TWO (IS (.float .f64 b)) (IS (.int .i64 0))) w.heap.size), .val ((TWO (IS (.float .f64 b)) (IS (.int .i64 0))) w.heap.size), .val (Is (.float .f64 b)), .val (iV 0), .val (Is (.float .f64 b)), .val (iV 0)] [] [.inl 5, .inl 6, .inr 2] follows S3 rfl (by kernel_rfl) ?_ ?_
  · repeat' refine And.intro ?_ ?_
    · trivial
    · exact mS 1 0
    · exact cc1 wA (qO 0 21 rfl) (fresh_two (fresh_is _) (fresh_is _)) (pur1t (normalize_n b hb _ hp (by omega)))
    · exact mO 1 22
    · exact e20 wA (oO 2 20)
    · exact e21 wA (oO 2 20)
    · exact mO 3 23
    · exact mO 4 24
  intro B4 a4 W4 (S4 : Sta w 63 [] [(0, Is (.float .f64 b)), (5, iV 0), (1, iV n)] _ _ _)
  refine wp_stmt_seq [.val (iV n), .val (iV 0), .val (iV n), .val (iV n)] [] [.inl 3, .inr 0] follows S4 rfl (by kernel_rfl) ?_ ?_
  · refine ⟨⟨⟨⟨trivial, ?_⟩, ?_⟩, ?_⟩, ?_⟩
    · exact mS 2 1
    · exact mS 1 5
    · exact b_add_int wA (oO 0 25) (oO 1 26)
    · exact mO 2 27
  intro B5 a5 W5 (S5 : Sta w 63 [] [(1, iV n), (0, Is (.float .f64 b))] _ _ _)
  refine wp_stmt_seq [.val (Is (.float .f64 b)), .val (Is (.int .u64 ((b : Nat) : Int))), .val (Is (.int .u64 ((b : Nat) : Int)))] [] [.inl 2, .inr 0, .inr 1] follows S5 rfl (by kernel_rfl) ?_ ?_
  · refine ⟨⟨⟨trivial, ?_⟩, ?_⟩, ?_⟩
    · exact mS 1 0
    · exact owe_tobits rfl wA rfl (oO 0 28) rfl
    · exact mO 1 29
  intro B6 a6 W6 (S6 : Sta w 63 [] [(6, Is (.int .u64 ((b : Nat) : Int))), (1, iV n), (0, Is (.float .f64 b))] _ _ _)
  refine wp_stmt_seq [.val (iV n), .val (Is (.int .u64 ((b : Nat) : Int))), .val (Is (.int .u64 ((E : Nat) : Int))), .val (iV ((E : Nat) : Int)), .val (iV ((E : Nat) : Int)), .val (Is (.int .i64 (((E : Nat) : Int) - 1023))), .val (iV x), .val (iV x)] [] [.inl 7, .inr 0, .inr 2] follows S6 rfl (by kernel_rfl) ?_ ?_
  · repeat' refine And.intro ?_ ?_
    · trivial
    · exact mS 1 1
    · exact mS 0 6
    · exact owe_bin rfl wA rfl (oO 1 31) (opnd_const _) rfl (fun ρ w h1 h2 => by rw [← fw_div (E := E) hf, ← eb]; exact u_shr52 ρ _ _ _ w b _ h1 h2)
    · exact owe_un (x := .tmp 32) rfl wA rfl (oO 2 32) rfl (fun ρ w h1 => by exact u_int ρ _ _ w E (by omega) h1)
    · exact owe_bin rfl wA rfl (oO 3 33) (opnd_const _) rfl (fun ρ w h1 h2 => by exact i_and ρ _ _ _ w E (by omega) h1 h2)
    · exact b_sub_int wA (oO 4 34) (opnd_const _) (h := ⟨rfl, by omega, by omega⟩)
    · exact b_add_int wA (oO 0 30) (oO 5 35)
    · exact mO 6 36
  intro B7 a7 W7 (S7 : Sta w 63 [] [(1, iV x), (6, Is (.int .u64 ((b : Nat) : Int))), (0, Is (.float .f64 b))] _ _ _)
  refine wp_seq ?_
  refine wp_stmt_seq [.val (iV x), kF] [] [.inl 1, .inr 0, .inr 1, .inr 2] follows S7 rfl (by kernel_rfl) ?_ ?_
  · refine ⟨⟨trivial, ?_⟩, ?_⟩
    · exact mS 0 1
    · exact b_lss_int_f wA (oO 0 37) (opnd_const _)
  intro B8 a8 W8 (S8 : Sta w 63 [] [(38, bF), (1, iV x), (6, Is (.int .u64 ((b : Nat) : Int))), (0, Is (.float .f64 b))] _ _ _)
  refine wp_cond_false (S8.bool 0 38 rfl) ?_
  refine wp_skip ?_
  refine thenN ?_
  refine wp_seq ?_
  refine wp_stmt_seq [.val (iV x), kF] [] [.inl 1, .inr 1, .inr 2, .inr 3] follows S8 rfl (by kernel_rfl) ?_ ?_
  · refine ⟨⟨trivial, ?_⟩, ?_⟩
    · exact mS 1 1
    · exact b_gtr_int_f wA (oO 0 41) (opnd_const _)
  intro B9 a9 W9 (S9 : Sta w 63 [] [(42, bF), (1, iV x), (6, Is (.int .u64 ((b : Nat) : Int))), (0, Is (.float .f64 b))] _ _ _)
  refine wp_cond_false (S9.bool 0 42 rfl) ?_
  refine wp_skip ?_
  refine thenN ?_
  refine wp_stmt_seq [.val (Is (.float FloatKind.f64 4607182418800017408))] [] [.inl 0, .inr 1, .inr 2] follows S9 rfl (by kernel_rfl) ?_ ?_
  · refine ⟨trivial, ?_⟩
    · exact mC
  intro B10 a10 W10 (S10 : Sta w 63 [] [(7, Is (.float FloatKind.f64 4607182418800017408)), (1, iV x), (6, Is (.int .u64 ((b : Nat) : Int)))] _ _ _)
  refine wp_seq ?_
  refine wp_stmt_seq [.val (iV x), kT] [] [.inl 1, .inr 0, .inr 1, .inr 2] follows S10 rfl (by kernel_rfl) ?_ ?_
  · refine ⟨⟨trivial, ?_⟩, ?_⟩
    · exact mS 1 1
    · exact b_lss_int_t wA (oO 0 47) (opnd_const _)
  intro B11 a11 W11 (S11 : Sta w 63 [] [(48, bT), (7, Is (.float FloatKind.f64 4607182418800017408)), (1, iV x), (6, Is (.int .u64 ((b : Nat) : Int)))] _ _ _)
  refine wp_cond_true (S11.bool 0 48 rfl) ?_
  refine wp_stmt_seq [.val (iV x), .val (iV (x + 53)), .val (iV (x + 53))] [] [.inl 2, .inr 3] follows S11 rfl (by kernel_rfl) ?_ ?_
  · refine ⟨⟨⟨trivial, ?_⟩, ?_⟩, ?_⟩
    · exact mS 2 1
    · exact b_add_int wA (oO 0 49) (opnd_const _) (h := ⟨rfl, by omega, by omega⟩)
    · exact mO 1 50
  intro B12 a12 W12 (S12 : Sta w 63 [] [(1, iV (x + 53)), (6, Is (.int .u64 ((b : Nat) : Int)))] _ _ _)
  refine wp_stmt [.val (Is (.float FloatKind.f64 4368491638549381120))] [] [.inl 0, .inr 0, .inr 1] follows S12 rfl (by kernel_rfl) ?_ ?_
  · refine ⟨trivial, ?_⟩
    · exact mC
  intro B13 a13 W13 (S13 : Sta w 63 [] [(7, Is (.float FloatKind.f64 4368491638549381120)), (1, iV (x + 53)), (6, Is (.int .u64 ((b : Nat) : Int)))] _ _ _)
  refine thenN ?_
  refine wp_stmt_seq [.val (Is (.int .u64 ((b : Nat) : Int))), .val (Is (.int .u64 ((f : Nat) : Int))), .val (Is (.int .u64 ((f : Nat) : Int)))] [] [.inl 2, .inr 0, .inr 1] follows S13 rfl (by kernel_rfl) ?_ ?_
  · refine ⟨⟨⟨trivial, ?_⟩, ?_⟩, ?_⟩
    · exact mS 2 6
    · exact owe_bin rfl wA rfl (oO 0 51) (opnd_const _) rfl (fun ρ w h1 h2 => by exact u_andn ρ _ _ _ w b f (by rw [eb]; exact mask0 (by omega) hf) h1 h2)
    · exact mO 1 52
  intro B14 a14 W14 (S14 : Sta w 63 [] [(6, Is (.int .u64 ((f : Nat) : Int))), (7, Is (.float FloatKind.f64 4368491638549381120)), (1, iV (x + 53))] _ _ _)
  refine wp_stmt_seq [.val (Is (.int .u64 ((f : Nat) : Int))), .val (iV (x + 53)), .val (iV ((k : Nat) : Int)), .val (Is (.int .u64 ((k : Nat) : Int))), .val (Is (.int .u64 ((k * 4503599627370496 : Nat) : Int))), .val (Is (.int .u64 ((fw 0 k f : Nat) : Int))), .val (Is (.int .u64 ((fw 0 k f : Nat) : Int)))] [] [.inl 6, .inr 1] follows S14 rfl (by kernel_rfl) ?_ ?_
  · repeat' refine And.intro ?_ ?_
    · trivial
    · exact mS 0 6
    · exact mS 2 1
    · exact b_add_int wA (oO 1 54) (opnd_const _)
    · exact owe_un (x := .tmp 55) rfl wA rfl (oO 2 55) rfl (fun ρ w h1 => by exact i_u64 ρ _ _ w k (by omega) h1)
    · exact owe_bin rfl wA rfl (oO 3 56) (opnd_const _) rfl (fun ρ w h1 h2 => by exact u_shl52 ρ _ _ _ w k _ (by omega) h1 h2)
    · exact owe_bin rfl wA rfl (oO 0 53) (oO 4 57) rfl (fun ρ w h1 h2 => by exact u_or ρ _ _ _ w f (k * 4503599627370496) _ (exp0 (by omega) hf) h1 h2)
    · exact mO 5 58
  intro B15 a15 W15 (S15 : Sta w 63 [] [(6, Is (.int .u64 ((fw 0 k f : Nat) : Int))), (7, Is (.float FloatKind.f64 4368491638549381120))] _ _ _)
  refine wp_stmt_seq [.val (Is (.float FloatKind.f64 4368491638549381120)), .val (Is (.int .u64 ((fw 0 k f : Nat) : Int))), .val (Is (.float .f64 (fw 0 k f))), .val (Is (.float .f64 r)), .val (Is (.float .f64 r))] [] [.inl 4] follows S15 rfl (by kernel_rfl) ?_ ?_
  · refine ⟨⟨⟨⟨⟨trivial, ?_⟩, ?_⟩, ?_⟩, ?_⟩, ?_⟩
    · exact mS 1 7
    · exact mS 0 6
    · exact owe_frbits rfl wA rfl (oO 1 60) rfl
    · exact owe_fmul hm rfl wA rfl (oO 0 59) (oO 2 61) rfl
    · exact mO 3 62
  intro B16 a16 W16 (S16 : Sta w 63 [] [(4, Is (.float .f64 r))] _ _ _)
  refine wp_ret ?_
  exact end_one S16 rfl (res_tmp S16 0 4 rfl)
set_option maxHeartbeats 400000 in
theorem ldexp_Z (w : World) (b : Nat) (n : Int) (hb : b < 18446744073709551616) (hp : plc b = some 0) :
    Calls Tryz.prog 38 #[(.float .f64 b), (.int .i64 n)] w (Gives (IS (.float .f64 b)) w) := by
  refine calls_sta (sl := [(0, (Is (.float .f64 b))), (1, (iV n))]) Tryz.func38 rfl Tryz.ntmps38 (by simp) (args_cons rfl (is_has _) (args_cons rfl (is_has _) args_nil)) ?_
  intro a0 S0
  refine wp_stmt_seq [.val (Is (.float FloatKind.f64 0))] [] [.inr 0, .inr 1] follows S0 rfl (by kernel_rfl) ?_ ?_
  · refine ⟨trivial, ?_⟩
    · exact mC
  intro B1 a1 W1 (S1 : Sta w 63 [] [(0, Is (.float .f64 b)), (1, iV n)] _ _ _)
  refine wp_seq ?_
  refine wp_block ?_
  refine wp_stmt_seq [.val (Is (.float .f64 b)), kT, kT] [] [.inl 2, .inr 0, .inr 1] follows S1 rfl (by kernel_rfl) ?_ ?_
  · refine ⟨⟨⟨trivial, ?_⟩, ?_⟩, ?_⟩
    · exact mS 0 0
    · exact owe_fcmp rfl wA rfl ((oO 0 9).imp (fl_is hb)) ((opnd_const _).imp (fl_is (by decide))) (eq0_t hp) rfl
    · exact mO 1 10
  intro B2 a2 W2 (S2 : Sta w 63 [] [(8, bT), (0, Is (.float .f64 b)), (1, iV n)] _ _ _)
  refine wp_cond_true (S2.bool 0 8 rfl) ?_
  refine wp_stmt_seq [.val (Is (.float .f64 b)), .val (Is (.float .f64 b))] [] [.inl 1] follows S2 rfl (by kernel_rfl) ?_ ?_
  · refine ⟨⟨trivial, ?_⟩, ?_⟩
    · exact mS 1 0
    · exact mO 0 11
  intro B3 a3 W3 (S3 : Sta w 63 [] [(4, Is (.float .f64 b))] _ _ _)
  refine wp_ret ?_
  refine inBlkR ?_
  refine thenR ?_
  exact end_one S3 rfl (res_tmp S3 0 4 rfl)

theorem Ldexp_w (w : World) (b r : Nat) (n : Int) (h : ∀ w, Calls Tryz.prog 38 #[.float .f64 b, .int .i64 n] w (Gives (IS (.float .f64 r)) w)) : Calls Tryz.prog 18 #[.float .f64 b, .int .i64 n] w (Gives (IS (.float .f64 r)) w) := by
  go_enter Tryz.func18, Tryz.ntmps18
  go_wp2_with (go_at_call 38; refine (h _).mono ?_; rintro e w' ⟨v, rfl, hb, rfl⟩)
  go_ret
  exact ⟨_, rfl, hb, rfl⟩

/-- The place of a word by a power of two: at most that of the infinity. -/
theorem Ldexp_word (m L : Nat) (hm : m < 9007199254740992) (hL : L = 0 ∨ 4503599627370496 ≤ m) (hL2 : L ≤ 900000000) : ∃ r, r < 18446744073709551616 ∧ plc r = some ((min (L * 4503599627370496 + m) 9218868437227405312 : Nat) : Int) ∧ ∀ w, Calls Tryz.prog 18 #[.float .f64 (floatOfInt .f64 (m : Int)), .int .i64 ((L : Int) - 1074)] w (Gives (IS (.float .f64 r)) w) := by
  by_cases hm0 : m = 0
  · subst hm0
    have hL0 : L = 0 := by omega
    subst hL0
    refine ⟨0, by decide, rfl, fun w => Ldexp_w w _ _ _ (fun w => ?_)⟩
    exact ldexp_Z w 0 _ (by decide) rfl
  · obtain ⟨l, f, hl, hf, hmf, hw, hll⟩ := of_word m (by omega) hm
    rw [hw]
    have hb := fw_lt (show 0 < 2 by decide) (show l + 1023 < 2048 by omega) hf
    have hp := plc_fw 0 (l + 1023) f (by decide) (by omega) hf
    rw [if_neg (by decide)] at hp
    by_cases hn : 4503599627370496 ≤ m
    · have hl2 := hll.2 hn
      subst hl2
      rw [Nat.sub_self, Nat.pow_zero, Nat.mul_one] at hmf
      by_cases hi : 2045 < L
      · refine ⟨9218868437227405312, by decide, ?_, fun w => Ldexp_w w _ _ _ (fun w => ?_)⟩
        · rw [Nat.min_eq_right (by omega)]; rfl
        · exact ldexp_I w _ _ _ _ _ hb hp rfl (by omega) (by omega) hf (by omega) (by omega) rfl (by omega)
      · refine ⟨fw 0 (L + 1) f, fw_lt (by decide) (by omega) hf, ?_, fun w => Ldexp_w w _ _ _ (fun w => ?_)⟩
        · rw [plc_fw 0 (L + 1) f (by decide) (by omega) hf, if_neg (by decide), Nat.min_eq_left (by omega)]
          exact congrArg some (by omega)
        · exact ldexp_N w _ _ _ _ _ hb hp rfl (by omega) (by omega) hf (by omega) (by omega) rfl (L + 1) (by omega) (by omega) (by omega) (mul_oneG (L + 1) f (by omega) (by omega) hf)
    · have hL0 : L = 0 := by omega
      subst hL0
      have hl3 : l < 52 := by
        have : l ≠ 52 := fun h => hn (hll.1 h)
        omega
      refine ⟨m, by omega, ?_, fun w => Ldexp_w w _ _ _ (fun w => ?_)⟩
      · rw [Nat.zero_mul, Nat.zero_add, Nat.min_eq_left (by omega)]
        unfold plc
        rw [if_pos (by omega), if_neg (by omega)]
        exact congrArg some (by omega)
      · exact ldexp_D w _ _ _ _ _ hb hp rfl (by omega) (by omega) hf (by omega) (by omega) rfl (l + 2) m (by omega) (by omega) (by omega) (mul_back l f m hl3 (by omega) (by omega) hf hmf)

theorem Ldexp_zero (n : Int) : ∀ w, Calls Tryz.prog 18 #[.float .f64 (floatOfInt .f64 ((0 : Nat) : Int)), .int .i64 n] w (Gives (IS (.float .f64 0)) w) := fun w => Ldexp_w w _ _ _ (fun w => ldexp_Z w 0 _ (by decide) rfl)
end Go.Proofs.YtgalppimdmjdcabGreatDoor

/-
  The interval about a number whose top bits are known.
-/
namespace Go.Proofs.YtgalppimdmjdcabGreatDoor
open Go Go.RowKit Nt
set_option linter.unusedSimpArgs false
set_option linter.unusedVariables false
set_option maxRecDepth 20000

theorem run_cvtI (ρ : Operand → Value) (o : Oper) (x : Operand) (w : World) (m : Nat) (h1 : ρ x = .int .u64 (m : Int)) : (execOp ρ { o with op := .convert 27 29 x }).run Tryz.prog w = .ok (.value (.float .f64 (floatOfInt .f64 (m : Int)))) w := by
  have := run_convert_int_float (P := Tryz.prog) w 27 29 .u64 .f64 (m : Int) (by rw [Tryz.underlying27]; rfl) Tryz.underlying29
  unfold execOp
  simp [h1, this]
theorem j_add (ρ : Operand → Value) (o : Oper) (x y : Operand) (w : World) (a b r : Int) (h : a + b = r ∧ -9223372036854775808 ≤ r ∧ r ≤ 9223372036854775807) (h1 : ρ x = .int .i64 a) (h2 : ρ y = .int .i64 b) : (execOp ρ { o with op := .binOp .add 2 x y 2 }).run Tryz.prog w = .ok (.value (.int .i64 r)) w := by
  obtain ⟨rfl, h3, h4⟩ := h
  have h5 : IntKind.i64.wrap (a + b) = a + b := wrap64_id h3 h4
  clear h3 h4
  unfold execOp
  go_simp
theorem j_neg (ρ : Operand → Value) (o : Oper) (x : Operand) (w : World) (a r : Int) (h : -a = r ∧ -9223372036854775808 ≤ r ∧ r ≤ 9223372036854775807) (h1 : ρ x = .int .i64 a) : (execOp ρ { o with op := .unOp .neg 2 x }).run Tryz.prog w = .ok (.value (.int .i64 r)) w := by
  obtain ⟨rfl, h3, h4⟩ := h
  have h5 : IntKind.i64.wrap (-a) = -a := wrap64_id h3 h4
  clear h3 h4
  unfold execOp
  go_simp
theorem place_at {b : Nat} (hb : b < 18446744073709551616) {p : Int} (hp : plc b = some p) : Pur 30 #[.float .f64 b] (.int .i64 p) := by
  have := place_p b hb
  rwa [(plc_pl hb hp).1] at this
theorem st_at {n : Int} (h1 : -9218868437227405312 ≤ n) (h2 : n ≤ 9218868437227405312) : PurF 29 #[.int .i64 n] (some n) := ⟨st n, (plc_st h1 h2).2, (plc_st h1 h2).1, standing_p n (by omega) (by omega)⟩
theorem isinf_ut {b : Nat} (hb : b < 18446744073709551616) {p : Int} (hp : plc b = some p) (h : p = 9218868437227405312) : Pur 14 #[.float .f64 b, .int .i64 1] (.bool true) := by
  have := isinf_u b hb p hp
  rwa [decide_eq_true h] at this
theorem isinf_uf {b : Nat} (hb : b < 18446744073709551616) {p : Int} (hp : plc b = some p) (h : ¬ p = 9218868437227405312) : Pur 14 #[.float .f64 b, .int .i64 1] (.bool false) := by
  have := isinf_u b hb p hp
  rwa [decide_eq_false h] at this
set_option maxHeartbeats 400000 in
theorem ab_000 (w : World) (m r P : Nat) (n : Int) (hr : r < 18446744073709551616) (hp : plc r = some ((P : Nat) : Int)) (hL : ∀ w, Calls Tryz.prog 18 #[.float .f64 (floatOfInt .f64 ((m : Nat) : Int)), .int .i64 n] w (Gives (IS (.float .f64 r)) w)) (hP : P < 9218868437227405312) :
    Calls Tryz.prog 23 #[(.bool false), (.int .u64 ((m : Nat) : Int)), (.int .i64 n), (.bool false)] w (Gives (IVN (some ((P : Nat) : Int)) (some (((P : Nat) : Int) + 1))) w) := by
  refine calls_sta (sl := [(0, bF), (1, (Is (.int .u64 ((m : Nat) : Int)))), (2, (iV n)), (3, bF)]) Tryz.func23 rfl Tryz.ntmps23 (by simp) (args_cons rfl (is_has _) (args_cons rfl (is_has _) (args_cons rfl (is_has _) (args_cons rfl (is_has _) args_nil)))) ?_
  intro a0 S0
  refine wp_stmt_seq [.new (.box 34 (Is (.agg #[.float .f64 0, .float .f64 0])))] [.inl 0] [.inr 0, .inr 1, .inr 2, .inr 3] follows S0 rfl (by kernel_rfl) ?_ ?_
  · refine ⟨trivial, ?_⟩
    · exact owe_new rfl wA rfl rfl (fun ρ w => alloc_ival ρ _ w)
  intro B1 a1 W1 (S1 : Sta w 35 [(8, (.box 34 (Is (.agg #[.float .f64 0, .float .f64 0]))))] [(0, bF), (1, Is (.int .u64 ((m : Nat) : Int))), (2, iV n), (3, bF)] _ _ _)
  refine wp_stmt_seq [.val (Is (.int .u64 ((m : Nat) : Int))), .val (Is (.float .f64 (floatOfInt .f64 ((m : Nat) : Int)))), .val (iV n), .val (Is (.float .f64 r)), .val (Is (.float .f64 r))] [.inr 0] [.inl 4, .inr 0, .inr 3] follows S1 rfl (by kernel_rfl) ?_ ?_
  · refine ⟨⟨⟨⟨⟨trivial, ?_⟩, ?_⟩, ?_⟩, ?_⟩, ?_⟩
    · exact mS 1 1
    · exact owe_un (x := .tmp 12) rfl wA rfl (oO 0 12) rfl (fun ρ w h1 => by exact run_cvtI ρ _ _ w m h1)
    · exact mS 2 2
    · exact cc2 wA (qO 1 13 rfl) (qO 2 14 rfl) (fresh_is _) (is2 hL)
    · exact mO 3 15
  intro B2 a2 W2 (S2 : Sta w 35 [(8, (.box 34 (Is (.agg #[.float .f64 0, .float .f64 0]))))] [(9, Is (.float .f64 r)), (0, bF), (3, bF)] _ _ _)
  refine wp_seq ?_
  refine wp_stmt_seq [.val (Is (.float .f64 r)), kF] [.inr 0] [.inl 1, .inr 0, .inr 1, .inr 2] follows S2 rfl (by kernel_rfl) ?_ ?_
  · refine ⟨⟨trivial, ?_⟩, ?_⟩
    · exact mS 0 9
    · exact cc2 wA (qO 0 16 rfl) (opnd_const _) (fresh_is _) (pur2 (isinf_uf hr hp (by omega)))
  intro B3 a3 W3 (S3 : Sta w 35 [(8, (.box 34 (Is (.agg #[.float .f64 0, .float .f64 0]))))] [(17, bF), (9, Is (.float .f64 r)), (0, bF), (3, bF)] _ _ _)
  refine wp_cond_false (S3.bool 0 17 rfl) ?_
  refine wp_skip ?_
  refine thenN ?_
  refine wp_stmt_seq [.val (Is (.float .f64 r)), .val (iV ((P : Nat) : Int)), .val (iV ((P : Nat) : Int))] [.inr 0] [.inl 2, .inr 2, .inr 3] follows S3 rfl (by kernel_rfl) ?_ ?_
  · refine ⟨⟨⟨trivial, ?_⟩, ?_⟩, ?_⟩
    · exact mS 1 9
    · exact cc1 wA (qO 0 18 rfl) (fresh_is _) (pur1 (place_at hr hp))
    · exact mO 1 19
  intro B4 a4 W4 (S4 : Sta w 35 [(8, (.box 34 (Is (.agg #[.float .f64 0, .float .f64 0]))))] [(10, iV ((P : Nat) : Int)), (0, bF), (3, bF)] _ _ _)
  refine wp_stmt_seq [.val (iV ((P : Nat) : Int)), .val (iV ((P : Nat) : Int))] [.inr 0] [.inl 1, .inr 0, .inr 1, .inr 2] follows S4 rfl (by kernel_rfl) ?_ ?_
  · refine ⟨⟨trivial, ?_⟩, ?_⟩
    · exact mS 0 10
    · exact mO 0 20
  intro B5 a5 W5 (S5 : Sta w 35 [(8, (.box 34 (Is (.agg #[.float .f64 0, .float .f64 0]))))] [(11, iV ((P : Nat) : Int)), (10, iV ((P : Nat) : Int)), (0, bF), (3, bF)] _ _ _)
  refine wp_seq ?_
  refine wp_stmt_seq [kF, kT] [.inr 0] [.inl 1, .inr 0, .inr 1, .inr 2] follows S5 rfl (by kernel_rfl) ?_ ?_
  · refine ⟨⟨trivial, ?_⟩, ?_⟩
    · exact mS 3 3
    · exact b_not wA (oO 0 21)
  intro B6 a6 W6 (S6 : Sta w 35 [(8, (.box 34 (Is (.agg #[.float .f64 0, .float .f64 0]))))] [(22, bT), (11, iV ((P : Nat) : Int)), (10, iV ((P : Nat) : Int)), (0, bF)] _ _ _)
  refine wp_cond_true (S6.bool 0 22 rfl) ?_
  refine wp_stmt [.val (iV ((P : Nat) : Int)), .val (Is (.int .i64 (((P : Nat) : Int) + 1))), .val (Is (.int .i64 (((P : Nat) : Int) + 1)))] [.inr 0] [.inl 2, .inr 2, .inr 3] follows S6 rfl (by kernel_rfl) ?_ ?_
  · refine ⟨⟨⟨trivial, ?_⟩, ?_⟩, ?_⟩
    · exact mS 1 11
    · exact owe_bin rfl wA rfl (oO 0 23) (opnd_const _) rfl (fun ρ w h1 h2 => by exact j_add ρ _ _ _ w _ _ _ ⟨by omega, by omega, by omega⟩ h1 h2)
    · exact mO 1 24
  intro B7 a7 W7 (S7 : Sta w 35 [(8, (.box 34 (Is (.agg #[.float .f64 0, .float .f64 0]))))] [(11, Is (.int .i64 (((P : Nat) : Int) + 1))), (10, iV ((P : Nat) : Int)), (0, bF)] _ _ _)
  refine thenN ?_
  refine wp_seq ?_
  refine wp_stmt_seq [kF] [.inr 0] [.inl 0, .inr 0, .inr 1] follows S7 rfl (by kernel_rfl) ?_ ?_
  · refine ⟨trivial, ?_⟩
    · exact mS 2 0
  intro B8 a8 W8 (S8 : Sta w 35 [(8, (.box 34 (Is (.agg #[.float .f64 0, .float .f64 0]))))] [(25, bF), (11, Is (.int .i64 (((P : Nat) : Int) + 1))), (10, iV ((P : Nat) : Int))] _ _ _)
  refine wp_cond_false (S8.bool 0 25 rfl) ?_
  refine wp_skip ?_
  refine thenN ?_
  refine wp_stmt_seq [.val (iV ((P : Nat) : Int)), .val (FL (some ((P : Nat) : Int))), .val (Is (.int .i64 (((P : Nat) : Int) + 1))), .val (FL (some (((P : Nat) : Int) + 1))), .val (SF [(FL (some ((P : Nat) : Int))), (FL (some (((P : Nat) : Int) + 1)))]), .put (.inl 8) (.box 34 (SF [(FL (some ((P : Nat) : Int))), (FL (some (((P : Nat) : Int) + 1)))]))] [.inr 0] [] follows S8 rfl (by kernel_rfl) ?_ ?_
  · refine ⟨⟨⟨⟨⟨⟨trivial, ?_⟩, ?_⟩, ?_⟩, ?_⟩, ?_⟩, ?_⟩
    · exact mS 2 10
    · exact cc1 wA (qO 0 30 rfl) (fresh_fl _) (purF1 (st_at (n := ((P : Nat) : Int)) (by omega) (by omega)))
    · exact mS 1 11
    · exact cc1 wA (qO 2 32 rfl) (fresh_fl _) (purF1 (st_at (n := (((P : Nat) : Int) + 1)) (by omega) (by omega)))
    · exact owe_build_iv rfl wA rfl (oO 1 31) (oO 3 33) flt_fl flt_fl rfl
    · exact owe_set rfl wA rfl (k := 0) rfl (by kernel_rfl) (oO 4 34) (stores_of strct_ival shp_i0 shp_iv) rfl
  intro B9 a9 W9 (S9 : Sta w 35 [(8, (.box 34 (SF [(FL (some ((P : Nat) : Int))), (FL (some (((P : Nat) : Int) + 1)))])))] [] _ _ _)
  refine wp_ret ?_
  exact end_one S9 rfl (res_cell S9 0 8 rfl strct_ival shp_iv)
set_option maxHeartbeats 400000 in
theorem ab_001 (w : World) (m r P : Nat) (n : Int) (hr : r < 18446744073709551616) (hp : plc r = some ((P : Nat) : Int)) (hL : ∀ w, Calls Tryz.prog 18 #[.float .f64 (floatOfInt .f64 ((m : Nat) : Int)), .int .i64 n] w (Gives (IS (.float .f64 r)) w)) (hP : P < 9218868437227405312) :
    Calls Tryz.prog 23 #[(.bool false), (.int .u64 ((m : Nat) : Int)), (.int .i64 n), (.bool true)] w (Gives (IVN (some ((P : Nat) : Int)) (some ((P : Nat) : Int))) w) := by
  refine calls_sta (sl := [(0, bF), (1, (Is (.int .u64 ((m : Nat) : Int)))), (2, (iV n)), (3, bT)]) Tryz.func23 rfl Tryz.ntmps23 (by simp) (args_cons rfl (is_has _) (args_cons rfl (is_has _) (args_cons rfl (is_has _) (args_cons rfl (is_has _) args_nil)))) ?_
  intro a0 S0
  refine wp_stmt_seq [.new (.box 34 (Is (.agg #[.float .f64 0, .float .f64 0])))] [.inl 0] [.inr 0, .inr 1, .inr 2, .inr 3] follows S0 rfl (by kernel_rfl) ?_ ?_
  · refine ⟨trivial, ?_⟩
    · exact owe_new rfl wA rfl rfl (fun ρ w => alloc_ival ρ _ w)
  intro B1 a1 W1 (S1 : Sta w 35 [(8, (.box 34 (Is (.agg #[.float .f64 0, .float .f64 0]))))] [(0, bF), (1, Is (.int .u64 ((m : Nat) : Int))), (2, iV n), (3, bT)] _ _ _)
  refine wp_stmt_seq [.val (Is (.int .u64 ((m : Nat) : Int))), .val (Is (.float .f64 (floatOfInt .f64 ((m : Nat) : Int)))), .val (iV n), .val (Is (.float .f64 r)), .val (Is (.float .f64 r))] [.inr 0] [.inl 4, .inr 0, .inr 3] follows S1 rfl (by kernel_rfl) ?_ ?_
  · refine ⟨⟨⟨⟨⟨trivial, ?_⟩, ?_⟩, ?_⟩, ?_⟩, ?_⟩
    · exact mS 1 1
    · exact owe_un (x := .tmp 12) rfl wA rfl (oO 0 12) rfl (fun ρ w h1 => by exact run_cvtI ρ _ _ w m h1)
    · exact mS 2 2
    · exact cc2 wA (qO 1 13 rfl) (qO 2 14 rfl) (fresh_is _) (is2 hL)
    · exact mO 3 15
  intro B2 a2 W2 (S2 : Sta w 35 [(8, (.box 34 (Is (.agg #[.float .f64 0, .float .f64 0]))))] [(9, Is (.float .f64 r)), (0, bF), (3, bT)] _ _ _)
  refine wp_seq ?_
  refine wp_stmt_seq [.val (Is (.float .f64 r)), kF] [.inr 0] [.inl 1, .inr 0, .inr 1, .inr 2] follows S2 rfl (by kernel_rfl) ?_ ?_
  · refine ⟨⟨trivial, ?_⟩, ?_⟩
    · exact mS 0 9
    · exact cc2 wA (qO 0 16 rfl) (opnd_const _) (fresh_is _) (pur2 (isinf_uf hr hp (by omega)))
  intro B3 a3 W3 (S3 : Sta w 35 [(8, (.box 34 (Is (.agg #[.float .f64 0, .float .f64 0]))))] [(17, bF), (9, Is (.float .f64 r)), (0, bF), (3, bT)] _ _ _)
  refine wp_cond_false (S3.bool 0 17 rfl) ?_
  refine wp_skip ?_
  refine thenN ?_
  refine wp_stmt_seq [.val (Is (.float .f64 r)), .val (iV ((P : Nat) : Int)), .val (iV ((P : Nat) : Int))] [.inr 0] [.inl 2, .inr 2, .inr 3] follows S3 rfl (by kernel_rfl) ?_ ?_
  · refine ⟨⟨⟨trivial, ?_⟩, ?_⟩, ?_⟩
    · exact mS 1 9
    · exact cc1 wA (qO 0 18 rfl) (fresh_is _) (pur1 (place_at hr hp))
    · exact mO 1 19
  intro B4 a4 W4 (S4 : Sta w 35 [(8, (.box 34 (Is (.agg #[.float .f64 0, .float .f64 0]))))] [(10, iV ((P : Nat) : Int)), (0, bF), (3, bT)] _ _ _)
  refine wp_stmt_seq [.val (iV ((P : Nat) : Int)), .val (iV ((P : Nat) : Int))] [.inr 0] [.inl 1, .inr 0, .inr 1, .inr 2] follows S4 rfl (by kernel_rfl) ?_ ?_
  · refine ⟨⟨trivial, ?_⟩, ?_⟩
    · exact mS 0 10
    · exact mO 0 20
  intro B5 a5 W5 (S5 : Sta w 35 [(8, (.box 34 (Is (.agg #[.float .f64 0, .float .f64 0]))))] [(11, iV ((P : Nat) : Int)), (10, iV ((P : Nat) : Int)), (0, bF), (3, bT)] _ _ _)
  refine wp_seq ?_
  refine wp_stmt_seq [kT, kF] [.inr 0] [.inl 1, .inr 0, .inr 1, .inr 2] follows S5 rfl (by kernel_rfl) ?_ ?_
  · refine ⟨⟨trivial, ?_⟩, ?_⟩
    · exact mS 3 3
    · exact b_not wA (oO 0 21)
  intro B6 a6 W6 (S6 : Sta w 35 [(8, (.box 34 (Is (.agg #[.float .f64 0, .float .f64 0]))))] [(22, bF), (11, iV ((P : Nat) : Int)), (10, iV ((P : Nat) : Int)), (0, bF)] _ _ _)
  refine wp_cond_false (S6.bool 0 22 rfl) ?_
  refine wp_skip ?_
  refine thenN ?_
  refine wp_seq ?_
  refine wp_stmt_seq [kF] [.inr 0] [.inl 0, .inr 1, .inr 2] follows S6 rfl (by kernel_rfl) ?_ ?_
  · refine ⟨trivial, ?_⟩
    · exact mS 3 0
  intro B7 a7 W7 (S7 : Sta w 35 [(8, (.box 34 (Is (.agg #[.float .f64 0, .float .f64 0]))))] [(25, bF), (11, iV ((P : Nat) : Int)), (10, iV ((P : Nat) : Int))] _ _ _)
  refine wp_cond_false (S7.bool 0 25 rfl) ?_
  refine wp_skip ?_
  refine thenN ?_
  refine wp_stmt_seq [.val (iV ((P : Nat) : Int)), .val (FL (some ((P : Nat) : Int))), .val (iV ((P : Nat) : Int)), .val (FL (some ((P : Nat) : Int))), .val (SF [(FL (some ((P : Nat) : Int))), (FL (some ((P : Nat) : Int)))]), .put (.inl 8) (.box 34 (SF [(FL (some ((P : Nat) : Int))), (FL (some ((P : Nat) : Int)))]))] [.inr 0] [] follows S7 rfl (by kernel_rfl) ?_ ?_
  · refine ⟨⟨⟨⟨⟨⟨trivial, ?_⟩, ?_⟩, ?_⟩, ?_⟩, ?_⟩, ?_⟩
    · exact mS 2 10
    · exact cc1 wA (qO 0 30 rfl) (fresh_fl _) (purF1 (st_at (n := ((P : Nat) : Int)) (by omega) (by omega)))
    · exact mS 1 11
    · exact cc1 wA (qO 2 32 rfl) (fresh_fl _) (purF1 (st_at (n := ((P : Nat) : Int)) (by omega) (by omega)))
    · exact owe_build_iv rfl wA rfl (oO 1 31) (oO 3 33) flt_fl flt_fl rfl
    · exact owe_set rfl wA rfl (k := 0) rfl (by kernel_rfl) (oO 4 34) (stores_of strct_ival shp_i0 shp_iv) rfl
  intro B8 a8 W8 (S8 : Sta w 35 [(8, (.box 34 (SF [(FL (some ((P : Nat) : Int))), (FL (some ((P : Nat) : Int)))])))] [] _ _ _)
  refine wp_ret ?_
  exact end_one S8 rfl (res_cell S8 0 8 rfl strct_ival shp_iv)
set_option maxHeartbeats 400000 in
theorem ab_010 (w : World) (m r P : Nat) (n : Int) (hr : r < 18446744073709551616) (hp : plc r = some ((P : Nat) : Int)) (hL : ∀ w, Calls Tryz.prog 18 #[.float .f64 (floatOfInt .f64 ((m : Nat) : Int)), .int .i64 n] w (Gives (IS (.float .f64 r)) w)) (hP : P < 9218868437227405312) :
    Calls Tryz.prog 23 #[(.bool true), (.int .u64 ((m : Nat) : Int)), (.int .i64 n), (.bool false)] w (Gives (IVN (some (-(((P : Nat) : Int) + 1))) (some (-((P : Nat) : Int)))) w) := by
  refine calls_sta (sl := [(0, bT), (1, (Is (.int .u64 ((m : Nat) : Int)))), (2, (iV n)), (3, bF)]) Tryz.func23 rfl Tryz.ntmps23 (by simp) (args_cons rfl (is_has _) (args_cons rfl (is_has _) (args_cons rfl (is_has _) (args_cons rfl (is_has _) args_nil)))) ?_
  intro a0 S0
  refine wp_stmt_seq [.new (.box 34 (Is (.agg #[.float .f64 0, .float .f64 0])))] [.inl 0] [.inr 0, .inr 1, .inr 2, .inr 3] follows S0 rfl (by kernel_rfl) ?_ ?_
  · refine ⟨trivial, ?_⟩
    · exact owe_new rfl wA rfl rfl (fun ρ w => alloc_ival ρ _ w)
  intro B1 a1 W1 (S1 : Sta w 35 [(8, (.box 34 (Is (.agg #[.float .f64 0, .float .f64 0]))))] [(0, bT), (1, Is (.int .u64 ((m : Nat) : Int))), (2, iV n), (3, bF)] _ _ _)
  refine wp_stmt_seq [.val (Is (.int .u64 ((m : Nat) : Int))), .val (Is (.float .f64 (floatOfInt .f64 ((m : Nat) : Int)))), .val (iV n), .val (Is (.float .f64 r)), .val (Is (.float .f64 r))] [.inr 0] [.inl 4, .inr 0, .inr 3] follows S1 rfl (by kernel_rfl) ?_ ?_
  · refine ⟨⟨⟨⟨⟨trivial, ?_⟩, ?_⟩, ?_⟩, ?_⟩, ?_⟩
    · exact mS 1 1
    · exact owe_un (x := .tmp 12) rfl wA rfl (oO 0 12) rfl (fun ρ w h1 => by exact run_cvtI ρ _ _ w m h1)
    · exact mS 2 2
    · exact cc2 wA (qO 1 13 rfl) (qO 2 14 rfl) (fresh_is _) (is2 hL)
    · exact mO 3 15
  intro B2 a2 W2 (S2 : Sta w 35 [(8, (.box 34 (Is (.agg #[.float .f64 0, .float .f64 0]))))] [(9, Is (.float .f64 r)), (0, bT), (3, bF)] _ _ _)
  refine wp_seq ?_
  refine wp_stmt_seq [.val (Is (.float .f64 r)), kF] [.inr 0] [.inl 1, .inr 0, .inr 1, .inr 2] follows S2 rfl (by kernel_rfl) ?_ ?_
  · refine ⟨⟨trivial, ?_⟩, ?_⟩
    · exact mS 0 9
    · exact cc2 wA (qO 0 16 rfl) (opnd_const _) (fresh_is _) (pur2 (isinf_uf hr hp (by omega)))
  intro B3 a3 W3 (S3 : Sta w 35 [(8, (.box 34 (Is (.agg #[.float .f64 0, .float .f64 0]))))] [(17, bF), (9, Is (.float .f64 r)), (0, bT), (3, bF)] _ _ _)
  refine wp_cond_false (S3.bool 0 17 rfl) ?_
  refine wp_skip ?_
  refine thenN ?_
  refine wp_stmt_seq [.val (Is (.float .f64 r)), .val (iV ((P : Nat) : Int)), .val (iV ((P : Nat) : Int))] [.inr 0] [.inl 2, .inr 2, .inr 3] follows S3 rfl (by kernel_rfl) ?_ ?_
  · refine ⟨⟨⟨trivial, ?_⟩, ?_⟩, ?_⟩
    · exact mS 1 9
    · exact cc1 wA (qO 0 18 rfl) (fresh_is _) (pur1 (place_at hr hp))
    · exact mO 1 19
  intro B4 a4 W4 (S4 : Sta w 35 [(8, (.box 34 (Is (.agg #[.float .f64 0, .float .f64 0]))))] [(10, iV ((P : Nat) : Int)), (0, bT), (3, bF)] _ _ _)
  refine wp_stmt_seq [.val (iV ((P : Nat) : Int)), .val (iV ((P : Nat) : Int))] [.inr 0] [.inl 1, .inr 0, .inr 1, .inr 2] follows S4 rfl (by kernel_rfl) ?_ ?_
  · refine ⟨⟨trivial, ?_⟩, ?_⟩
    · exact mS 0 10
    · exact mO 0 20
  intro B5 a5 W5 (S5 : Sta w 35 [(8, (.box 34 (Is (.agg #[.float .f64 0, .float .f64 0]))))] [(11, iV ((P : Nat) : Int)), (10, iV ((P : Nat) : Int)), (0, bT), (3, bF)] _ _ _)
  refine wp_seq ?_
  refine wp_stmt_seq [kF, kT] [.inr 0] [.inl 1, .inr 0, .inr 1, .inr 2] follows S5 rfl (by kernel_rfl) ?_ ?_
  · refine ⟨⟨trivial, ?_⟩, ?_⟩
    · exact mS 3 3
    · exact b_not wA (oO 0 21)
  intro B6 a6 W6 (S6 : Sta w 35 [(8, (.box 34 (Is (.agg #[.float .f64 0, .float .f64 0]))))] [(22, bT), (11, iV ((P : Nat) : Int)), (10, iV ((P : Nat) : Int)), (0, bT)] _ _ _)
  refine wp_cond_true (S6.bool 0 22 rfl) ?_
  refine wp_stmt [.val (iV ((P : Nat) : Int)), .val (Is (.int .i64 (((P : Nat) : Int) + 1))), .val (Is (.int .i64 (((P : Nat) : Int) + 1)))] [.inr 0] [.inl 2, .inr 2, .inr 3] follows S6 rfl (by kernel_rfl) ?_ ?_
  · refine ⟨⟨⟨trivial, ?_⟩, ?_⟩, ?_⟩
    · exact mS 1 11
    · exact owe_bin rfl wA rfl (oO 0 23) (opnd_const _) rfl (fun ρ w h1 h2 => by exact j_add ρ _ _ _ w _ _ _ ⟨by omega, by omega, by omega⟩ h1 h2)
    · exact mO 1 24
  intro B7 a7 W7 (S7 : Sta w 35 [(8, (.box 34 (Is (.agg #[.float .f64 0, .float .f64 0]))))] [(11, Is (.int .i64 (((P : Nat) : Int) + 1))), (10, iV ((P : Nat) : Int)), (0, bT)] _ _ _)
  refine thenN ?_
  refine wp_seq ?_
  refine wp_stmt_seq [kT] [.inr 0] [.inl 0, .inr 0, .inr 1] follows S7 rfl (by kernel_rfl) ?_ ?_
  · refine ⟨trivial, ?_⟩
    · exact mS 2 0
  intro B8 a8 W8 (S8 : Sta w 35 [(8, (.box 34 (Is (.agg #[.float .f64 0, .float .f64 0]))))] [(25, bT), (11, Is (.int .i64 (((P : Nat) : Int) + 1))), (10, iV ((P : Nat) : Int))] _ _ _)
  refine wp_cond_true (S8.bool 0 25 rfl) ?_
  refine wp_stmt [.val (Is (.int .i64 (((P : Nat) : Int) + 1))), .val (Is (.int .i64 (-(((P : Nat) : Int) + 1)))), .val (iV ((P : Nat) : Int)), .val (Is (.int .i64 (-((P : Nat) : Int)))), .val (Is (.int .i64 (-(((P : Nat) : Int) + 1)))), .val (Is (.int .i64 (-((P : Nat) : Int))))] [.inr 0] [.inl 4, .inl 5] follows S8 rfl (by kernel_rfl) ?_ ?_
  · refine ⟨⟨⟨⟨⟨⟨trivial, ?_⟩, ?_⟩, ?_⟩, ?_⟩, ?_⟩, ?_⟩
    · exact mS 1 11
    · exact owe_un (x := .tmp 26) rfl wA rfl (oO 0 26) rfl (fun ρ w h1 => by exact j_neg ρ _ _ w _ _ ⟨by omega, by omega, by omega⟩ h1)
    · exact mS 2 10
    · exact owe_un (x := .tmp 28) rfl wA rfl (oO 2 28) rfl (fun ρ w h1 => by exact j_neg ρ _ _ w _ _ ⟨by omega, by omega, by omega⟩ h1)
    · exact mO 1 27
    · exact mO 3 29
  intro B9 a9 W9 (S9 : Sta w 35 [(8, (.box 34 (Is (.agg #[.float .f64 0, .float .f64 0]))))] [(10, (Is (.int .i64 (-(((P : Nat) : Int) + 1))))), (11, Is (.int .i64 (-((P : Nat) : Int))))] _ _ _)
  refine thenN ?_
  refine wp_stmt_seq [.val (Is (.int .i64 (-(((P : Nat) : Int) + 1)))), .val (FL (some (-(((P : Nat) : Int) + 1)))), .val (Is (.int .i64 (-((P : Nat) : Int)))), .val (FL (some (-((P : Nat) : Int)))), .val (SF [(FL (some (-(((P : Nat) : Int) + 1)))), (FL (some (-((P : Nat) : Int))))]), .put (.inl 8) (.box 34 (SF [(FL (some (-(((P : Nat) : Int) + 1)))), (FL (some (-((P : Nat) : Int))))]))] [.inr 0] [] follows S9 rfl (by kernel_rfl) ?_ ?_
  · refine ⟨⟨⟨⟨⟨⟨trivial, ?_⟩, ?_⟩, ?_⟩, ?_⟩, ?_⟩, ?_⟩
    · exact mS 0 10
    · exact cc1 wA (qO 0 30 rfl) (fresh_fl _) (purF1 (st_at (n := (-(((P : Nat) : Int) + 1))) (by omega) (by omega)))
    · exact mS 1 11
    · exact cc1 wA (qO 2 32 rfl) (fresh_fl _) (purF1 (st_at (n := (-((P : Nat) : Int))) (by omega) (by omega)))
    · exact owe_build_iv rfl wA rfl (oO 1 31) (oO 3 33) flt_fl flt_fl rfl
    · exact owe_set rfl wA rfl (k := 0) rfl (by kernel_rfl) (oO 4 34) (stores_of strct_ival shp_i0 shp_iv) rfl
  intro B10 a10 W10 (S10 : Sta w 35 [(8, (.box 34 (SF [(FL (some (-(((P : Nat) : Int) + 1)))), (FL (some (-((P : Nat) : Int))))])))] [] _ _ _)
  refine wp_ret ?_
  exact end_one S10 rfl (res_cell S10 0 8 rfl strct_ival shp_iv)
set_option maxHeartbeats 400000 in
theorem ab_011 (w : World) (m r P : Nat) (n : Int) (hr : r < 18446744073709551616) (hp : plc r = some ((P : Nat) : Int)) (hL : ∀ w, Calls Tryz.prog 18 #[.float .f64 (floatOfInt .f64 ((m : Nat) : Int)), .int .i64 n] w (Gives (IS (.float .f64 r)) w)) (hP : P < 9218868437227405312) :
    Calls Tryz.prog 23 #[(.bool true), (.int .u64 ((m : Nat) : Int)), (.int .i64 n), (.bool true)] w (Gives (IVN (some (-((P : Nat) : Int))) (some (-((P : Nat) : Int)))) w) := by
  refine calls_sta (sl := [(0, bT), (1, (Is (.int .u64 ((m : Nat) : Int)))), (2, (iV n)), (3, bT)]) Tryz.func23 rfl Tryz.ntmps23 (by simp) (args_cons rfl (is_has _) (args_cons rfl (is_has _) (args_cons rfl (is_has _) (args_cons rfl (is_has _) args_nil)))) ?_
  intro a0 S0
  refine wp_stmt_seq [.new (.box 34 (Is (.agg #[.float .f64 0, .float .f64 0])))] [.inl 0] [.inr 0, .inr 1, .inr 2, .inr 3] follows S0 rfl (by kernel_rfl) ?_ ?_
  · refine ⟨trivial, ?_⟩
    · exact owe_new rfl wA rfl rfl (fun ρ w => alloc_ival ρ _ w)
  intro B1 a1 W1 (S1 : Sta w 35 [(8, (.box 34 (Is (.agg #[.float .f64 0, .float .f64 0]))))] [(0, bT), (1, Is (.int .u64 ((m : Nat) : Int))), (2, iV n), (3, bT)] _ _ _)
  refine wp_stmt_seq [.val (Is (.int .u64 ((m : Nat) : Int))), .val (Is (.float .f64 (floatOfInt .f64 ((m : Nat) : Int)))), .val (iV n), .val (Is (.float .f64 r)), .val (Is (.float .f64 r))] [.inr 0] [.inl 4, .inr 0, .inr 3] follows S1 rfl (by kernel_rfl) ?_ ?_
  · refine ⟨⟨⟨⟨⟨trivial, ?_⟩, ?_⟩, ?_⟩, ?_⟩, ?_⟩
    · exact mS 1 1
    · exact owe_un (x := .tmp 12) rfl wA rfl (oO 0 12) rfl (fun ρ w h1 => by exact run_cvtI ρ _ _ w m h1)
    · exact mS 2 2
    · exact cc2 wA (qO 1 13 rfl) (qO 2 14 rfl) (fresh_is _) (is2 hL)
    · exact mO 3 15
  intro B2 a2 W2 (S2 : Sta w 35 [(8, (.box 34 (Is (.agg #[.float .f64 0, .float .f64 0]))))] [(9, Is (.float .f64 r)), (0, bT), (3, bT)] _ _ _)
  refine wp_seq ?_
  refine wp_stmt_seq [.val (Is (.float .f64 r)), kF] [.inr 0] [.inl 1, .inr 0, .inr 1, .inr 2] follows S2 rfl (by kernel_rfl) ?_ ?_
  · refine ⟨⟨trivial, ?_⟩, ?_⟩
    · exact mS 0 9
    · exact cc2 wA (qO 0 16 rfl) (opnd_const _) (fresh_is _) (pur2 (isinf_uf hr hp (by omega)))
  intro B3 a3 W3 (S3 : Sta w 35 [(8, (.box 34 (Is (.agg #[.float .f64 0, .float .f64 0]))))] [(17, bF), (9, Is (.float .f64 r)), (0, bT), (3, bT)] _ _ _)
  refine wp_cond_false (S3.bool 0 17 rfl) ?_
  refine wp_skip ?_
  refine thenN ?_
  refine wp_stmt_seq [.val (Is (.float .f64 r)), .val (iV ((P : Nat) : Int)), .val (iV ((P : Nat) : Int))] [.inr 0] [.inl 2, .inr 2, .inr 3] follows S3 rfl (by kernel_rfl) ?_ ?_
  · refine ⟨⟨⟨trivial, ?_⟩, ?_⟩, ?_⟩
    · exact mS 1 9
    · exact cc1 wA (qO 0 18 rfl) (fresh_is _) (pur1 (place_at hr hp))
    · exact mO 1 19
  intro B4 a4 W4 (S4 : Sta w 35 [(8, (.box 34 (Is (.agg #[.float .f64 0, .float .f64 0]))))] [(10, iV ((P : Nat) : Int)), (0, bT), (3, bT)] _ _ _)
  refine wp_stmt_seq [.val (iV ((P : Nat) : Int)), .val (iV ((P : Nat) : Int))] [.inr 0] [.inl 1, .inr 0, .inr 1, .inr 2] follows S4 rfl (by kernel_rfl) ?_ ?_
  · refine ⟨⟨trivial, ?_⟩, ?_⟩
    · exact mS 0 10
    · exact mO 0 20
  intro B5 a5 W5 (S5 : Sta w 35 [(8, (.box 34 (Is (.agg #[.float .f64 0, .float .f64 0]))))] [(11, iV ((P : Nat) : Int)), (10, iV ((P : Nat) : Int)), (0, bT), (3, bT)] _ _ _)
  refine wp_seq ?_
  refine wp_stmt_seq [kT, kF] [.inr 0] [.inl 1, .inr 0, .inr 1, .inr 2] follows S5 rfl (by kernel_rfl) ?_ ?_
  · refine ⟨⟨trivial, ?_⟩, ?_⟩
    · exact mS 3 3
    · exact b_not wA (oO 0 21)
  intro B6 a6 W6 (S6 : Sta w 35 [(8, (.box 34 (Is (.agg #[.float .f64 0, .float .f64 0]))))] [(22, bF), (11, iV ((P : Nat) : Int)), (10, iV ((P : Nat) : Int)), (0, bT)] _ _ _)
  refine wp_cond_false (S6.bool 0 22 rfl) ?_
  refine wp_skip ?_
  refine thenN ?_
  refine wp_seq ?_
  refine wp_stmt_seq [kT] [.inr 0] [.inl 0, .inr 1, .inr 2] follows S6 rfl (by kernel_rfl) ?_ ?_
  · refine ⟨trivial, ?_⟩
    · exact mS 3 0
  intro B7 a7 W7 (S7 : Sta w 35 [(8, (.box 34 (Is (.agg #[.float .f64 0, .float .f64 0]))))] [(25, bT), (11, iV ((P : Nat) : Int)), (10, iV ((P : Nat) : Int))] _ _ _)
  refine wp_cond_true (S7.bool 0 25 rfl) ?_
  refine wp_stmt [.val (iV ((P : Nat) : Int)), .val (Is (.int .i64 (-((P : Nat) : Int)))), .val (iV ((P : Nat) : Int)), .val (Is (.int .i64 (-((P : Nat) : Int)))), .val (Is (.int .i64 (-((P : Nat) : Int)))), .val (Is (.int .i64 (-((P : Nat) : Int))))] [.inr 0] [.inl 4, .inl 5] follows S7 rfl (by kernel_rfl) ?_ ?_
  · refine ⟨⟨⟨⟨⟨⟨trivial, ?_⟩, ?_⟩, ?_⟩, ?_⟩, ?_⟩, ?_⟩
    · exact mS 1 11
    · exact owe_un (x := .tmp 26) rfl wA rfl (oO 0 26) rfl (fun ρ w h1 => by exact j_neg ρ _ _ w _ _ ⟨by omega, by omega, by omega⟩ h1)
    · exact mS 2 10
    · exact owe_un (x := .tmp 28) rfl wA rfl (oO 2 28) rfl (fun ρ w h1 => by exact j_neg ρ _ _ w _ _ ⟨by omega, by omega, by omega⟩ h1)
    · exact mO 1 27
    · exact mO 3 29
  intro B8 a8 W8 (S8 : Sta w 35 [(8, (.box 34 (Is (.agg #[.float .f64 0, .float .f64 0]))))] [(10, Is (.int .i64 (-((P : Nat) : Int)))), (11, Is (.int .i64 (-((P : Nat) : Int))))] _ _ _)
  refine thenN ?_
  refine wp_stmt_seq [.val (Is (.int .i64 (-((P : Nat) : Int)))), .val (FL (some (-((P : Nat) : Int)))), .val (Is (.int .i64 (-((P : Nat) : Int)))), .val (FL (some (-((P : Nat) : Int)))), .val (SF [(FL (some (-((P : Nat) : Int)))), (FL (some (-((P : Nat) : Int))))]), .put (.inl 8) (.box 34 (SF [(FL (some (-((P : Nat) : Int)))), (FL (some (-((P : Nat) : Int))))]))] [.inr 0] [] follows S8 rfl (by kernel_rfl) ?_ ?_
  · refine ⟨⟨⟨⟨⟨⟨trivial, ?_⟩, ?_⟩, ?_⟩, ?_⟩, ?_⟩, ?_⟩
    · exact mS 0 10
    · exact cc1 wA (qO 0 30 rfl) (fresh_fl _) (purF1 (st_at (n := (-((P : Nat) : Int))) (by omega) (by omega)))
    · exact mS 1 11
    · exact cc1 wA (qO 2 32 rfl) (fresh_fl _) (purF1 (st_at (n := (-((P : Nat) : Int))) (by omega) (by omega)))
    · exact owe_build_iv rfl wA rfl (oO 1 31) (oO 3 33) flt_fl flt_fl rfl
    · exact owe_set rfl wA rfl (k := 0) rfl (by kernel_rfl) (oO 4 34) (stores_of strct_ival shp_i0 shp_iv) rfl
  intro B9 a9 W9 (S9 : Sta w 35 [(8, (.box 34 (SF [(FL (some (-((P : Nat) : Int)))), (FL (some (-((P : Nat) : Int))))])))] [] _ _ _)
  refine wp_ret ?_
  exact end_one S9 rfl (res_cell S9 0 8 rfl strct_ival shp_iv)
set_option maxHeartbeats 400000 in
theorem ab_100 (w : World) (m r P : Nat) (n : Int) (hr : r < 18446744073709551616) (hp : plc r = some ((P : Nat) : Int)) (hL : ∀ w, Calls Tryz.prog 18 #[.float .f64 (floatOfInt .f64 ((m : Nat) : Int)), .int .i64 n] w (Gives (IS (.float .f64 r)) w)) (hP : P = 9218868437227405312) (exact : Bool) :
    Calls Tryz.prog 23 #[(.bool false), (.int .u64 ((m : Nat) : Int)), (.int .i64 n), (.bool exact)] w (Gives (IVN (some (9218868437227405311)) (some (9218868437227405312))) w) := by
  refine calls_sta (sl := [(0, bF), (1, (Is (.int .u64 ((m : Nat) : Int)))), (2, (iV n)), (3, (Is (.bool exact)))]) Tryz.func23 rfl Tryz.ntmps23 (by simp) (args_cons rfl (is_has _) (args_cons rfl (is_has _) (args_cons rfl (is_has _) (args_cons rfl (is_has _) args_nil)))) ?_
  intro a0 S0
  refine wp_stmt_seq [.new (.box 34 (Is (.agg #[.float .f64 0, .float .f64 0])))] [.inl 0] [.inr 0, .inr 1, .inr 2, .inr 3] follows S0 rfl (by kernel_rfl) ?_ ?_
  · refine ⟨trivial, ?_⟩
    · exact owe_new rfl wA rfl rfl (fun ρ w => alloc_ival ρ _ w)
  intro B1 a1 W1 (S1 : Sta w 35 [(8, (.box 34 (Is (.agg #[.float .f64 0, .float .f64 0]))))] [(0, bF), (1, Is (.int .u64 ((m : Nat) : Int))), (2, iV n), (3, Is (.bool exact))] _ _ _)
  refine wp_stmt_seq [.val (Is (.int .u64 ((m : Nat) : Int))), .val (Is (.float .f64 (floatOfInt .f64 ((m : Nat) : Int)))), .val (iV n), .val (Is (.float .f64 r)), .val (Is (.float .f64 r))] [.inr 0] [.inl 4, .inr 0, .inr 3] follows S1 rfl (by kernel_rfl) ?_ ?_
  · refine ⟨⟨⟨⟨⟨trivial, ?_⟩, ?_⟩, ?_⟩, ?_⟩, ?_⟩
    · exact mS 1 1
    · exact owe_un (x := .tmp 12) rfl wA rfl (oO 0 12) rfl (fun ρ w h1 => by exact run_cvtI ρ _ _ w m h1)
    · exact mS 2 2
    · exact cc2 wA (qO 1 13 rfl) (qO 2 14 rfl) (fresh_is _) (is2 hL)
    · exact mO 3 15
  intro B2 a2 W2 (S2 : Sta w 35 [(8, (.box 34 (Is (.agg #[.float .f64 0, .float .f64 0]))))] [(9, Is (.float .f64 r)), (0, bF), (3, Is (.bool exact))] _ _ _)
  refine wp_seq ?_
  refine wp_stmt_seq [.val (Is (.float .f64 r)), kT] [.inr 0] [.inl 1, .inr 0, .inr 1, .inr 2] follows S2 rfl (by kernel_rfl) ?_ ?_
  · refine ⟨⟨trivial, ?_⟩, ?_⟩
    · exact mS 0 9
    · exact cc2 wA (qO 0 16 rfl) (opnd_const _) (fresh_is _) (pur2 (isinf_ut hr hp (by omega)))
  intro B3 a3 W3 (S3 : Sta w 35 [(8, (.box 34 (Is (.agg #[.float .f64 0, .float .f64 0]))))] [(17, bT), (9, Is (.float .f64 r)), (0, bF), (3, Is (.bool exact))] _ _ _)
  refine wp_cond_true (S3.bool 0 17 rfl) ?_
  refine wp_stmt [.val (Is (.float FloatKind.f64 9218868437227405311)), kF] [.inr 0] [.inl 0, .inl 1, .inr 2] follows S3 rfl (by kernel_rfl) ?_ ?_
  · refine ⟨⟨trivial, ?_⟩, ?_⟩
    · exact mC
    · exact mC
  intro B4 a4 W4 (S4 : Sta w 35 [(8, (.box 34 (Is (.agg #[.float .f64 0, .float .f64 0]))))] [(9, Is (.float FloatKind.f64 9218868437227405311)), (3, bF), (0, bF)] _ _ _)
  refine thenN ?_
  refine wp_stmt_seq [.val (Is (.float FloatKind.f64 9218868437227405311)), .val (iV 9218868437227405311), .val (iV 9218868437227405311)] [.inr 0] [.inl 2, .inr 1, .inr 2] follows S4 rfl (by kernel_rfl) ?_ ?_
  · refine ⟨⟨⟨trivial, ?_⟩, ?_⟩, ?_⟩
    · exact mS 0 9
    · exact cc1 wA (qO 0 18 rfl) (fresh_is _) (pur1 (place_at (by decide) rfl))
    · exact mO 1 19
  intro B5 a5 W5 (S5 : Sta w 35 [(8, (.box 34 (Is (.agg #[.float .f64 0, .float .f64 0]))))] [(10, iV 9218868437227405311), (3, bF), (0, bF)] _ _ _)
  refine wp_stmt_seq [.val (iV 9218868437227405311), .val (iV 9218868437227405311)] [.inr 0] [.inl 1, .inr 0, .inr 1, .inr 2] follows S5 rfl (by kernel_rfl) ?_ ?_
  · refine ⟨⟨trivial, ?_⟩, ?_⟩
    · exact mS 0 10
    · exact mO 0 20
  intro B6 a6 W6 (S6 : Sta w 35 [(8, (.box 34 (Is (.agg #[.float .f64 0, .float .f64 0]))))] [(11, iV 9218868437227405311), (10, iV 9218868437227405311), (3, bF), (0, bF)] _ _ _)
  refine wp_seq ?_
  refine wp_stmt_seq [kF, kT] [.inr 0] [.inl 1, .inr 0, .inr 1, .inr 3] follows S6 rfl (by kernel_rfl) ?_ ?_
  · refine ⟨⟨trivial, ?_⟩, ?_⟩
    · exact mS 2 3
    · exact b_not wA (oO 0 21)
  intro B7 a7 W7 (S7 : Sta w 35 [(8, (.box 34 (Is (.agg #[.float .f64 0, .float .f64 0]))))] [(22, bT), (11, iV 9218868437227405311), (10, iV 9218868437227405311), (0, bF)] _ _ _)
  refine wp_cond_true (S7.bool 0 22 rfl) ?_
  refine wp_stmt [.val (iV 9218868437227405311), .val (iV 9218868437227405312), .val (iV 9218868437227405312)] [.inr 0] [.inl 2, .inr 2, .inr 3] follows S7 rfl (by kernel_rfl) ?_ ?_
  · refine ⟨⟨⟨trivial, ?_⟩, ?_⟩, ?_⟩
    · exact mS 1 11
    · exact owe_bin rfl wA rfl (oO 0 23) (opnd_const _) rfl (fun ρ w h1 h2 => by exact j_add ρ _ _ _ w _ _ _ ⟨by omega, by omega, by omega⟩ h1 h2)
    · exact mO 1 24
  intro B8 a8 W8 (S8 : Sta w 35 [(8, (.box 34 (Is (.agg #[.float .f64 0, .float .f64 0]))))] [(11, iV 9218868437227405312), (10, iV 9218868437227405311), (0, bF)] _ _ _)
  refine thenN ?_
  refine wp_seq ?_
  refine wp_stmt_seq [kF] [.inr 0] [.inl 0, .inr 0, .inr 1] follows S8 rfl (by kernel_rfl) ?_ ?_
  · refine ⟨trivial, ?_⟩
    · exact mS 2 0
  intro B9 a9 W9 (S9 : Sta w 35 [(8, (.box 34 (Is (.agg #[.float .f64 0, .float .f64 0]))))] [(25, bF), (11, iV 9218868437227405312), (10, iV 9218868437227405311)] _ _ _)
  refine wp_cond_false (S9.bool 0 25 rfl) ?_
  refine wp_skip ?_
  refine thenN ?_
  refine wp_stmt_seq [.val (iV 9218868437227405311), .val (FL (some (9218868437227405311))), .val (iV 9218868437227405312), .val (FL (some (9218868437227405312))), .val (SF [(FL (some (9218868437227405311))), (FL (some (9218868437227405312)))]), .put (.inl 8) (.box 34 (SF [(FL (some (9218868437227405311))), (FL (some (9218868437227405312)))]))] [.inr 0] [] follows S9 rfl (by kernel_rfl) ?_ ?_
  · refine ⟨⟨⟨⟨⟨⟨trivial, ?_⟩, ?_⟩, ?_⟩, ?_⟩, ?_⟩, ?_⟩
    · exact mS 2 10
    · exact cc1 wA (qO 0 30 rfl) (fresh_fl _) (purF1 (st_at (n := (9218868437227405311)) (by omega) (by omega)))
    · exact mS 1 11
    · exact cc1 wA (qO 2 32 rfl) (fresh_fl _) (purF1 (st_at (n := (9218868437227405312)) (by omega) (by omega)))
    · exact owe_build_iv rfl wA rfl (oO 1 31) (oO 3 33) flt_fl flt_fl rfl
    · exact owe_set rfl wA rfl (k := 0) rfl (by kernel_rfl) (oO 4 34) (stores_of strct_ival shp_i0 shp_iv) rfl
  intro B10 a10 W10 (S10 : Sta w 35 [(8, (.box 34 (SF [(FL (some (9218868437227405311))), (FL (some (9218868437227405312)))])))] [] _ _ _)
  refine wp_ret ?_
  exact end_one S10 rfl (res_cell S10 0 8 rfl strct_ival shp_iv)
set_option maxHeartbeats 400000 in
theorem ab_110 (w : World) (m r P : Nat) (n : Int) (hr : r < 18446744073709551616) (hp : plc r = some ((P : Nat) : Int)) (hL : ∀ w, Calls Tryz.prog 18 #[.float .f64 (floatOfInt .f64 ((m : Nat) : Int)), .int .i64 n] w (Gives (IS (.float .f64 r)) w)) (hP : P = 9218868437227405312) (exact : Bool) :
    Calls Tryz.prog 23 #[(.bool true), (.int .u64 ((m : Nat) : Int)), (.int .i64 n), (.bool exact)] w (Gives (IVN (some (-9218868437227405312)) (some (-9218868437227405311))) w) := by
  refine calls_sta (sl := [(0, bT), (1, (Is (.int .u64 ((m : Nat) : Int)))), (2, (iV n)), (3, (Is (.bool exact)))]) Tryz.func23 rfl Tryz.ntmps23 (by simp) (args_cons rfl (is_has _) (args_cons rfl (is_has _) (args_cons rfl (is_has _) (args_cons rfl (is_has _) args_nil)))) ?_
  intro a0 S0
  refine wp_stmt_seq [.new (.box 34 (Is (.agg #[.float .f64 0, .float .f64 0])))] [.inl 0] [.inr 0, .inr 1, .inr 2, .inr 3] follows S0 rfl (by kernel_rfl) ?_ ?_
  · refine ⟨trivial, ?_⟩
    · exact owe_new rfl wA rfl rfl (fun ρ w => alloc_ival ρ _ w)
  intro B1 a1 W1 (S1 : Sta w 35 [(8, (.box 34 (Is (.agg #[.float .f64 0, .float .f64 0]))))] [(0, bT), (1, Is (.int .u64 ((m : Nat) : Int))), (2, iV n), (3, Is (.bool exact))] _ _ _)
  refine wp_stmt_seq [.val (Is (.int .u64 ((m : Nat) : Int))), .val (Is (.float .f64 (floatOfInt .f64 ((m : Nat) : Int)))), .val (iV n), .val (Is (.float .f64 r)), .val (Is (.float .f64 r))] [.inr 0] [.inl 4, .inr 0, .inr 3] follows S1 rfl (by kernel_rfl) ?_ ?_
  · refine ⟨⟨⟨⟨⟨trivial, ?_⟩, ?_⟩, ?_⟩, ?_⟩, ?_⟩
    · exact mS 1 1
    · exact owe_un (x := .tmp 12) rfl wA rfl (oO 0 12) rfl (fun ρ w h1 => by exact run_cvtI ρ _ _ w m h1)
    · exact mS 2 2
    · exact cc2 wA (qO 1 13 rfl) (qO 2 14 rfl) (fresh_is _) (is2 hL)
    · exact mO 3 15
  intro B2 a2 W2 (S2 : Sta w 35 [(8, (.box 34 (Is (.agg #[.float .f64 0, .float .f64 0]))))] [(9, Is (.float .f64 r)), (0, bT), (3, Is (.bool exact))] _ _ _)
  refine wp_seq ?_
  refine wp_stmt_seq [.val (Is (.float .f64 r)), kT] [.inr 0] [.inl 1, .inr 0, .inr 1, .inr 2] follows S2 rfl (by kernel_rfl) ?_ ?_
  · refine ⟨⟨trivial, ?_⟩, ?_⟩
    · exact mS 0 9
    · exact cc2 wA (qO 0 16 rfl) (opnd_const _) (fresh_is _) (pur2 (isinf_ut hr hp (by omega)))
  intro B3 a3 W3 (S3 : Sta w 35 [(8, (.box 34 (Is (.agg #[.float .f64 0, .float .f64 0]))))] [(17, bT), (9, Is (.float .f64 r)), (0, bT), (3, Is (.bool exact))] _ _ _)
  refine wp_cond_true (S3.bool 0 17 rfl) ?_
  refine wp_stmt [.val (Is (.float FloatKind.f64 9218868437227405311)), kF] [.inr 0] [.inl 0, .inl 1, .inr 2] follows S3 rfl (by kernel_rfl) ?_ ?_
  · refine ⟨⟨trivial, ?_⟩, ?_⟩
    · exact mC
    · exact mC
  intro B4 a4 W4 (S4 : Sta w 35 [(8, (.box 34 (Is (.agg #[.float .f64 0, .float .f64 0]))))] [(9, Is (.float FloatKind.f64 9218868437227405311)), (3, bF), (0, bT)] _ _ _)
  refine thenN ?_
  refine wp_stmt_seq [.val (Is (.float FloatKind.f64 9218868437227405311)), .val (iV 9218868437227405311), .val (iV 9218868437227405311)] [.inr 0] [.inl 2, .inr 1, .inr 2] follows S4 rfl (by kernel_rfl) ?_ ?_
  · refine ⟨⟨⟨trivial, ?_⟩, ?_⟩, ?_⟩
    · exact mS 0 9
    · exact cc1 wA (qO 0 18 rfl) (fresh_is _) (pur1 (place_at (by decide) rfl))
    · exact mO 1 19
  intro B5 a5 W5 (S5 : Sta w 35 [(8, (.box 34 (Is (.agg #[.float .f64 0, .float .f64 0]))))] [(10, iV 9218868437227405311), (3, bF), (0, bT)] _ _ _)
  refine wp_stmt_seq [.val (iV 9218868437227405311), .val (iV 9218868437227405311)] [.inr 0] [.inl 1, .inr 0, .inr 1, .inr 2] follows S5 rfl (by kernel_rfl) ?_ ?_
  · refine ⟨⟨trivial, ?_⟩, ?_⟩
    · exact mS 0 10
    · exact mO 0 20
  intro B6 a6 W6 (S6 : Sta w 35 [(8, (.box 34 (Is (.agg #[.float .f64 0, .float .f64 0]))))] [(11, iV 9218868437227405311), (10, iV 9218868437227405311), (3, bF), (0, bT)] _ _ _)
  refine wp_seq ?_
  refine wp_stmt_seq [kF, kT] [.inr 0] [.inl 1, .inr 0, .inr 1, .inr 3] follows S6 rfl (by kernel_rfl) ?_ ?_
  · refine ⟨⟨trivial, ?_⟩, ?_⟩
    · exact mS 2 3
    · exact b_not wA (oO 0 21)
  intro B7 a7 W7 (S7 : Sta w 35 [(8, (.box 34 (Is (.agg #[.float .f64 0, .float .f64 0]))))] [(22, bT), (11, iV 9218868437227405311), (10, iV 9218868437227405311), (0, bT)] _ _ _)
  refine wp_cond_true (S7.bool 0 22 rfl) ?_
  refine wp_stmt [.val (iV 9218868437227405311), .val (iV 9218868437227405312), .val (iV 9218868437227405312)] [.inr 0] [.inl 2, .inr 2, .inr 3] follows S7 rfl (by kernel_rfl) ?_ ?_
  · refine ⟨⟨⟨trivial, ?_⟩, ?_⟩, ?_⟩
    · exact mS 1 11
    · exact owe_bin rfl wA rfl (oO 0 23) (opnd_const _) rfl (fun ρ w h1 h2 => by exact j_add ρ _ _ _ w _ _ _ ⟨by omega, by omega, by omega⟩ h1 h2)
    · exact mO 1 24
  intro B8 a8 W8 (S8 : Sta w 35 [(8, (.box 34 (Is (.agg #[.float .f64 0, .float .f64 0]))))] [(11, iV 9218868437227405312), (10, iV 9218868437227405311), (0, bT)] _ _ _)
  refine thenN ?_
  refine wp_seq ?_
  refine wp_stmt_seq [kT] [.inr 0] [.inl 0, .inr 0, .inr 1] follows S8 rfl (by kernel_rfl) ?_ ?_
  · refine ⟨trivial, ?_⟩
    · exact mS 2 0
  intro B9 a9 W9 (S9 : Sta w 35 [(8, (.box 34 (Is (.agg #[.float .f64 0, .float .f64 0]))))] [(25, bT), (11, iV 9218868437227405312), (10, iV 9218868437227405311)] _ _ _)
  refine wp_cond_true (S9.bool 0 25 rfl) ?_
  refine wp_stmt [.val (iV 9218868437227405312), .val (iV (-9218868437227405312)), .val (iV 9218868437227405311), .val (iV (-9218868437227405311)), .val (iV (-9218868437227405312)), .val (iV (-9218868437227405311))] [.inr 0] [.inl 4, .inl 5] follows S9 rfl (by kernel_rfl) ?_ ?_
  · refine ⟨⟨⟨⟨⟨⟨trivial, ?_⟩, ?_⟩, ?_⟩, ?_⟩, ?_⟩, ?_⟩
    · exact mS 1 11
    · exact owe_un (x := .tmp 26) rfl wA rfl (oO 0 26) rfl (fun ρ w h1 => by exact j_neg ρ _ _ w _ _ ⟨by omega, by omega, by omega⟩ h1)
    · exact mS 2 10
    · exact owe_un (x := .tmp 28) rfl wA rfl (oO 2 28) rfl (fun ρ w h1 => by exact j_neg ρ _ _ w _ _ ⟨by omega, by omega, by omega⟩ h1)
    · exact mO 1 27
    · exact mO 3 29
  intro B10 a10 W10 (S10 : Sta w 35 [(8, (.box 34 (Is (.agg #[.float .f64 0, .float .f64 0]))))] [(10, iV (-9218868437227405312)), (11, iV (-9218868437227405311))] _ _ _)
  refine thenN ?_
  refine wp_stmt_seq [.val (iV (-9218868437227405312)), .val (FL (some (-9218868437227405312))), .val (iV (-9218868437227405311)), .val (FL (some (-9218868437227405311))), .val (SF [(FL (some (-9218868437227405312))), (FL (some (-9218868437227405311)))]), .put (.inl 8) (.box 34 (SF [(FL (some (-9218868437227405312))), (FL (some (-9218868437227405311)))]))] [.inr 0] [] follows S10 rfl (by kernel_rfl) ?_ ?_
  · refine ⟨⟨⟨⟨⟨⟨trivial, ?_⟩, ?_⟩, ?_⟩, ?_⟩, ?_⟩, ?_⟩
    · exact mS 0 10
    · exact cc1 wA (qO 0 30 rfl) (fresh_fl _) (purF1 (st_at (n := (-9218868437227405312)) (by omega) (by omega)))
    · exact mS 1 11
    · exact cc1 wA (qO 2 32 rfl) (fresh_fl _) (purF1 (st_at (n := (-9218868437227405311)) (by omega) (by omega)))
    · exact owe_build_iv rfl wA rfl (oO 1 31) (oO 3 33) flt_fl flt_fl rfl
    · exact owe_set rfl wA rfl (k := 0) rfl (by kernel_rfl) (oO 4 34) (stores_of strct_ival shp_i0 shp_iv) rfl
  intro B11 a11 W11 (S11 : Sta w 35 [(8, (.box 34 (SF [(FL (some (-9218868437227405312))), (FL (some (-9218868437227405311)))])))] [] _ _ _)
  refine wp_ret ?_
  exact end_one S11 rfl (res_cell S11 0 8 rfl strct_ival shp_iv)

/-- What comes of the top bits: the place, and whether it is the number. -/
def abR (P : Nat) : Nat := if P < 9218868437227405312 then P else 9218868437227405311
def abA (P : Nat) (a : Bool) : Bool := if P < 9218868437227405312 then a else false
theorem iv_p0 (r : Nat) : ivL false r false = (r : Int) ∧ ivH false r false = (r : Int) + 1 := ⟨rfl, rfl⟩
theorem iv_p1 (r : Nat) : ivL false r true = (r : Int) ∧ ivH false r true = (r : Int) := ⟨rfl, rfl⟩
theorem iv_n0 (r : Nat) : ivL true r false = -((r : Int) + 1) ∧ ivH true r false = -(r : Int) := ⟨rfl, rfl⟩
theorem iv_n1 (r : Nat) : ivL true r true = -(r : Int) ∧ ivH true r true = -(r : Int) := ⟨rfl, rfl⟩
theorem abN {P : Nat} (hP : ¬ P < 9218868437227405312) (a : Bool) : ∃ R : Nat, abR P = R ∧ (R : Int) = 9218868437227405311 ∧ abA P a = false := ⟨9218868437227405311, by unfold abR; rw [if_neg hP], by omega, by unfold abA; rw [if_neg hP]⟩
theorem about_P (w : World) (neg : Bool) (m P r : Nat) (n : Int) (a : Bool) (hr : r < 18446744073709551616) (hp : plc r = some ((min P 9218868437227405312 : Nat) : Int)) (hC : ∀ w, Calls Tryz.prog 18 #[.float .f64 (floatOfInt .f64 ((m : Nat) : Int)), .int .i64 n] w (Gives (IS (.float .f64 r)) w)) : Calls Tryz.prog 23 #[.bool neg, .int .u64 ((m : Nat) : Int), .int .i64 n, .bool a] w (Gives (IVN (some (ivL neg (abR P) (abA P a))) (some (ivH neg (abR P) (abA P a)))) w) := by
  by_cases hP : P < 9218868437227405312
  · have e1 : abR P = P := by unfold abR; rw [if_pos hP]
    have e2 : abA P a = a := by unfold abA; rw [if_pos hP]
    rw [e1, e2]
    rw [Nat.min_eq_left (by omega)] at hp
    cases neg <;> cases a
    · rw [(iv_p0 P).1, (iv_p0 P).2]; exact ab_000 w m r P _ hr hp hC hP
    · rw [(iv_p1 P).1, (iv_p1 P).2]; exact ab_001 w m r P _ hr hp hC hP
    · rw [(iv_n0 P).1, (iv_n0 P).2]; exact ab_010 w m r P _ hr hp hC hP
    · rw [(iv_n1 P).1, (iv_n1 P).2]; exact ab_011 w m r P _ hr hp hC hP
  · obtain ⟨R, e1, e3, e2⟩ := abN hP a
    rw [e1, e2]
    rw [Nat.min_eq_right (by omega)] at hp
    generalize hQ : (9218868437227405312 : Nat) = Q at hp
    clear hP
    cases neg
    · rw [(iv_p0 R).1, (iv_p0 R).2, show (R : Int) + 1 = 9218868437227405312 by omega, e3]; exact ab_100 w m r Q _ hr hp hC hQ.symm a
    · rw [(iv_n0 R).1, (iv_n0 R).2, show (R : Int) + 1 = 9218868437227405312 by omega, e3]; exact ab_110 w m r Q _ hr hp hC hQ.symm a
theorem h_about {neg : Bool} {m P r : Nat} {a : Bool} {n : Int} (hr : r < 18446744073709551616) (hp : plc r = some ((min P 9218868437227405312 : Nat) : Int)) (hC : ∀ w, Calls Tryz.prog 18 #[.float .f64 (floatOfInt .f64 ((m : Nat) : Int)), .int .i64 n] w (Gives (IS (.float .f64 r)) w)) : ∀ w u v t s, Is (.bool neg) u w → Is (.int .u64 ((m : Nat) : Int)) v w → Is (.int .i64 n) t w → Is (.bool a) s w → Calls Tryz.prog 23 #[u, v, t, s] w (Gives (IVN (some (ivL neg (abR P) (abA P a))) (some (ivH neg (abR P) (abA P a)))) w) := fun w u v t s e1 e2 e3 e4 => by
  obtain rfl : u = _ := e1
  obtain rfl : v = _ := e2
  obtain rfl : t = _ := e3
  obtain rfl : s = _ := e4
  exact about_P w neg m P r n a hr hp hC
end Go.Proofs.YtgalppimdmjdcabGreatDoor

/-
  The document's greatest float not above a number.
-/
namespace Go.Proofs.YtgalppimdmjdcabGreatDoor
open Go Go.RowKit Nt
set_option linter.unusedSimpArgs false
set_option linter.unusedVariables false
set_option maxRecDepth 20000

theorem pw_len2 {k N : Nat} (h : k ≤ 32 * N + 31) : (digs (2 ^ k)).length ≤ N + 1 := digs_length_le (by
  rw [show (4294967296 : Nat) = 2 ^ 32 from rfl, ← Nat.pow_mul]
  exact Nat.pow_lt_pow_right (by decide) (by omega))
end Go.Proofs.YtgalppimdmjdcabGreatDoor
