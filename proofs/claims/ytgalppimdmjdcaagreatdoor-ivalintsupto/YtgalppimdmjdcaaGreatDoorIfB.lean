import Derived.Test.YtgalppimdmjdcaaGreatDoorIfA
/-
  The document's below.
-/
namespace Go.Proofs.YtgalppimdmjdcaaGreatDoor
open Go Go.RowKit Nt
set_option linter.unusedSimpArgs false
set_option linter.unusedVariables false
set_option maxRecDepth 20000

theorem u_mul (ρ : Operand → Value) (o : Oper) (x y : Operand) (w : World) (a c : Nat) (h : a * c < 18446744073709551616) (h1 : ρ x = .int .u64 (a : Int)) (h2 : ρ y = .int .u64 (c : Int)) : (execOp ρ { o with op := .binOp .mul 40 x y 40 }).run Tryz.prog w = .ok (.value (.int .u64 ((a * c : Nat) : Int))) w := by
  have h3 : IntKind.u64.wrap ((a : Int) * (c : Int)) = (a : Int) * (c : Int) := by rw [IntKind.wrap_u64, ← Int.natCast_mul]; omega
  clear h
  unfold execOp
  go_simp
theorem u_sub (ρ : Operand → Value) (o : Oper) (x y : Operand) (w : World) (a c r : Nat) (h : a = c + r) (ha : a < 18446744073709551616) (h1 : ρ x = .int .u64 (a : Int)) (h2 : ρ y = .int .u64 (c : Int)) : (execOp ρ { o with op := .binOp .sub 40 x y 40 }).run Tryz.prog w = .ok (.value (.int .u64 ((r : Nat) : Int))) w := by
  have h3 : IntKind.u64.wrap ((a : Int) - (c : Int)) = (r : Int) := by rw [IntKind.wrap_u64]; omega
  clear h ha
  unfold execOp
  go_simp
theorem u_lss_t (ρ : Operand → Value) (o : Oper) (x y : Operand) (w : World) (a c : Int) (h : a < c) (h1 : ρ x = .int .u64 a) (h2 : ρ y = .int .u64 c) : (execOp ρ { o with op := .binOp .lss 40 x y 40 }).run Tryz.prog w = .ok (.value (.bool true)) w := by
  have h' : (a < c) = True := by simp [h]
  clear h
  unfold execOp
  go_simp
theorem u_lss_f (ρ : Operand → Value) (o : Oper) (x y : Operand) (w : World) (a c : Int) (h : c ≤ a) (h1 : ρ x = .int .u64 a) (h2 : ρ y = .int .u64 c) : (execOp ρ { o with op := .binOp .lss 40 x y 40 }).run Tryz.prog w = .ok (.value (.bool false)) w := by
  have h' : (a < c) = False := by simp; omega
  clear h
  unfold execOp
  go_simp
theorem w_u64 (ρ : Operand → Value) (o : Oper) (x : Operand) (w : World) (a : Nat) (h : a < 4294967296) (h1 : ρ x = .int .u32 (a : Int)) : (execOp ρ { o with op := .convert 74 40 x }).run Tryz.prog w = .ok (.value (.int .u64 (a : Int))) w := by
  have h3 : IntKind.u64.wrap (a : Int) = (a : Int) := by rw [IntKind.wrap_u64]; omega
  clear h
  unfold execOp
  go_simp
theorem of_at {m : Nat} (hm : m ≤ 9218868437227405312) : ∀ w u, Is (.int .u64 ((m : Nat) : Int)) u w → Calls Tryz.prog 52 #[u] w (Gives (FLN (some ((m : Nat) : Int))) w) := fun w u e => by
  obtain rfl : u = _ := e
  refine (rof_p ((m : Nat) : Int) w).mono fun e w' ⟨he, hw⟩ => ?_
  subst hw
  refine ⟨_, he, Below.refl _ _, m, by rw [Int.toNat_natCast], by omega, ?_⟩
  unfold plc
  rw [if_pos (by omega), if_neg (by omega)]
  exact congrArg some (by omega)
theorem of_max : ∀ w u, Is (.int .u64 9218868437227405311) u w → Calls Tryz.prog 52 #[u] w (Gives (FLN (some 9218868437227405311)) w) := of_at (m := 9218868437227405311) (by decide)
theorem limb_get {q i d : Nat} (h : (digs q)[i]? = some d) : ((digs q).map (fun d => Is (.int .u32 ((d : Nat) : Int))))[i]? = some (Is (.int .u32 ((d : Nat) : Int))) := by rw [List.getElem?_map, h]; rfl
theorem topq_le (q j : Nat) : q / 4294967296 ^ (j + 1) * 4294967296 ≤ q := by
  have h1 : q / 4294967296 ^ (j + 1) = q / 4294967296 ^ j / 4294967296 := by rw [Nat.pow_succ, Nat.div_div_eq_div_mul]
  rw [h1]
  exact Nat.le_trans (Nat.div_mul_le_self _ _) (Nat.div_le_self _ _)
theorem top_is (q : Nat) : ∀ v w, Is (.int .u64 0) v w → Is (.int .u64 ((q / 4294967296 ^ (digs q).length : Nat) : Int)) v w := fun v w h => by rw [top_zero]; exact h
set_option maxHeartbeats 2000000 in
theorem below_S (w : World) (N M kn km : Nat) (u v : Value) (hu : Has (fun _ => False) w (Nv N kn) u) (hv : Has (fun _ => False) w (Nv M km) v) (bn : kn ≤ 2097152) (bm : km ≤ 2097152) (bN bM : Nat) (eN : Go.bitLen N = bN) (eM : Go.bitLen M = bM) (hbN : bN ≤ 67108864) (hbM : bM ≤ 67108864) (e0 : Int) (h0 : ((bN : Nat) : Int) - ((bM : Nat) : Int) - 53 = e0) (he : e0 < -1074) (q1 : Nat) (a1' : Bool) (d1 : (digs q1).length ≤ 2) (c1 : ∀ w u v x, Nv N kn u w → Nv M km v w → Is (.int .i64 (-1074)) x w → Calls Tryz.prog 51 #[u, v, x] w (Gives (TWO (NN q1) (IS (.bool a1'))) w)) (g1 : q1 < 4503599627370496) (g2 : Go.bitLen q1 < 53) :
    Calls Tryz.prog 24 #[u, v] w (Gives (TWO (FLN (some ((q1 : Nat) : Int))) (IS (.bool a1'))) w) := by
  refine calls_sta (sl := [(0, (Nv N kn)), (1, (Nv M km))]) Tryz.func24 rfl Tryz.ntmps24 (by simp) (args_cons rfl (hu) (args_cons rfl (hv) args_nil)) ?_
  intro a0 S0
  refine wp_stmt_seq [.val (Is (.float FloatKind.f64 0)), kF] [] [.inr 0, .inr 1] follows S0 rfl (by kernel_rfl) ?_ ?_
  · refine ⟨⟨trivial, ?_⟩, ?_⟩
    · exact mC
    · exact mC
  intro B1 a1 W1 (S1 : Sta w 86 [] [(0, Nv N kn), (1, Nv M km)] _ _ _)
  refine wp_stmt_seq [.val (Nv N kn), .val (iV ((bN : Nat) : Int)), .val (Nv M km), .val (iV ((bM : Nat) : Int)), .val (Is (.int .i64 (((bN : Nat) : Int) - ((bM : Nat) : Int)))), .val (iV e0), .val (iV e0)] [] [.inl 6, .inr 0, .inr 1] follows S1 rfl (by kernel_rfl) ?_ ?_
  · repeat' refine And.intro ?_ ?_
    · trivial
    · exact mS 0 0
    · exact cc1 wA (qO 0 11 rfl) (fresh_is _) (fun w u0 h0 => Gives.cast ((fun w u h1 => g_rbits1 (by omega) w u ((fun _ _ h => h) _ _ h1)) w u0 h0) (by rw [eN]))
    · exact mS 1 1
    · exact cc1 wA (qO 2 13 rfl) (fresh_is _) (fun w u0 h0 => Gives.cast ((fun w u h1 => g_rbits1 (by omega) w u ((fun _ _ h => h) _ _ h1)) w u0 h0) (by rw [eM]))
    · exact b_sub_int wA (oO 1 12) (oO 3 14) (h := ⟨rfl, by omega, by omega⟩)
    · exact b_sub_int wA (oO 4 15) (opnd_const _) (h := ⟨h0, by omega, by omega⟩)
    · exact mO 5 16
  intro B2 a2 W2 (S2 : Sta w 86 [] [(6, iV e0), (0, Nv N kn), (1, Nv M km)] _ _ _)
  refine wp_seq ?_
  refine wp_stmt_seq [.val (iV e0), kT] [] [.inl 1, .inr 0, .inr 1, .inr 2] follows S2 rfl (by kernel_rfl) ?_ ?_
  · refine ⟨⟨trivial, ?_⟩, ?_⟩
    · exact mS 0 6
    · exact b_lss_int_t wA (oO 0 17) (opnd_const _) (h := he)
  intro B3 a3 W3 (S3 : Sta w 86 [] [(18, bT), (6, iV e0), (0, Nv N kn), (1, Nv M km)] _ _ _)
  refine wp_cond_true (S3.bool 0 18 rfl) ?_
  refine wp_stmt [.val (iV (-1074))] [] [.inl 0, .inr 2, .inr 3] follows S3 rfl (by kernel_rfl) ?_ ?_
  · refine ⟨trivial, ?_⟩
    · exact mC
  intro B4 a4 W4 (S4 : Sta w 86 [] [(6, iV (-1074)), (0, Nv N kn), (1, Nv M km)] _ _ _)
  refine thenN ?_
  refine wp_stmt_seq [.val (Nv N kn), .val (Nv M km), .val (iV (-1074)), .val ((TWO (NN (q1)) (IS (.bool a1'))) w.heap.size), .val ((TWO (NN (q1)) (IS (.bool a1'))) w.heap.size), .val ((NN (q1)) w.heap.size), .val (Is (.bool a1')), .val ((NN (q1)) w.heap.size), .val (Is (.bool a1'))] [] [.inl 7, .inl 8, .inr 0, .inr 1, .inr 2] follows S4 rfl (by kernel_rfl) ?_ ?_
  · repeat' refine And.intro ?_ ?_
    · trivial
    · exact mS 1 0
    · exact mS 2 1
    · exact mS 0 6
    · exact owe_call3 rfl wA rfl (oO 0 20) (oO 1 21) (oO 2 22) (fresh_two (fresh_nn _) (fresh_is _)) rfl (fun args w => by go_simp) c1
    · exact mO 3 23
    · exact e20 wA (oO 4 19)
    · exact e21 wA (oO 4 19)
    · exact mO 5 24
    · exact mO 6 25
  intro B5 a5 W5 (S5 : Sta w 86 [] [(7, ((NN (q1)) w.heap.size)), (8, Is (.bool a1')), (6, iV (-1074)), (0, Nv N kn), (1, Nv M km)] _ _ _)
  refine wp_seq ?_
  refine wp_stmt_seq [.val ((NN (q1)) w.heap.size), .val (iV ((Go.bitLen q1 : Nat) : Int)), kF] [] [.inl 2, .inr 0, .inr 1, .inr 2, .inr 3, .inr 4] follows S5 rfl (by kernel_rfl) ?_ ?_
  · refine ⟨⟨⟨trivial, ?_⟩, ?_⟩, ?_⟩
    · exact mS 0 7
    · exact cc1 wA (qO 0 26 rfl) (fresh_is _) (fun w u h1 => g_rbits1 (by omega) w u ((nn_nv d1) _ _ h1))
    · exact b_gtr_int_f wA (oO 1 27) (opnd_const _)
  intro B6 a6 W6 (S6 : Sta w 86 [] [(28, bF), (7, ((NN (q1)) w.heap.size)), (8, Is (.bool a1')), (6, iV (-1074)), (0, Nv N kn), (1, Nv M km)] _ _ _)
  refine wp_cond_false (S6.bool 0 28 rfl) ?_
  refine wp_skip ?_
  refine thenN ?_
  refine wp_seq ?_
  refine wp_stmt_seq [.val ((NN (q1)) w.heap.size), .val (iV ((Go.bitLen q1 : Nat) : Int)), kT, kT, .val (iV (-1074)), kF, kF] [] [.inl 6, .inr 1, .inr 2, .inr 3, .inr 4, .inr 5] follows S6 rfl (by kernel_rfl) ?_ ?_
  · repeat' refine And.intro ?_ ?_
    · trivial
    · exact mS 1 7
    · exact cc1 wA (qO 0 38 rfl) (fresh_is _) (fun w u h1 => g_rbits1 (by omega) w u ((nn_nv d1) _ _ h1))
    · exact b_lss_int_t wA (oO 1 39) (opnd_const _)
    · exact mO 2 40
    · exact mW (wI 3 41) (oS 3 6)
    · exact b_gtr_int_f (wI 3 41) (oO 4 42) (opnd_const _) (h := by decide)
    · exact pT wA (oO 3 41) (oO 5 43)
  intro B7 a7 W7 (S7 : Sta w 86 [] [(44, bF), (7, ((NN (q1)) w.heap.size)), (8, Is (.bool a1')), (6, iV (-1074)), (0, Nv N kn), (1, Nv M km)] _ _ _)
  refine wp_cond_false (S7.bool 0 44 rfl) ?_
  refine wp_skip ?_
  refine thenN ?_
  refine wp_seq ?_
  refine wp_stmt_seq [.val (iV (-1074)), kF] [] [.inl 1, .inr 1, .inr 2, .inr 3] follows S7 rfl (by kernel_rfl) ?_ ?_
  · refine ⟨⟨trivial, ?_⟩, ?_⟩
    · exact mS 3 6
    · exact b_gtr_int_f wA (oO 0 54) (opnd_const _) (h := by decide)
  intro B8 a8 W8 (S8 : Sta w 86 [] [(55, bF), (7, ((NN (q1)) w.heap.size)), (8, Is (.bool a1')), (6, iV (-1074))] _ _ _)
  refine wp_cond_false (S8.bool 0 55 rfl) ?_
  refine wp_skip ?_
  refine thenN ?_
  refine wp_stmt_seq [.val (Is (.int .u64 0))] [] [.inl 0, .inr 1, .inr 2, .inr 3] follows S8 rfl (by kernel_rfl) ?_ ?_
  · refine ⟨trivial, ?_⟩
    · exact mC
  intro B9 a9 W9 (S9 : Sta w 86 [] [(9, Is (.int .u64 0)), (7, ((NN (q1)) w.heap.size)), (8, Is (.bool a1')), (6, iV (-1074))] _ _ _)
  refine wp_seq ?_
  refine wp_stmt_seq [.val ((NN (q1)) w.heap.size), .val (Is (.int .i64 ((digs (q1)).length : Nat))), .val (Is (.int .i64 ((((digs q1).length : Nat) : Int) - 1))), .val (Is (.int .i64 ((((digs q1).length : Nat) : Int) - 1)))] [] [.inl 3, .inr 0, .inr 1, .inr 2, .inr 3] follows S9 rfl (by kernel_rfl) ?_ ?_
  · refine ⟨⟨⟨⟨trivial, ?_⟩, ?_⟩, ?_⟩, ?_⟩
    · exact mS 1 7
    · exact owe_len rfl wA rfl (oO 0 57) nn_len Tryz.underlying22 rfl
    · exact b_sub_int wA (oO 1 58) (opnd_const _) (h := ⟨rfl, by omega, by omega⟩)
    · exact mO 2 59
  intro B10 a10 W10 (S10 : Sta w 86 [] [(10, (Is (.int .i64 ((((digs q1).length : Nat) : Int) - 1)))), (9, Is (.int .u64 0)), (7, ((NN (q1)) w.heap.size)), (8, Is (.bool a1')), (6, iV (-1074))] _ _ _)
  refine wp_block ?_
  replace S10 : Sta w 86 [] [(10, (Is (.int .i64 ((((digs q1).length : Nat) : Int) - 1)))), (9, Is (.int .u64 ((q1 / 4294967296 ^ (digs q1).length : Nat) : Int))), (7, ((NN (q1)) w.heap.size)), (8, Is (.bool a1')), (6, iV (-1074))] B10 a10 W10 := S10.change 1 rfl (top_is q1)
  refine wp_loop_ghost (fun (j : Nat) a W => (j ≤ (digs q1).length) ∧ ∃ Bq, Sta w 86 [] [(10, Is (.int .i64 (((j : Nat) : Int) - 1))), (9, Is (.int .u64 ((q1 / 4294967296 ^ j : Nat) : Int))), (7, ((NN (q1)) w.heap.size)), (8, Is (.bool a1')), (6, iV (-1074))] Bq a W) (fun (j : Nat) => j) ?_ (digs q1).length ⟨Nat.le_refl _, B10, S10.sub [] [0, 1, 2, 3, 4]⟩
  rintro j a11 W11 ⟨hcond, B11, S11⟩
  by_cases hj : 0 < j
  · obtain ⟨i0, rfl⟩ : ∃ i0, j = i0 + 1 := ⟨j - 1, by omega⟩
    rw [show (((i0 + 1 : Nat) : Int)) - 1 = ((i0 : Nat) : Int) by omega] at S11
    obtain ⟨d0, hd, hd1, hd2⟩ := top_step q1 i0 (by omega)
    have htl := topq_le q1 i0
    refine wp_seq ?_
    refine wp_stmt_seq [.val (iV ((i0 : Nat) : Int)), kT] [] [.inl 1, .inr 0, .inr 1, .inr 2, .inr 3, .inr 4] follows S11 rfl (by kernel_rfl) ?_ ?_
    · refine ⟨⟨trivial, ?_⟩, ?_⟩
      · exact mS 0 10
      · exact b_geq_int_t wA (oO 0 60) (opnd_const _)
    intro B12 a12 W12 (S12 : Sta w 86 [] [(61, bT), (10, iV ((i0 : Nat) : Int)), (9, Is (.int .u64 ((q1 / 4294967296 ^ (i0 + 1) : Nat) : Int))), (7, ((NN (q1)) w.heap.size)), (8, Is (.bool a1')), (6, iV (-1074))] _ _ _)
    refine wp_cond_true (S12.bool 0 61 rfl) ?_
    refine wp_skip ?_
    refine thenN ?_
    refine wp_seq ?_
    refine wp_block ?_
    refine wp_stmt [.val (Is (.int .u64 ((q1 / 4294967296 ^ (i0 + 1) : Nat) : Int))), .val (Is (.int .u64 ((q1 / 4294967296 ^ (i0 + 1) * 4294967296 : Nat) : Int))), .val ((NN (q1)) w.heap.size), .val (iV ((i0 : Nat) : Int)), .val (AtE 1 (Is (.int .u32 ((d0 : Nat) : Int)))), .val (Is (.int .u32 ((d0 : Nat) : Int))), .val (Is (.int .u64 ((d0 : Nat) : Int))), .val (Is (.int .u64 ((q1 / 4294967296 ^ i0 : Nat) : Int))), .val (Is (.int .u64 ((q1 / 4294967296 ^ i0 : Nat) : Int)))] [] [.inl 8, .inr 1, .inr 3, .inr 4, .inr 5] follows S12 rfl (by kernel_rfl) ?_ ?_
    · repeat' refine And.intro ?_ ?_
      · trivial
      · exact mS 2 9
      · exact owe_bin rfl wA rfl (oO 0 64) (opnd_const _) rfl (fun ρ w h1 h2 => by exact u_mul ρ _ _ _ w _ 4294967296 (by omega) h1 h2)
      · exact mS 3 7
      · exact mS 1 10
      · exact owe_aindex rfl wA rfl idx_us ((oO 2 66).imp nn_ar) (oO 3 67) (limb_get hd) rfl
      · exact owe_aload rfl wA rfl ldr_u1 (by decide) (cel_is rfl) (oO 4 68) rfl
      · exact owe_un (x := .tmp 69) rfl wA rfl (oO 5 69) rfl (fun ρ w h1 => by exact w_u64 ρ _ _ w d0 hd1 h1)
      · exact owe_bin rfl wA rfl (oO 1 65) (oO 6 70) rfl (fun ρ w h1 h2 => by rw [← hd2]; exact u_add ρ _ _ _ w _ d0 (by omega) h1 h2)
      · exact mO 7 71
    intro B13 a13 W13 (S13 : Sta w 86 [] [(9, Is (.int .u64 ((q1 / 4294967296 ^ i0 : Nat) : Int))), (10, iV ((i0 : Nat) : Int)), (7, ((NN (q1)) w.heap.size)), (8, Is (.bool a1')), (6, iV (-1074))] _ _ _)
    refine inBlkN ?_
    refine thenN ?_
    refine wp_stmt [.val (iV ((i0 : Nat) : Int)), .val (Is (.int .i64 (((i0 : Nat) : Int) - 1))), .val (Is (.int .i64 (((i0 : Nat) : Int) - 1)))] [] [.inl 2, .inr 0, .inr 2, .inr 3, .inr 4] follows S13 rfl (by kernel_rfl) ?_ ?_
    · refine ⟨⟨⟨trivial, ?_⟩, ?_⟩, ?_⟩
      · exact mS 1 10
      · exact b_sub_int wA (oO 0 62) (opnd_const _) (h := ⟨rfl, by omega, by omega⟩)
      · exact mO 1 63
    intro B14 a14 W14 (S14 : Sta w 86 [] [(10, Is (.int .i64 (((i0 : Nat) : Int) - 1))), (9, Is (.int .u64 ((q1 / 4294967296 ^ i0 : Nat) : Int))), (7, ((NN (q1)) w.heap.size)), (8, Is (.bool a1')), (6, iV (-1074))] _ _ _)
    refine thenN ?_
    exact ⟨i0, ⟨by omega, B14, S14.sub [] [0, 1, 2, 3, 4]⟩, by omega⟩
  · have ej : j = 0 := by omega
    subst ej
    rw [Nat.pow_zero, Nat.div_one] at S11
    refine wp_seq ?_
    refine wp_stmt_seq [.val (Is (.int .i64 (((0 : Nat) : Int) - 1))), kF] [] [.inl 1, .inr 0, .inr 1, .inr 2, .inr 3, .inr 4] follows S11 rfl (by kernel_rfl) ?_ ?_
    · refine ⟨⟨trivial, ?_⟩, ?_⟩
      · exact mS 0 10
      · exact b_geq_int_f wA (oO 0 60) (opnd_const _)
    intro B12 a12 W12 (S12 : Sta w 86 [] [(61, bF), (10, Is (.int .i64 (((0 : Nat) : Int) - 1))), (9, Is (.int .u64 ((q1 : Nat) : Int))), (7, ((NN (q1)) w.heap.size)), (8, Is (.bool a1')), (6, iV (-1074))] _ _ _)
    refine wp_cond_false (S12.bool 0 61 rfl) ?_
    refine wp_exit ?_
    refine thenX ?_
    refine thenX ?_
    refine inBlkE ?_
    refine thenN ?_
    refine wp_seq ?_
    refine wp_stmt_seq [.val (Is (.int .u64 ((q1 : Nat) : Int))), kT] [] [.inl 1, .inr 1, .inr 2, .inr 3, .inr 4, .inr 5] follows S12 rfl (by kernel_rfl) ?_ ?_
    · refine ⟨⟨trivial, ?_⟩, ?_⟩
      · exact mS 2 9
      · exact owe_bin rfl wA rfl (oO 0 72) (opnd_const _) rfl (fun ρ w h1 h2 => by exact u_lss_t ρ _ _ _ w _ _ (by omega) h1 h2)
    intro B13 a13 W13 (S13 : Sta w 86 [] [(73, bT), (10, Is (.int .i64 (((0 : Nat) : Int) - 1))), (9, Is (.int .u64 ((q1 : Nat) : Int))), (7, ((NN (q1)) w.heap.size)), (8, Is (.bool a1')), (6, iV (-1074))] _ _ _)
    refine wp_cond_true (S13.bool 0 73 rfl) ?_
    refine wp_stmt_seq [.val (Is (.int .u64 ((q1 : Nat) : Int))), .val (FL (some ((q1 : Nat) : Int))), .val (Is (.bool a1')), .val (FL (some ((q1 : Nat) : Int))), .val (Is (.bool a1'))] [] [.inl 3, .inl 4, .inr 1, .inr 2, .inr 3, .inr 4, .inr 5] follows S13 rfl (by kernel_rfl) ?_ ?_
    · refine ⟨⟨⟨⟨⟨trivial, ?_⟩, ?_⟩, ?_⟩, ?_⟩, ?_⟩
      · exact mS 2 9
      · exact cc1 wA (qO 0 74 rfl) (fresh_fl _) (of_at (m := q1) (by omega))
      · exact mS 4 8
      · exact mO 1 75
      · exact mO 2 76
    intro B14 a14 W14 (S14 : Sta w 86 [] [(4, (FL (some ((q1 : Nat) : Int)))), (5, Is (.bool a1')), (10, Is (.int .i64 (((0 : Nat) : Int) - 1))), (9, Is (.int .u64 ((q1 : Nat) : Int))), (7, ((NN (q1)) w.heap.size)), (8, Is (.bool a1')), (6, iV (-1074))] _ _ _)
    refine wp_ret ?_
    refine thenR ?_
    exact end_two S14 rfl (res_tmp S14 0 4 rfl) (res_tmp S14 1 5 rfl)
set_option maxHeartbeats 2000000 in
theorem below_T (w : World) (N M kn km : Nat) (u v : Value) (hu : Has (fun _ => False) w (Nv N kn) u) (hv : Has (fun _ => False) w (Nv M km) v) (bn : kn ≤ 2097152) (bm : km ≤ 2097152) (bN bM : Nat) (eN : Go.bitLen N = bN) (eM : Go.bitLen M = bM) (hbN : bN ≤ 67108864) (hbM : bM ≤ 67108864) (e0 : Int) (h0 : ((bN : Nat) : Int) - ((bM : Nat) : Int) - 53 = e0) (L : Nat) (hL : L = 0) (he : e0 < -1074) (q1 : Nat) (a1' : Bool) (d1 : (digs q1).length ≤ 2) (c1 : ∀ w u v x, Nv N kn u w → Nv M km v w → Is (.int .i64 (-1074)) x w → Calls Tryz.prog 51 #[u, v, x] w (Gives (TWO (NN q1) (IS (.bool a1'))) w)) (g1 : 4503599627370496 ≤ q1) (g2 : Go.bitLen q1 = 53) (g3 : q1 < 9007199254740992) :
    Calls Tryz.prog 24 #[u, v] w (Gives (TWO (FLN (some ((L * 4503599627370496 + q1 : Nat) : Int))) (IS (.bool a1'))) w) := by
  refine calls_sta (sl := [(0, (Nv N kn)), (1, (Nv M km))]) Tryz.func24 rfl Tryz.ntmps24 (by simp) (args_cons rfl (hu) (args_cons rfl (hv) args_nil)) ?_
  intro a0 S0
  refine wp_stmt_seq [.val (Is (.float FloatKind.f64 0)), kF] [] [.inr 0, .inr 1] follows S0 rfl (by kernel_rfl) ?_ ?_
  · refine ⟨⟨trivial, ?_⟩, ?_⟩
    · exact mC
    · exact mC
  intro B1 a1 W1 (S1 : Sta w 86 [] [(0, Nv N kn), (1, Nv M km)] _ _ _)
  refine wp_stmt_seq [.val (Nv N kn), .val (iV ((bN : Nat) : Int)), .val (Nv M km), .val (iV ((bM : Nat) : Int)), .val (Is (.int .i64 (((bN : Nat) : Int) - ((bM : Nat) : Int)))), .val (iV e0), .val (iV e0)] [] [.inl 6, .inr 0, .inr 1] follows S1 rfl (by kernel_rfl) ?_ ?_
  · repeat' refine And.intro ?_ ?_
    · trivial
    · exact mS 0 0
    · exact cc1 wA (qO 0 11 rfl) (fresh_is _) (fun w u0 h0 => Gives.cast ((fun w u h1 => g_rbits1 (by omega) w u ((fun _ _ h => h) _ _ h1)) w u0 h0) (by rw [eN]))
    · exact mS 1 1
    · exact cc1 wA (qO 2 13 rfl) (fresh_is _) (fun w u0 h0 => Gives.cast ((fun w u h1 => g_rbits1 (by omega) w u ((fun _ _ h => h) _ _ h1)) w u0 h0) (by rw [eM]))
    · exact b_sub_int wA (oO 1 12) (oO 3 14) (h := ⟨rfl, by omega, by omega⟩)
    · exact b_sub_int wA (oO 4 15) (opnd_const _) (h := ⟨h0, by omega, by omega⟩)
    · exact mO 5 16
  intro B2 a2 W2 (S2 : Sta w 86 [] [(6, iV e0), (0, Nv N kn), (1, Nv M km)] _ _ _)
  refine wp_seq ?_
  refine wp_stmt_seq [.val (iV e0), kT] [] [.inl 1, .inr 0, .inr 1, .inr 2] follows S2 rfl (by kernel_rfl) ?_ ?_
  · refine ⟨⟨trivial, ?_⟩, ?_⟩
    · exact mS 0 6
    · exact b_lss_int_t wA (oO 0 17) (opnd_const _) (h := he)
  intro B3 a3 W3 (S3 : Sta w 86 [] [(18, bT), (6, iV e0), (0, Nv N kn), (1, Nv M km)] _ _ _)
  refine wp_cond_true (S3.bool 0 18 rfl) ?_
  refine wp_stmt [.val (iV (-1074))] [] [.inl 0, .inr 2, .inr 3] follows S3 rfl (by kernel_rfl) ?_ ?_
  · refine ⟨trivial, ?_⟩
    · exact mC
  intro B4 a4 W4 (S4 : Sta w 86 [] [(6, iV (-1074)), (0, Nv N kn), (1, Nv M km)] _ _ _)
  refine thenN ?_
  refine wp_stmt_seq [.val (Nv N kn), .val (Nv M km), .val (iV (-1074)), .val ((TWO (NN (q1)) (IS (.bool a1'))) w.heap.size), .val ((TWO (NN (q1)) (IS (.bool a1'))) w.heap.size), .val ((NN (q1)) w.heap.size), .val (Is (.bool a1')), .val ((NN (q1)) w.heap.size), .val (Is (.bool a1'))] [] [.inl 7, .inl 8, .inr 0, .inr 1, .inr 2] follows S4 rfl (by kernel_rfl) ?_ ?_
  · repeat' refine And.intro ?_ ?_
    · trivial
    · exact mS 1 0
    · exact mS 2 1
    · exact mS 0 6
    · exact owe_call3 rfl wA rfl (oO 0 20) (oO 1 21) (oO 2 22) (fresh_two (fresh_nn _) (fresh_is _)) rfl (fun args w => by go_simp) c1
    · exact mO 3 23
    · exact e20 wA (oO 4 19)
    · exact e21 wA (oO 4 19)
    · exact mO 5 24
    · exact mO 6 25
  intro B5 a5 W5 (S5 : Sta w 86 [] [(7, ((NN (q1)) w.heap.size)), (8, Is (.bool a1')), (6, iV (-1074)), (0, Nv N kn), (1, Nv M km)] _ _ _)
  refine wp_seq ?_
  refine wp_stmt_seq [.val ((NN (q1)) w.heap.size), .val (iV ((Go.bitLen q1 : Nat) : Int)), kF] [] [.inl 2, .inr 0, .inr 1, .inr 2, .inr 3, .inr 4] follows S5 rfl (by kernel_rfl) ?_ ?_
  · refine ⟨⟨⟨trivial, ?_⟩, ?_⟩, ?_⟩
    · exact mS 0 7
    · exact cc1 wA (qO 0 26 rfl) (fresh_is _) (fun w u h1 => g_rbits1 (by omega) w u ((nn_nv d1) _ _ h1))
    · exact b_gtr_int_f wA (oO 1 27) (opnd_const _)
  intro B6 a6 W6 (S6 : Sta w 86 [] [(28, bF), (7, ((NN (q1)) w.heap.size)), (8, Is (.bool a1')), (6, iV (-1074)), (0, Nv N kn), (1, Nv M km)] _ _ _)
  refine wp_cond_false (S6.bool 0 28 rfl) ?_
  refine wp_skip ?_
  refine thenN ?_
  refine wp_seq ?_
  refine wp_stmt_seq [.val ((NN (q1)) w.heap.size), .val (iV ((Go.bitLen q1 : Nat) : Int)), kF, kF, .off, .off, kF] [] [.inl 6, .inr 1, .inr 2, .inr 3, .inr 4, .inr 5] follows S6 rfl (by kernel_rfl) ?_ ?_
  · repeat' refine And.intro ?_ ?_
    · trivial
    · exact mS 1 7
    · exact cc1 wA (qO 0 38 rfl) (fresh_is _) (fun w u h1 => g_rbits1 (by omega) w u ((nn_nv d1) _ _ h1))
    · exact b_lss_int_f wA (oO 1 39) (opnd_const _)
    · exact mO 2 40
    · exact oF 3 41
    · exact oF 3 41
    · exact pF wA (oO 3 41) (opnd_const _)
  intro B7 a7 W7 (S7 : Sta w 86 [] [(44, bF), (7, ((NN (q1)) w.heap.size)), (8, Is (.bool a1')), (6, iV (-1074)), (0, Nv N kn), (1, Nv M km)] _ _ _)
  refine wp_cond_false (S7.bool 0 44 rfl) ?_
  refine wp_skip ?_
  refine thenN ?_
  refine wp_seq ?_
  refine wp_stmt_seq [.val (iV (-1074)), kF] [] [.inl 1, .inr 1, .inr 2, .inr 3] follows S7 rfl (by kernel_rfl) ?_ ?_
  · refine ⟨⟨trivial, ?_⟩, ?_⟩
    · exact mS 3 6
    · exact b_gtr_int_f wA (oO 0 54) (opnd_const _) (h := by decide)
  intro B8 a8 W8 (S8 : Sta w 86 [] [(55, bF), (7, ((NN (q1)) w.heap.size)), (8, Is (.bool a1')), (6, iV (-1074))] _ _ _)
  refine wp_cond_false (S8.bool 0 55 rfl) ?_
  refine wp_skip ?_
  refine thenN ?_
  refine wp_stmt_seq [.val (Is (.int .u64 0))] [] [.inl 0, .inr 1, .inr 2, .inr 3] follows S8 rfl (by kernel_rfl) ?_ ?_
  · refine ⟨trivial, ?_⟩
    · exact mC
  intro B9 a9 W9 (S9 : Sta w 86 [] [(9, Is (.int .u64 0)), (7, ((NN (q1)) w.heap.size)), (8, Is (.bool a1')), (6, iV (-1074))] _ _ _)
  refine wp_seq ?_
  refine wp_stmt_seq [.val ((NN (q1)) w.heap.size), .val (Is (.int .i64 ((digs (q1)).length : Nat))), .val (Is (.int .i64 ((((digs q1).length : Nat) : Int) - 1))), .val (Is (.int .i64 ((((digs q1).length : Nat) : Int) - 1)))] [] [.inl 3, .inr 0, .inr 1, .inr 2, .inr 3] follows S9 rfl (by kernel_rfl) ?_ ?_
  · refine ⟨⟨⟨⟨trivial, ?_⟩, ?_⟩, ?_⟩, ?_⟩
    · exact mS 1 7
    · exact owe_len rfl wA rfl (oO 0 57) nn_len Tryz.underlying22 rfl
    · exact b_sub_int wA (oO 1 58) (opnd_const _) (h := ⟨rfl, by omega, by omega⟩)
    · exact mO 2 59
  intro B10 a10 W10 (S10 : Sta w 86 [] [(10, (Is (.int .i64 ((((digs q1).length : Nat) : Int) - 1)))), (9, Is (.int .u64 0)), (7, ((NN (q1)) w.heap.size)), (8, Is (.bool a1')), (6, iV (-1074))] _ _ _)
  refine wp_block ?_
  replace S10 : Sta w 86 [] [(10, (Is (.int .i64 ((((digs q1).length : Nat) : Int) - 1)))), (9, Is (.int .u64 ((q1 / 4294967296 ^ (digs q1).length : Nat) : Int))), (7, ((NN (q1)) w.heap.size)), (8, Is (.bool a1')), (6, iV (-1074))] B10 a10 W10 := S10.change 1 rfl (top_is q1)
  refine wp_loop_ghost (fun (j : Nat) a W => (j ≤ (digs q1).length) ∧ ∃ Bq, Sta w 86 [] [(10, Is (.int .i64 (((j : Nat) : Int) - 1))), (9, Is (.int .u64 ((q1 / 4294967296 ^ j : Nat) : Int))), (7, ((NN (q1)) w.heap.size)), (8, Is (.bool a1')), (6, iV (-1074))] Bq a W) (fun (j : Nat) => j) ?_ (digs q1).length ⟨Nat.le_refl _, B10, S10.sub [] [0, 1, 2, 3, 4]⟩
  rintro j a11 W11 ⟨hcond, B11, S11⟩
  by_cases hj : 0 < j
  · obtain ⟨i0, rfl⟩ : ∃ i0, j = i0 + 1 := ⟨j - 1, by omega⟩
    rw [show (((i0 + 1 : Nat) : Int)) - 1 = ((i0 : Nat) : Int) by omega] at S11
    obtain ⟨d0, hd, hd1, hd2⟩ := top_step q1 i0 (by omega)
    have htl := topq_le q1 i0
    refine wp_seq ?_
    refine wp_stmt_seq [.val (iV ((i0 : Nat) : Int)), kT] [] [.inl 1, .inr 0, .inr 1, .inr 2, .inr 3, .inr 4] follows S11 rfl (by kernel_rfl) ?_ ?_
    · refine ⟨⟨trivial, ?_⟩, ?_⟩
      · exact mS 0 10
      · exact b_geq_int_t wA (oO 0 60) (opnd_const _)
    intro B12 a12 W12 (S12 : Sta w 86 [] [(61, bT), (10, iV ((i0 : Nat) : Int)), (9, Is (.int .u64 ((q1 / 4294967296 ^ (i0 + 1) : Nat) : Int))), (7, ((NN (q1)) w.heap.size)), (8, Is (.bool a1')), (6, iV (-1074))] _ _ _)
    refine wp_cond_true (S12.bool 0 61 rfl) ?_
    refine wp_skip ?_
    refine thenN ?_
    refine wp_seq ?_
    refine wp_block ?_
    refine wp_stmt [.val (Is (.int .u64 ((q1 / 4294967296 ^ (i0 + 1) : Nat) : Int))), .val (Is (.int .u64 ((q1 / 4294967296 ^ (i0 + 1) * 4294967296 : Nat) : Int))), .val ((NN (q1)) w.heap.size), .val (iV ((i0 : Nat) : Int)), .val (AtE 1 (Is (.int .u32 ((d0 : Nat) : Int)))), .val (Is (.int .u32 ((d0 : Nat) : Int))), .val (Is (.int .u64 ((d0 : Nat) : Int))), .val (Is (.int .u64 ((q1 / 4294967296 ^ i0 : Nat) : Int))), .val (Is (.int .u64 ((q1 / 4294967296 ^ i0 : Nat) : Int)))] [] [.inl 8, .inr 1, .inr 3, .inr 4, .inr 5] follows S12 rfl (by kernel_rfl) ?_ ?_
    · repeat' refine And.intro ?_ ?_
      · trivial
      · exact mS 2 9
      · exact owe_bin rfl wA rfl (oO 0 64) (opnd_const _) rfl (fun ρ w h1 h2 => by exact u_mul ρ _ _ _ w _ 4294967296 (by omega) h1 h2)
      · exact mS 3 7
      · exact mS 1 10
      · exact owe_aindex rfl wA rfl idx_us ((oO 2 66).imp nn_ar) (oO 3 67) (limb_get hd) rfl
      · exact owe_aload rfl wA rfl ldr_u1 (by decide) (cel_is rfl) (oO 4 68) rfl
      · exact owe_un (x := .tmp 69) rfl wA rfl (oO 5 69) rfl (fun ρ w h1 => by exact w_u64 ρ _ _ w d0 hd1 h1)
      · exact owe_bin rfl wA rfl (oO 1 65) (oO 6 70) rfl (fun ρ w h1 h2 => by rw [← hd2]; exact u_add ρ _ _ _ w _ d0 (by omega) h1 h2)
      · exact mO 7 71
    intro B13 a13 W13 (S13 : Sta w 86 [] [(9, Is (.int .u64 ((q1 / 4294967296 ^ i0 : Nat) : Int))), (10, iV ((i0 : Nat) : Int)), (7, ((NN (q1)) w.heap.size)), (8, Is (.bool a1')), (6, iV (-1074))] _ _ _)
    refine inBlkN ?_
    refine thenN ?_
    refine wp_stmt [.val (iV ((i0 : Nat) : Int)), .val (Is (.int .i64 (((i0 : Nat) : Int) - 1))), .val (Is (.int .i64 (((i0 : Nat) : Int) - 1)))] [] [.inl 2, .inr 0, .inr 2, .inr 3, .inr 4] follows S13 rfl (by kernel_rfl) ?_ ?_
    · refine ⟨⟨⟨trivial, ?_⟩, ?_⟩, ?_⟩
      · exact mS 1 10
      · exact b_sub_int wA (oO 0 62) (opnd_const _) (h := ⟨rfl, by omega, by omega⟩)
      · exact mO 1 63
    intro B14 a14 W14 (S14 : Sta w 86 [] [(10, Is (.int .i64 (((i0 : Nat) : Int) - 1))), (9, Is (.int .u64 ((q1 / 4294967296 ^ i0 : Nat) : Int))), (7, ((NN (q1)) w.heap.size)), (8, Is (.bool a1')), (6, iV (-1074))] _ _ _)
    refine thenN ?_
    exact ⟨i0, ⟨by omega, B14, S14.sub [] [0, 1, 2, 3, 4]⟩, by omega⟩
  · have ej : j = 0 := by omega
    subst ej
    rw [Nat.pow_zero, Nat.div_one] at S11
    refine wp_seq ?_
    refine wp_stmt_seq [.val (Is (.int .i64 (((0 : Nat) : Int) - 1))), kF] [] [.inl 1, .inr 0, .inr 1, .inr 2, .inr 3, .inr 4] follows S11 rfl (by kernel_rfl) ?_ ?_
    · refine ⟨⟨trivial, ?_⟩, ?_⟩
      · exact mS 0 10
      · exact b_geq_int_f wA (oO 0 60) (opnd_const _)
    intro B12 a12 W12 (S12 : Sta w 86 [] [(61, bF), (10, Is (.int .i64 (((0 : Nat) : Int) - 1))), (9, Is (.int .u64 ((q1 : Nat) : Int))), (7, ((NN (q1)) w.heap.size)), (8, Is (.bool a1')), (6, iV (-1074))] _ _ _)
    refine wp_cond_false (S12.bool 0 61 rfl) ?_
    refine wp_exit ?_
    refine thenX ?_
    refine thenX ?_
    refine inBlkE ?_
    refine thenN ?_
    refine wp_seq ?_
    refine wp_stmt_seq [.val (Is (.int .u64 ((q1 : Nat) : Int))), kF] [] [.inl 1, .inr 1, .inr 2, .inr 3, .inr 4, .inr 5] follows S12 rfl (by kernel_rfl) ?_ ?_
    · refine ⟨⟨trivial, ?_⟩, ?_⟩
      · exact mS 2 9
      · exact owe_bin rfl wA rfl (oO 0 72) (opnd_const _) rfl (fun ρ w h1 h2 => by exact u_lss_f ρ _ _ _ w _ _ (by omega) h1 h2)
    intro B13 a13 W13 (S13 : Sta w 86 [] [(73, bF), (10, Is (.int .i64 (((0 : Nat) : Int) - 1))), (9, Is (.int .u64 ((q1 : Nat) : Int))), (7, ((NN (q1)) w.heap.size)), (8, Is (.bool a1')), (6, iV (-1074))] _ _ _)
    refine wp_cond_false (S13.bool 0 73 rfl) ?_
    refine wp_skip ?_
    refine thenN ?_
    refine wp_stmt_seq [.val (iV (-1074)), .val (Is (.int .i64 (((L + 1) : Nat) : Int))), .val (Is (.int .u64 (((L + 1) : Nat) : Int))), .val (Is (.int .u64 (((L + 1) * 4503599627370496 : Nat) : Int))), .val (Is (.int .u64 ((q1 : Nat) : Int))), .val (Is (.int .u64 (((L + 1) * 4503599627370496 + q1 : Nat) : Int))), .val (Is (.int .u64 ((L * 4503599627370496 + q1 : Nat) : Int))), .val (FL (some ((L * 4503599627370496 + q1 : Nat) : Int))), .val (Is (.bool a1')), .val (FL (some ((L * 4503599627370496 + q1 : Nat) : Int))), .val (Is (.bool a1'))] [] [.inl 9, .inl 10, .inr 1, .inr 2, .inr 3, .inr 4, .inr 5] follows S13 rfl (by kernel_rfl) ?_ ?_
    · repeat' refine And.intro ?_ ?_
      · trivial
      · exact mS 5 6
      · exact b_add_int wA (oO 0 77) (opnd_const _)
      · exact owe_un (x := .tmp 78) rfl wA rfl (oO 1 78) rfl (fun ρ w h1 => by exact i_u64 ρ _ _ w (L + 1) (by omega) h1)
      · exact owe_bin rfl wA rfl (oO 2 79) (opnd_const _) rfl (fun ρ w h1 h2 => by exact u_mul ρ _ _ _ w (L + 1) 4503599627370496 (by omega) h1 h2)
      · exact mS 2 9
      · exact owe_bin rfl wA rfl (oO 3 80) (oO 4 81) rfl (fun ρ w h1 h2 => by exact u_add ρ _ _ _ w _ q1 (by omega) h1 h2)
      · exact owe_bin rfl wA rfl (oO 5 82) (opnd_const _) rfl (fun ρ w h1 h2 => by exact u_sub ρ _ _ _ w _ 4503599627370496 _ (by omega) (by omega) h1 h2)
      · exact cc1 wA (qO 6 83 rfl) (fresh_fl _) (of_at (m := L * 4503599627370496 + q1) (by omega))
      · exact mS 4 8
      · exact mO 7 84
      · exact mO 8 85
    intro B14 a14 W14 (S14 : Sta w 86 [] [(4, (FL (some ((L * 4503599627370496 + q1 : Nat) : Int)))), (5, Is (.bool a1')), (10, Is (.int .i64 (((0 : Nat) : Int) - 1))), (9, Is (.int .u64 ((q1 : Nat) : Int))), (7, ((NN (q1)) w.heap.size)), (8, Is (.bool a1')), (6, iV (-1074))] _ _ _)
    refine wp_ret ?_
    exact end_two S14 rfl (res_tmp S14 0 4 rfl) (res_tmp S14 1 5 rfl)
set_option maxHeartbeats 2000000 in
theorem below_Ng (w : World) (N M kn km : Nat) (u v : Value) (hu : Has (fun _ => False) w (Nv N kn) u) (hv : Has (fun _ => False) w (Nv M km) v) (bn : kn ≤ 2097152) (bm : km ≤ 2097152) (bN bM : Nat) (eN : Go.bitLen N = bN) (eM : Go.bitLen M = bM) (hbN : bN ≤ 67108864) (hbM : bM ≤ 67108864) (e0 : Int) (h0 : ((bN : Nat) : Int) - ((bM : Nat) : Int) - 53 = e0) (L : Nat) (hL : e0 = (L : Int) - 1074) (he : -1074 ≤ e0) (q1 : Nat) (a1' : Bool) (d1 : (digs q1).length ≤ 2) (c1 : ∀ w u v x, Nv N kn u w → Nv M km v w → Is (.int .i64 e0) x w → Calls Tryz.prog 51 #[u, v, x] w (Gives (TWO (NN q1) (IS (.bool a1'))) w)) (g1 : 4503599627370496 ≤ q1) (g2 : Go.bitLen q1 = 53) (g3 : q1 < 9007199254740992) (g9 : 971 < e0) :
    Calls Tryz.prog 24 #[u, v] w (Gives (TWO (FLN (some 9218868437227405311)) (IS (.bool false))) w) := by
  refine calls_sta (sl := [(0, (Nv N kn)), (1, (Nv M km))]) Tryz.func24 rfl Tryz.ntmps24 (by simp) (args_cons rfl (hu) (args_cons rfl (hv) args_nil)) ?_
  intro a0 S0
  refine wp_stmt_seq [.val (Is (.float FloatKind.f64 0)), kF] [] [.inr 0, .inr 1] follows S0 rfl (by kernel_rfl) ?_ ?_
  · refine ⟨⟨trivial, ?_⟩, ?_⟩
    · exact mC
    · exact mC
  intro B1 a1 W1 (S1 : Sta w 86 [] [(0, Nv N kn), (1, Nv M km)] _ _ _)
  refine wp_stmt_seq [.val (Nv N kn), .val (iV ((bN : Nat) : Int)), .val (Nv M km), .val (iV ((bM : Nat) : Int)), .val (Is (.int .i64 (((bN : Nat) : Int) - ((bM : Nat) : Int)))), .val (iV e0), .val (iV e0)] [] [.inl 6, .inr 0, .inr 1] follows S1 rfl (by kernel_rfl) ?_ ?_
  · repeat' refine And.intro ?_ ?_
    · trivial
    · exact mS 0 0
    · exact cc1 wA (qO 0 11 rfl) (fresh_is _) (fun w u0 h0 => Gives.cast ((fun w u h1 => g_rbits1 (by omega) w u ((fun _ _ h => h) _ _ h1)) w u0 h0) (by rw [eN]))
    · exact mS 1 1
    · exact cc1 wA (qO 2 13 rfl) (fresh_is _) (fun w u0 h0 => Gives.cast ((fun w u h1 => g_rbits1 (by omega) w u ((fun _ _ h => h) _ _ h1)) w u0 h0) (by rw [eM]))
    · exact b_sub_int wA (oO 1 12) (oO 3 14) (h := ⟨rfl, by omega, by omega⟩)
    · exact b_sub_int wA (oO 4 15) (opnd_const _) (h := ⟨h0, by omega, by omega⟩)
    · exact mO 5 16
  intro B2 a2 W2 (S2 : Sta w 86 [] [(6, iV e0), (0, Nv N kn), (1, Nv M km)] _ _ _)
  refine wp_seq ?_
  refine wp_stmt_seq [.val (iV e0), kF] [] [.inl 1, .inr 0, .inr 1, .inr 2] follows S2 rfl (by kernel_rfl) ?_ ?_
  · refine ⟨⟨trivial, ?_⟩, ?_⟩
    · exact mS 0 6
    · exact b_lss_int_f wA (oO 0 17) (opnd_const _)
  intro B3 a3 W3 (S3 : Sta w 86 [] [(18, bF), (6, iV e0), (0, Nv N kn), (1, Nv M km)] _ _ _)
  refine wp_cond_false (S3.bool 0 18 rfl) ?_
  refine wp_skip ?_
  refine thenN ?_
  refine wp_stmt_seq [.val (Nv N kn), .val (Nv M km), .val (iV e0), .val ((TWO (NN (q1)) (IS (.bool a1'))) w.heap.size), .val ((TWO (NN (q1)) (IS (.bool a1'))) w.heap.size), .val ((NN (q1)) w.heap.size), .val (Is (.bool a1')), .val ((NN (q1)) w.heap.size), .val (Is (.bool a1'))] [] [.inl 7, .inl 8, .inr 1, .inr 2, .inr 3] follows S3 rfl (by kernel_rfl) ?_ ?_
  · repeat' refine And.intro ?_ ?_
    · trivial
    · exact mS 2 0
    · exact mS 3 1
    · exact mS 1 6
    · exact owe_call3 rfl wA rfl (oO 0 20) (oO 1 21) (oO 2 22) (fresh_two (fresh_nn _) (fresh_is _)) rfl (fun args w => by go_simp) c1
    · exact mO 3 23
    · exact e20 wA (oO 4 19)
    · exact e21 wA (oO 4 19)
    · exact mO 5 24
    · exact mO 6 25
  intro B4 a4 W4 (S4 : Sta w 86 [] [(7, ((NN (q1)) w.heap.size)), (8, Is (.bool a1')), (6, iV e0), (0, Nv N kn), (1, Nv M km)] _ _ _)
  refine wp_seq ?_
  refine wp_stmt_seq [.val ((NN (q1)) w.heap.size), .val (iV ((Go.bitLen q1 : Nat) : Int)), kF] [] [.inl 2, .inr 0, .inr 1, .inr 2, .inr 3, .inr 4] follows S4 rfl (by kernel_rfl) ?_ ?_
  · refine ⟨⟨⟨trivial, ?_⟩, ?_⟩, ?_⟩
    · exact mS 0 7
    · exact cc1 wA (qO 0 26 rfl) (fresh_is _) (fun w u h1 => g_rbits1 (by omega) w u ((nn_nv d1) _ _ h1))
    · exact b_gtr_int_f wA (oO 1 27) (opnd_const _)
  intro B5 a5 W5 (S5 : Sta w 86 [] [(28, bF), (7, ((NN (q1)) w.heap.size)), (8, Is (.bool a1')), (6, iV e0), (0, Nv N kn), (1, Nv M km)] _ _ _)
  refine wp_cond_false (S5.bool 0 28 rfl) ?_
  refine wp_skip ?_
  refine thenN ?_
  refine wp_seq ?_
  refine wp_stmt_seq [.val ((NN (q1)) w.heap.size), .val (iV ((Go.bitLen q1 : Nat) : Int)), kF, kF, .off, .off, kF] [] [.inl 6, .inr 1, .inr 2, .inr 3, .inr 4, .inr 5] follows S5 rfl (by kernel_rfl) ?_ ?_
  · repeat' refine And.intro ?_ ?_
    · trivial
    · exact mS 1 7
    · exact cc1 wA (qO 0 38 rfl) (fresh_is _) (fun w u h1 => g_rbits1 (by omega) w u ((nn_nv d1) _ _ h1))
    · exact b_lss_int_f wA (oO 1 39) (opnd_const _)
    · exact mO 2 40
    · exact oF 3 41
    · exact oF 3 41
    · exact pF wA (oO 3 41) (opnd_const _)
  intro B6 a6 W6 (S6 : Sta w 86 [] [(44, bF), (7, ((NN (q1)) w.heap.size)), (8, Is (.bool a1')), (6, iV e0), (0, Nv N kn), (1, Nv M km)] _ _ _)
  refine wp_cond_false (S6.bool 0 44 rfl) ?_
  refine wp_skip ?_
  refine thenN ?_
  refine wp_seq ?_
  refine wp_stmt_seq [.val (iV e0), kT] [] [.inl 1, .inr 1, .inr 2, .inr 3] follows S6 rfl (by kernel_rfl) ?_ ?_
  · refine ⟨⟨trivial, ?_⟩, ?_⟩
    · exact mS 3 6
    · exact b_gtr_int_t wA (oO 0 54) (opnd_const _) (h := g9)
  intro B7 a7 W7 (S7 : Sta w 86 [] [(55, bT), (7, ((NN (q1)) w.heap.size)), (8, Is (.bool a1')), (6, iV e0)] _ _ _)
  refine wp_cond_true (S7.bool 0 55 rfl) ?_
  refine wp_stmt_seq [.val (FL (some 9218868437227405311)), .val (FL (some 9218868437227405311)), kF] [] [.inl 1, .inl 2] follows S7 rfl (by kernel_rfl) ?_ ?_
  · refine ⟨⟨⟨trivial, ?_⟩, ?_⟩, ?_⟩
    · exact cc1 wA (opnd_const _) (fresh_fl _) of_max
    · exact mO 0 56
    · exact mC
  intro B8 a8 W8 (S8 : Sta w 86 [] [(4, (FL (some 9218868437227405311))), (5, bF)] _ _ _)
  refine wp_ret ?_
  refine thenR ?_
  exact end_two S8 rfl (res_tmp S8 0 4 rfl) (res_tmp S8 1 5 rfl)
set_option maxHeartbeats 2000000 in
theorem below_Nn (w : World) (N M kn km : Nat) (u v : Value) (hu : Has (fun _ => False) w (Nv N kn) u) (hv : Has (fun _ => False) w (Nv M km) v) (bn : kn ≤ 2097152) (bm : km ≤ 2097152) (bN bM : Nat) (eN : Go.bitLen N = bN) (eM : Go.bitLen M = bM) (hbN : bN ≤ 67108864) (hbM : bM ≤ 67108864) (e0 : Int) (h0 : ((bN : Nat) : Int) - ((bM : Nat) : Int) - 53 = e0) (L : Nat) (hL : e0 = (L : Int) - 1074) (he : -1074 ≤ e0) (q1 : Nat) (a1' : Bool) (d1 : (digs q1).length ≤ 2) (c1 : ∀ w u v x, Nv N kn u w → Nv M km v w → Is (.int .i64 e0) x w → Calls Tryz.prog 51 #[u, v, x] w (Gives (TWO (NN q1) (IS (.bool a1'))) w)) (g1 : 4503599627370496 ≤ q1) (g2 : Go.bitLen q1 = 53) (g3 : q1 < 9007199254740992) (g9 : e0 ≤ 971) :
    Calls Tryz.prog 24 #[u, v] w (Gives (TWO (FLN (some ((L * 4503599627370496 + q1 : Nat) : Int))) (IS (.bool a1'))) w) := by
  refine calls_sta (sl := [(0, (Nv N kn)), (1, (Nv M km))]) Tryz.func24 rfl Tryz.ntmps24 (by simp) (args_cons rfl (hu) (args_cons rfl (hv) args_nil)) ?_
  intro a0 S0
  refine wp_stmt_seq [.val (Is (.float FloatKind.f64 0)), kF] [] [.inr 0, .inr 1] follows S0 rfl (by kernel_rfl) ?_ ?_
  · refine ⟨⟨trivial, ?_⟩, ?_⟩
    · exact mC
    · exact mC
  intro B1 a1 W1 (S1 : Sta w 86 [] [(0, Nv N kn), (1, Nv M km)] _ _ _)
  refine wp_stmt_seq [.val (Nv N kn), .val (iV ((bN : Nat) : Int)), .val (Nv M km), .val (iV ((bM : Nat) : Int)), .val (Is (.int .i64 (((bN : Nat) : Int) - ((bM : Nat) : Int)))), .val (iV e0), .val (iV e0)] [] [.inl 6, .inr 0, .inr 1] follows S1 rfl (by kernel_rfl) ?_ ?_
  · repeat' refine And.intro ?_ ?_
    · trivial
    · exact mS 0 0
    · exact cc1 wA (qO 0 11 rfl) (fresh_is _) (fun w u0 h0 => Gives.cast ((fun w u h1 => g_rbits1 (by omega) w u ((fun _ _ h => h) _ _ h1)) w u0 h0) (by rw [eN]))
    · exact mS 1 1
    · exact cc1 wA (qO 2 13 rfl) (fresh_is _) (fun w u0 h0 => Gives.cast ((fun w u h1 => g_rbits1 (by omega) w u ((fun _ _ h => h) _ _ h1)) w u0 h0) (by rw [eM]))
    · exact b_sub_int wA (oO 1 12) (oO 3 14) (h := ⟨rfl, by omega, by omega⟩)
    · exact b_sub_int wA (oO 4 15) (opnd_const _) (h := ⟨h0, by omega, by omega⟩)
    · exact mO 5 16
  intro B2 a2 W2 (S2 : Sta w 86 [] [(6, iV e0), (0, Nv N kn), (1, Nv M km)] _ _ _)
  refine wp_seq ?_
  refine wp_stmt_seq [.val (iV e0), kF] [] [.inl 1, .inr 0, .inr 1, .inr 2] follows S2 rfl (by kernel_rfl) ?_ ?_
  · refine ⟨⟨trivial, ?_⟩, ?_⟩
    · exact mS 0 6
    · exact b_lss_int_f wA (oO 0 17) (opnd_const _)
  intro B3 a3 W3 (S3 : Sta w 86 [] [(18, bF), (6, iV e0), (0, Nv N kn), (1, Nv M km)] _ _ _)
  refine wp_cond_false (S3.bool 0 18 rfl) ?_
  refine wp_skip ?_
  refine thenN ?_
  refine wp_stmt_seq [.val (Nv N kn), .val (Nv M km), .val (iV e0), .val ((TWO (NN (q1)) (IS (.bool a1'))) w.heap.size), .val ((TWO (NN (q1)) (IS (.bool a1'))) w.heap.size), .val ((NN (q1)) w.heap.size), .val (Is (.bool a1')), .val ((NN (q1)) w.heap.size), .val (Is (.bool a1'))] [] [.inl 7, .inl 8, .inr 1, .inr 2, .inr 3] follows S3 rfl (by kernel_rfl) ?_ ?_
  · repeat' refine And.intro ?_ ?_
    · trivial
    · exact mS 2 0
    · exact mS 3 1
    · exact mS 1 6
    · exact owe_call3 rfl wA rfl (oO 0 20) (oO 1 21) (oO 2 22) (fresh_two (fresh_nn _) (fresh_is _)) rfl (fun args w => by go_simp) c1
    · exact mO 3 23
    · exact e20 wA (oO 4 19)
    · exact e21 wA (oO 4 19)
    · exact mO 5 24
    · exact mO 6 25
  intro B4 a4 W4 (S4 : Sta w 86 [] [(7, ((NN (q1)) w.heap.size)), (8, Is (.bool a1')), (6, iV e0), (0, Nv N kn), (1, Nv M km)] _ _ _)
  refine wp_seq ?_
  refine wp_stmt_seq [.val ((NN (q1)) w.heap.size), .val (iV ((Go.bitLen q1 : Nat) : Int)), kF] [] [.inl 2, .inr 0, .inr 1, .inr 2, .inr 3, .inr 4] follows S4 rfl (by kernel_rfl) ?_ ?_
  · refine ⟨⟨⟨trivial, ?_⟩, ?_⟩, ?_⟩
    · exact mS 0 7
    · exact cc1 wA (qO 0 26 rfl) (fresh_is _) (fun w u h1 => g_rbits1 (by omega) w u ((nn_nv d1) _ _ h1))
    · exact b_gtr_int_f wA (oO 1 27) (opnd_const _)
  intro B5 a5 W5 (S5 : Sta w 86 [] [(28, bF), (7, ((NN (q1)) w.heap.size)), (8, Is (.bool a1')), (6, iV e0), (0, Nv N kn), (1, Nv M km)] _ _ _)
  refine wp_cond_false (S5.bool 0 28 rfl) ?_
  refine wp_skip ?_
  refine thenN ?_
  refine wp_seq ?_
  refine wp_stmt_seq [.val ((NN (q1)) w.heap.size), .val (iV ((Go.bitLen q1 : Nat) : Int)), kF, kF, .off, .off, kF] [] [.inl 6, .inr 1, .inr 2, .inr 3, .inr 4, .inr 5] follows S5 rfl (by kernel_rfl) ?_ ?_
  · repeat' refine And.intro ?_ ?_
    · trivial
    · exact mS 1 7
    · exact cc1 wA (qO 0 38 rfl) (fresh_is _) (fun w u h1 => g_rbits1 (by omega) w u ((nn_nv d1) _ _ h1))
    · exact b_lss_int_f wA (oO 1 39) (opnd_const _)
    · exact mO 2 40
    · exact oF 3 41
    · exact oF 3 41
    · exact pF wA (oO 3 41) (opnd_const _)
  intro B6 a6 W6 (S6 : Sta w 86 [] [(44, bF), (7, ((NN (q1)) w.heap.size)), (8, Is (.bool a1')), (6, iV e0), (0, Nv N kn), (1, Nv M km)] _ _ _)
  refine wp_cond_false (S6.bool 0 44 rfl) ?_
  refine wp_skip ?_
  refine thenN ?_
  refine wp_seq ?_
  refine wp_stmt_seq [.val (iV e0), kF] [] [.inl 1, .inr 1, .inr 2, .inr 3] follows S6 rfl (by kernel_rfl) ?_ ?_
  · refine ⟨⟨trivial, ?_⟩, ?_⟩
    · exact mS 3 6
    · exact b_gtr_int_f wA (oO 0 54) (opnd_const _) (h := g9)
  intro B7 a7 W7 (S7 : Sta w 86 [] [(55, bF), (7, ((NN (q1)) w.heap.size)), (8, Is (.bool a1')), (6, iV e0)] _ _ _)
  refine wp_cond_false (S7.bool 0 55 rfl) ?_
  refine wp_skip ?_
  refine thenN ?_
  refine wp_stmt_seq [.val (Is (.int .u64 0))] [] [.inl 0, .inr 1, .inr 2, .inr 3] follows S7 rfl (by kernel_rfl) ?_ ?_
  · refine ⟨trivial, ?_⟩
    · exact mC
  intro B8 a8 W8 (S8 : Sta w 86 [] [(9, Is (.int .u64 0)), (7, ((NN (q1)) w.heap.size)), (8, Is (.bool a1')), (6, iV e0)] _ _ _)
  refine wp_seq ?_
  refine wp_stmt_seq [.val ((NN (q1)) w.heap.size), .val (Is (.int .i64 ((digs (q1)).length : Nat))), .val (Is (.int .i64 ((((digs q1).length : Nat) : Int) - 1))), .val (Is (.int .i64 ((((digs q1).length : Nat) : Int) - 1)))] [] [.inl 3, .inr 0, .inr 1, .inr 2, .inr 3] follows S8 rfl (by kernel_rfl) ?_ ?_
  · refine ⟨⟨⟨⟨trivial, ?_⟩, ?_⟩, ?_⟩, ?_⟩
    · exact mS 1 7
    · exact owe_len rfl wA rfl (oO 0 57) nn_len Tryz.underlying22 rfl
    · exact b_sub_int wA (oO 1 58) (opnd_const _) (h := ⟨rfl, by omega, by omega⟩)
    · exact mO 2 59
  intro B9 a9 W9 (S9 : Sta w 86 [] [(10, (Is (.int .i64 ((((digs q1).length : Nat) : Int) - 1)))), (9, Is (.int .u64 0)), (7, ((NN (q1)) w.heap.size)), (8, Is (.bool a1')), (6, iV e0)] _ _ _)
  refine wp_block ?_
  replace S9 : Sta w 86 [] [(10, (Is (.int .i64 ((((digs q1).length : Nat) : Int) - 1)))), (9, Is (.int .u64 ((q1 / 4294967296 ^ (digs q1).length : Nat) : Int))), (7, ((NN (q1)) w.heap.size)), (8, Is (.bool a1')), (6, iV e0)] B9 a9 W9 := S9.change 1 rfl (top_is q1)
  refine wp_loop_ghost (fun (j : Nat) a W => (j ≤ (digs q1).length) ∧ ∃ Bq, Sta w 86 [] [(10, Is (.int .i64 (((j : Nat) : Int) - 1))), (9, Is (.int .u64 ((q1 / 4294967296 ^ j : Nat) : Int))), (7, ((NN (q1)) w.heap.size)), (8, Is (.bool a1')), (6, iV e0)] Bq a W) (fun (j : Nat) => j) ?_ (digs q1).length ⟨Nat.le_refl _, B9, S9.sub [] [0, 1, 2, 3, 4]⟩
  rintro j a10 W10 ⟨hcond, B10, S10⟩
  by_cases hj : 0 < j
  · obtain ⟨i0, rfl⟩ : ∃ i0, j = i0 + 1 := ⟨j - 1, by omega⟩
    rw [show (((i0 + 1 : Nat) : Int)) - 1 = ((i0 : Nat) : Int) by omega] at S10
    obtain ⟨d0, hd, hd1, hd2⟩ := top_step q1 i0 (by omega)
    have htl := topq_le q1 i0
    refine wp_seq ?_
    refine wp_stmt_seq [.val (iV ((i0 : Nat) : Int)), kT] [] [.inl 1, .inr 0, .inr 1, .inr 2, .inr 3, .inr 4] follows S10 rfl (by kernel_rfl) ?_ ?_
    · refine ⟨⟨trivial, ?_⟩, ?_⟩
      · exact mS 0 10
      · exact b_geq_int_t wA (oO 0 60) (opnd_const _)
    intro B11 a11 W11 (S11 : Sta w 86 [] [(61, bT), (10, iV ((i0 : Nat) : Int)), (9, Is (.int .u64 ((q1 / 4294967296 ^ (i0 + 1) : Nat) : Int))), (7, ((NN (q1)) w.heap.size)), (8, Is (.bool a1')), (6, iV e0)] _ _ _)
    refine wp_cond_true (S11.bool 0 61 rfl) ?_
    refine wp_skip ?_
    refine thenN ?_
    refine wp_seq ?_
    refine wp_block ?_
    refine wp_stmt [.val (Is (.int .u64 ((q1 / 4294967296 ^ (i0 + 1) : Nat) : Int))), .val (Is (.int .u64 ((q1 / 4294967296 ^ (i0 + 1) * 4294967296 : Nat) : Int))), .val ((NN (q1)) w.heap.size), .val (iV ((i0 : Nat) : Int)), .val (AtE 1 (Is (.int .u32 ((d0 : Nat) : Int)))), .val (Is (.int .u32 ((d0 : Nat) : Int))), .val (Is (.int .u64 ((d0 : Nat) : Int))), .val (Is (.int .u64 ((q1 / 4294967296 ^ i0 : Nat) : Int))), .val (Is (.int .u64 ((q1 / 4294967296 ^ i0 : Nat) : Int)))] [] [.inl 8, .inr 1, .inr 3, .inr 4, .inr 5] follows S11 rfl (by kernel_rfl) ?_ ?_
    · repeat' refine And.intro ?_ ?_
      · trivial
      · exact mS 2 9
      · exact owe_bin rfl wA rfl (oO 0 64) (opnd_const _) rfl (fun ρ w h1 h2 => by exact u_mul ρ _ _ _ w _ 4294967296 (by omega) h1 h2)
      · exact mS 3 7
      · exact mS 1 10
      · exact owe_aindex rfl wA rfl idx_us ((oO 2 66).imp nn_ar) (oO 3 67) (limb_get hd) rfl
      · exact owe_aload rfl wA rfl ldr_u1 (by decide) (cel_is rfl) (oO 4 68) rfl
      · exact owe_un (x := .tmp 69) rfl wA rfl (oO 5 69) rfl (fun ρ w h1 => by exact w_u64 ρ _ _ w d0 hd1 h1)
      · exact owe_bin rfl wA rfl (oO 1 65) (oO 6 70) rfl (fun ρ w h1 h2 => by rw [← hd2]; exact u_add ρ _ _ _ w _ d0 (by omega) h1 h2)
      · exact mO 7 71
    intro B12 a12 W12 (S12 : Sta w 86 [] [(9, Is (.int .u64 ((q1 / 4294967296 ^ i0 : Nat) : Int))), (10, iV ((i0 : Nat) : Int)), (7, ((NN (q1)) w.heap.size)), (8, Is (.bool a1')), (6, iV e0)] _ _ _)
    refine inBlkN ?_
    refine thenN ?_
    refine wp_stmt [.val (iV ((i0 : Nat) : Int)), .val (Is (.int .i64 (((i0 : Nat) : Int) - 1))), .val (Is (.int .i64 (((i0 : Nat) : Int) - 1)))] [] [.inl 2, .inr 0, .inr 2, .inr 3, .inr 4] follows S12 rfl (by kernel_rfl) ?_ ?_
    · refine ⟨⟨⟨trivial, ?_⟩, ?_⟩, ?_⟩
      · exact mS 1 10
      · exact b_sub_int wA (oO 0 62) (opnd_const _) (h := ⟨rfl, by omega, by omega⟩)
      · exact mO 1 63
    intro B13 a13 W13 (S13 : Sta w 86 [] [(10, Is (.int .i64 (((i0 : Nat) : Int) - 1))), (9, Is (.int .u64 ((q1 / 4294967296 ^ i0 : Nat) : Int))), (7, ((NN (q1)) w.heap.size)), (8, Is (.bool a1')), (6, iV e0)] _ _ _)
    refine thenN ?_
    exact ⟨i0, ⟨by omega, B13, S13.sub [] [0, 1, 2, 3, 4]⟩, by omega⟩
  · have ej : j = 0 := by omega
    subst ej
    rw [Nat.pow_zero, Nat.div_one] at S10
    refine wp_seq ?_
    refine wp_stmt_seq [.val (Is (.int .i64 (((0 : Nat) : Int) - 1))), kF] [] [.inl 1, .inr 0, .inr 1, .inr 2, .inr 3, .inr 4] follows S10 rfl (by kernel_rfl) ?_ ?_
    · refine ⟨⟨trivial, ?_⟩, ?_⟩
      · exact mS 0 10
      · exact b_geq_int_f wA (oO 0 60) (opnd_const _)
    intro B11 a11 W11 (S11 : Sta w 86 [] [(61, bF), (10, Is (.int .i64 (((0 : Nat) : Int) - 1))), (9, Is (.int .u64 ((q1 : Nat) : Int))), (7, ((NN (q1)) w.heap.size)), (8, Is (.bool a1')), (6, iV e0)] _ _ _)
    refine wp_cond_false (S11.bool 0 61 rfl) ?_
    refine wp_exit ?_
    refine thenX ?_
    refine thenX ?_
    refine inBlkE ?_
    refine thenN ?_
    refine wp_seq ?_
    refine wp_stmt_seq [.val (Is (.int .u64 ((q1 : Nat) : Int))), kF] [] [.inl 1, .inr 1, .inr 2, .inr 3, .inr 4, .inr 5] follows S11 rfl (by kernel_rfl) ?_ ?_
    · refine ⟨⟨trivial, ?_⟩, ?_⟩
      · exact mS 2 9
      · exact owe_bin rfl wA rfl (oO 0 72) (opnd_const _) rfl (fun ρ w h1 h2 => by exact u_lss_f ρ _ _ _ w _ _ (by omega) h1 h2)
    intro B12 a12 W12 (S12 : Sta w 86 [] [(73, bF), (10, Is (.int .i64 (((0 : Nat) : Int) - 1))), (9, Is (.int .u64 ((q1 : Nat) : Int))), (7, ((NN (q1)) w.heap.size)), (8, Is (.bool a1')), (6, iV e0)] _ _ _)
    refine wp_cond_false (S12.bool 0 73 rfl) ?_
    refine wp_skip ?_
    refine thenN ?_
    refine wp_stmt_seq [.val (iV e0), .val (Is (.int .i64 (((L + 1) : Nat) : Int))), .val (Is (.int .u64 (((L + 1) : Nat) : Int))), .val (Is (.int .u64 (((L + 1) * 4503599627370496 : Nat) : Int))), .val (Is (.int .u64 ((q1 : Nat) : Int))), .val (Is (.int .u64 (((L + 1) * 4503599627370496 + q1 : Nat) : Int))), .val (Is (.int .u64 ((L * 4503599627370496 + q1 : Nat) : Int))), .val (FL (some ((L * 4503599627370496 + q1 : Nat) : Int))), .val (Is (.bool a1')), .val (FL (some ((L * 4503599627370496 + q1 : Nat) : Int))), .val (Is (.bool a1'))] [] [.inl 9, .inl 10, .inr 1, .inr 2, .inr 3, .inr 4, .inr 5] follows S12 rfl (by kernel_rfl) ?_ ?_
    · repeat' refine And.intro ?_ ?_
      · trivial
      · exact mS 5 6
      · exact b_add_int wA (oO 0 77) (opnd_const _)
      · exact owe_un (x := .tmp 78) rfl wA rfl (oO 1 78) rfl (fun ρ w h1 => by exact i_u64 ρ _ _ w (L + 1) (by omega) h1)
      · exact owe_bin rfl wA rfl (oO 2 79) (opnd_const _) rfl (fun ρ w h1 h2 => by exact u_mul ρ _ _ _ w (L + 1) 4503599627370496 (by omega) h1 h2)
      · exact mS 2 9
      · exact owe_bin rfl wA rfl (oO 3 80) (oO 4 81) rfl (fun ρ w h1 h2 => by exact u_add ρ _ _ _ w _ q1 (by omega) h1 h2)
      · exact owe_bin rfl wA rfl (oO 5 82) (opnd_const _) rfl (fun ρ w h1 h2 => by exact u_sub ρ _ _ _ w _ 4503599627370496 _ (by omega) (by omega) h1 h2)
      · exact cc1 wA (qO 6 83 rfl) (fresh_fl _) (of_at (m := L * 4503599627370496 + q1) (by omega))
      · exact mS 4 8
      · exact mO 7 84
      · exact mO 8 85
    intro B13 a13 W13 (S13 : Sta w 86 [] [(4, (FL (some ((L * 4503599627370496 + q1 : Nat) : Int)))), (5, Is (.bool a1')), (10, Is (.int .i64 (((0 : Nat) : Int) - 1))), (9, Is (.int .u64 ((q1 : Nat) : Int))), (7, ((NN (q1)) w.heap.size)), (8, Is (.bool a1')), (6, iV e0)] _ _ _)
    refine wp_ret ?_
    exact end_two S13 rfl (res_tmp S13 0 4 rfl) (res_tmp S13 1 5 rfl)
set_option maxHeartbeats 2000000 in
theorem below_Pg (w : World) (N M kn km : Nat) (u v : Value) (hu : Has (fun _ => False) w (Nv N kn) u) (hv : Has (fun _ => False) w (Nv M km) v) (bn : kn ≤ 2097152) (bm : km ≤ 2097152) (bN bM : Nat) (eN : Go.bitLen N = bN) (eM : Go.bitLen M = bM) (hbN : bN ≤ 67108864) (hbM : bM ≤ 67108864) (e0 : Int) (h0 : ((bN : Nat) : Int) - ((bM : Nat) : Int) - 53 = e0) (L : Nat) (hL : (e0 + 1) = (L : Int) - 1074) (he : -1074 ≤ e0) (q1 : Nat) (a1' : Bool) (d1 : (digs q1).length ≤ 2) (c1 : ∀ w u v x, Nv N kn u w → Nv M km v w → Is (.int .i64 e0) x w → Calls Tryz.prog 51 #[u, v, x] w (Gives (TWO (NN q1) (IS (.bool a1'))) w)) (q2 : Nat) (a2' : Bool) (d2 : (digs q2).length ≤ 2) (c2 : ∀ w u v x, Nv N kn u w → Nv M km v w → Is (.int .i64 (e0 + 1)) x w → Calls Tryz.prog 51 #[u, v, x] w (Gives (TWO (NN q2) (IS (.bool a2'))) w)) (g0 : 53 < Go.bitLen q1) (g1 : 4503599627370496 ≤ q2) (g2 : Go.bitLen q2 = 53) (g3 : q2 < 9007199254740992) (g9 : 971 < (e0 + 1)) :
    Calls Tryz.prog 24 #[u, v] w (Gives (TWO (FLN (some 9218868437227405311)) (IS (.bool false))) w) := by
  refine calls_sta (sl := [(0, (Nv N kn)), (1, (Nv M km))]) Tryz.func24 rfl Tryz.ntmps24 (by simp) (args_cons rfl (hu) (args_cons rfl (hv) args_nil)) ?_
  intro a0 S0
  refine wp_stmt_seq [.val (Is (.float FloatKind.f64 0)), kF] [] [.inr 0, .inr 1] follows S0 rfl (by kernel_rfl) ?_ ?_
  · refine ⟨⟨trivial, ?_⟩, ?_⟩
    · exact mC
    · exact mC
  intro B1 a1 W1 (S1 : Sta w 86 [] [(0, Nv N kn), (1, Nv M km)] _ _ _)
  refine wp_stmt_seq [.val (Nv N kn), .val (iV ((bN : Nat) : Int)), .val (Nv M km), .val (iV ((bM : Nat) : Int)), .val (Is (.int .i64 (((bN : Nat) : Int) - ((bM : Nat) : Int)))), .val (iV e0), .val (iV e0)] [] [.inl 6, .inr 0, .inr 1] follows S1 rfl (by kernel_rfl) ?_ ?_
  · repeat' refine And.intro ?_ ?_
    · trivial
    · exact mS 0 0
    · exact cc1 wA (qO 0 11 rfl) (fresh_is _) (fun w u0 h0 => Gives.cast ((fun w u h1 => g_rbits1 (by omega) w u ((fun _ _ h => h) _ _ h1)) w u0 h0) (by rw [eN]))
    · exact mS 1 1
    · exact cc1 wA (qO 2 13 rfl) (fresh_is _) (fun w u0 h0 => Gives.cast ((fun w u h1 => g_rbits1 (by omega) w u ((fun _ _ h => h) _ _ h1)) w u0 h0) (by rw [eM]))
    · exact b_sub_int wA (oO 1 12) (oO 3 14) (h := ⟨rfl, by omega, by omega⟩)
    · exact b_sub_int wA (oO 4 15) (opnd_const _) (h := ⟨h0, by omega, by omega⟩)
    · exact mO 5 16
  intro B2 a2 W2 (S2 : Sta w 86 [] [(6, iV e0), (0, Nv N kn), (1, Nv M km)] _ _ _)
  refine wp_seq ?_
  refine wp_stmt_seq [.val (iV e0), kF] [] [.inl 1, .inr 0, .inr 1, .inr 2] follows S2 rfl (by kernel_rfl) ?_ ?_
  · refine ⟨⟨trivial, ?_⟩, ?_⟩
    · exact mS 0 6
    · exact b_lss_int_f wA (oO 0 17) (opnd_const _)
  intro B3 a3 W3 (S3 : Sta w 86 [] [(18, bF), (6, iV e0), (0, Nv N kn), (1, Nv M km)] _ _ _)
  refine wp_cond_false (S3.bool 0 18 rfl) ?_
  refine wp_skip ?_
  refine thenN ?_
  refine wp_stmt_seq [.val (Nv N kn), .val (Nv M km), .val (iV e0), .val ((TWO (NN (q1)) (IS (.bool a1'))) w.heap.size), .val ((TWO (NN (q1)) (IS (.bool a1'))) w.heap.size), .val ((NN (q1)) w.heap.size), .val (Is (.bool a1')), .val ((NN (q1)) w.heap.size), .val (Is (.bool a1'))] [] [.inl 7, .inl 8, .inr 1, .inr 2, .inr 3] follows S3 rfl (by kernel_rfl) ?_ ?_
  · repeat' refine And.intro ?_ ?_
    · trivial
    · exact mS 2 0
    · exact mS 3 1
    · exact mS 1 6
    · exact owe_call3 rfl wA rfl (oO 0 20) (oO 1 21) (oO 2 22) (fresh_two (fresh_nn _) (fresh_is _)) rfl (fun args w => by go_simp) c1
    · exact mO 3 23
    · exact e20 wA (oO 4 19)
    · exact e21 wA (oO 4 19)
    · exact mO 5 24
    · exact mO 6 25
  intro B4 a4 W4 (S4 : Sta w 86 [] [(7, ((NN (q1)) w.heap.size)), (8, Is (.bool a1')), (6, iV e0), (0, Nv N kn), (1, Nv M km)] _ _ _)
  refine wp_seq ?_
  refine wp_stmt_seq [.val ((NN (q1)) w.heap.size), .val (iV ((Go.bitLen q1 : Nat) : Int)), kT] [] [.inl 2, .inr 0, .inr 1, .inr 2, .inr 3, .inr 4] follows S4 rfl (by kernel_rfl) ?_ ?_
  · refine ⟨⟨⟨trivial, ?_⟩, ?_⟩, ?_⟩
    · exact mS 0 7
    · exact cc1 wA (qO 0 26 rfl) (fresh_is _) (fun w u h1 => g_rbits1 (by omega) w u ((nn_nv d1) _ _ h1))
    · exact b_gtr_int_t wA (oO 1 27) (opnd_const _)
  intro B5 a5 W5 (S5 : Sta w 86 [] [(28, bT), (7, ((NN (q1)) w.heap.size)), (8, Is (.bool a1')), (6, iV e0), (0, Nv N kn), (1, Nv M km)] _ _ _)
  refine wp_cond_true (S5.bool 0 28 rfl) ?_
  refine wp_stmt_seq [.val (iV e0), .val (iV (e0 + 1)), .val (iV (e0 + 1))] [] [.inl 2, .inr 4, .inr 5] follows S5 rfl (by kernel_rfl) ?_ ?_
  · refine ⟨⟨⟨trivial, ?_⟩, ?_⟩, ?_⟩
    · exact mS 3 6
    · exact b_add_int wA (oO 0 29) (opnd_const _) (h := ⟨rfl, by omega, by omega⟩)
    · exact mO 1 30
  intro B6 a6 W6 (S6 : Sta w 86 [] [(6, iV (e0 + 1)), (0, Nv N kn), (1, Nv M km)] _ _ _)
  refine wp_stmt [.val (Nv N kn), .val (Nv M km), .val (iV (e0 + 1)), .val ((TWO (NN (q2)) (IS (.bool a2'))) w.heap.size), .val ((TWO (NN (q2)) (IS (.bool a2'))) w.heap.size), .val ((NN (q2)) w.heap.size), .val (Is (.bool a2')), .val ((NN (q2)) w.heap.size), .val (Is (.bool a2'))] [] [.inl 7, .inl 8, .inr 0, .inr 1, .inr 2] follows S6 rfl (by kernel_rfl) ?_ ?_
  · repeat' refine And.intro ?_ ?_
    · trivial
    · exact mS 1 0
    · exact mS 2 1
    · exact mS 0 6
    · exact owe_call3 rfl wA rfl (oO 0 32) (oO 1 33) (oO 2 34) (fresh_two (fresh_nn _) (fresh_is _)) rfl (fun args w => by go_simp) c2
    · exact mO 3 35
    · exact e20 wA (oO 4 31)
    · exact e21 wA (oO 4 31)
    · exact mO 5 36
    · exact mO 6 37
  intro B7 a7 W7 (S7 : Sta w 86 [] [(7, ((NN (q2)) w.heap.size)), (8, Is (.bool a2')), (6, iV (e0 + 1)), (0, Nv N kn), (1, Nv M km)] _ _ _)
  refine thenN ?_
  refine wp_seq ?_
  refine wp_stmt_seq [.val ((NN (q2)) w.heap.size), .val (iV ((Go.bitLen q2 : Nat) : Int)), kF, kF, .off, .off, kF] [] [.inl 6, .inr 0, .inr 1, .inr 2, .inr 3, .inr 4] follows S7 rfl (by kernel_rfl) ?_ ?_
  · repeat' refine And.intro ?_ ?_
    · trivial
    · exact mS 0 7
    · exact cc1 wA (qO 0 38 rfl) (fresh_is _) (fun w u h1 => g_rbits1 (by omega) w u ((nn_nv d2) _ _ h1))
    · exact b_lss_int_f wA (oO 1 39) (opnd_const _)
    · exact mO 2 40
    · exact oF 3 41
    · exact oF 3 41
    · exact pF wA (oO 3 41) (opnd_const _)
  intro B8 a8 W8 (S8 : Sta w 86 [] [(44, bF), (7, ((NN (q2)) w.heap.size)), (8, Is (.bool a2')), (6, iV (e0 + 1)), (0, Nv N kn), (1, Nv M km)] _ _ _)
  refine wp_cond_false (S8.bool 0 44 rfl) ?_
  refine wp_skip ?_
  refine thenN ?_
  refine wp_seq ?_
  refine wp_stmt_seq [.val (iV (e0 + 1)), kT] [] [.inl 1, .inr 1, .inr 2, .inr 3] follows S8 rfl (by kernel_rfl) ?_ ?_
  · refine ⟨⟨trivial, ?_⟩, ?_⟩
    · exact mS 3 6
    · exact b_gtr_int_t wA (oO 0 54) (opnd_const _) (h := g9)
  intro B9 a9 W9 (S9 : Sta w 86 [] [(55, bT), (7, ((NN (q2)) w.heap.size)), (8, Is (.bool a2')), (6, iV (e0 + 1))] _ _ _)
  refine wp_cond_true (S9.bool 0 55 rfl) ?_
  refine wp_stmt_seq [.val (FL (some 9218868437227405311)), .val (FL (some 9218868437227405311)), kF] [] [.inl 1, .inl 2] follows S9 rfl (by kernel_rfl) ?_ ?_
  · refine ⟨⟨⟨trivial, ?_⟩, ?_⟩, ?_⟩
    · exact cc1 wA (opnd_const _) (fresh_fl _) of_max
    · exact mO 0 56
    · exact mC
  intro B10 a10 W10 (S10 : Sta w 86 [] [(4, (FL (some 9218868437227405311))), (5, bF)] _ _ _)
  refine wp_ret ?_
  refine thenR ?_
  exact end_two S10 rfl (res_tmp S10 0 4 rfl) (res_tmp S10 1 5 rfl)
set_option maxHeartbeats 2000000 in
theorem below_Pn (w : World) (N M kn km : Nat) (u v : Value) (hu : Has (fun _ => False) w (Nv N kn) u) (hv : Has (fun _ => False) w (Nv M km) v) (bn : kn ≤ 2097152) (bm : km ≤ 2097152) (bN bM : Nat) (eN : Go.bitLen N = bN) (eM : Go.bitLen M = bM) (hbN : bN ≤ 67108864) (hbM : bM ≤ 67108864) (e0 : Int) (h0 : ((bN : Nat) : Int) - ((bM : Nat) : Int) - 53 = e0) (L : Nat) (hL : (e0 + 1) = (L : Int) - 1074) (he : -1074 ≤ e0) (q1 : Nat) (a1' : Bool) (d1 : (digs q1).length ≤ 2) (c1 : ∀ w u v x, Nv N kn u w → Nv M km v w → Is (.int .i64 e0) x w → Calls Tryz.prog 51 #[u, v, x] w (Gives (TWO (NN q1) (IS (.bool a1'))) w)) (q2 : Nat) (a2' : Bool) (d2 : (digs q2).length ≤ 2) (c2 : ∀ w u v x, Nv N kn u w → Nv M km v w → Is (.int .i64 (e0 + 1)) x w → Calls Tryz.prog 51 #[u, v, x] w (Gives (TWO (NN q2) (IS (.bool a2'))) w)) (g0 : 53 < Go.bitLen q1) (g1 : 4503599627370496 ≤ q2) (g2 : Go.bitLen q2 = 53) (g3 : q2 < 9007199254740992) (g9 : (e0 + 1) ≤ 971) :
    Calls Tryz.prog 24 #[u, v] w (Gives (TWO (FLN (some ((L * 4503599627370496 + q2 : Nat) : Int))) (IS (.bool a2'))) w) := by
  refine calls_sta (sl := [(0, (Nv N kn)), (1, (Nv M km))]) Tryz.func24 rfl Tryz.ntmps24 (by simp) (args_cons rfl (hu) (args_cons rfl (hv) args_nil)) ?_
  intro a0 S0
  refine wp_stmt_seq [.val (Is (.float FloatKind.f64 0)), kF] [] [.inr 0, .inr 1] follows S0 rfl (by kernel_rfl) ?_ ?_
  · refine ⟨⟨trivial, ?_⟩, ?_⟩
    · exact mC
    · exact mC
  intro B1 a1 W1 (S1 : Sta w 86 [] [(0, Nv N kn), (1, Nv M km)] _ _ _)
  refine wp_stmt_seq [.val (Nv N kn), .val (iV ((bN : Nat) : Int)), .val (Nv M km), .val (iV ((bM : Nat) : Int)), .val (Is (.int .i64 (((bN : Nat) : Int) - ((bM : Nat) : Int)))), .val (iV e0), .val (iV e0)] [] [.inl 6, .inr 0, .inr 1] follows S1 rfl (by kernel_rfl) ?_ ?_
  · repeat' refine And.intro ?_ ?_
    · trivial
    · exact mS 0 0
    · exact cc1 wA (qO 0 11 rfl) (fresh_is _) (fun w u0 h0 => Gives.cast ((fun w u h1 => g_rbits1 (by omega) w u ((fun _ _ h => h) _ _ h1)) w u0 h0) (by rw [eN]))
    · exact mS 1 1
    · exact cc1 wA (qO 2 13 rfl) (fresh_is _) (fun w u0 h0 => Gives.cast ((fun w u h1 => g_rbits1 (by omega) w u ((fun _ _ h => h) _ _ h1)) w u0 h0) (by rw [eM]))
    · exact b_sub_int wA (oO 1 12) (oO 3 14) (h := ⟨rfl, by omega, by omega⟩)
    · exact b_sub_int wA (oO 4 15) (opnd_const _) (h := ⟨h0, by omega, by omega⟩)
    · exact mO 5 16
  intro B2 a2 W2 (S2 : Sta w 86 [] [(6, iV e0), (0, Nv N kn), (1, Nv M km)] _ _ _)
  refine wp_seq ?_
  refine wp_stmt_seq [.val (iV e0), kF] [] [.inl 1, .inr 0, .inr 1, .inr 2] follows S2 rfl (by kernel_rfl) ?_ ?_
  · refine ⟨⟨trivial, ?_⟩, ?_⟩
    · exact mS 0 6
    · exact b_lss_int_f wA (oO 0 17) (opnd_const _)
  intro B3 a3 W3 (S3 : Sta w 86 [] [(18, bF), (6, iV e0), (0, Nv N kn), (1, Nv M km)] _ _ _)
  refine wp_cond_false (S3.bool 0 18 rfl) ?_
  refine wp_skip ?_
  refine thenN ?_
  refine wp_stmt_seq [.val (Nv N kn), .val (Nv M km), .val (iV e0), .val ((TWO (NN (q1)) (IS (.bool a1'))) w.heap.size), .val ((TWO (NN (q1)) (IS (.bool a1'))) w.heap.size), .val ((NN (q1)) w.heap.size), .val (Is (.bool a1')), .val ((NN (q1)) w.heap.size), .val (Is (.bool a1'))] [] [.inl 7, .inl 8, .inr 1, .inr 2, .inr 3] follows S3 rfl (by kernel_rfl) ?_ ?_
  · repeat' refine And.intro ?_ ?_
    · trivial
    · exact mS 2 0
    · exact mS 3 1
    · exact mS 1 6
    · exact owe_call3 rfl wA rfl (oO 0 20) (oO 1 21) (oO 2 22) (fresh_two (fresh_nn _) (fresh_is _)) rfl (fun args w => by go_simp) c1
    · exact mO 3 23
    · exact e20 wA (oO 4 19)
    · exact e21 wA (oO 4 19)
    · exact mO 5 24
    · exact mO 6 25
  intro B4 a4 W4 (S4 : Sta w 86 [] [(7, ((NN (q1)) w.heap.size)), (8, Is (.bool a1')), (6, iV e0), (0, Nv N kn), (1, Nv M km)] _ _ _)
  refine wp_seq ?_
  refine wp_stmt_seq [.val ((NN (q1)) w.heap.size), .val (iV ((Go.bitLen q1 : Nat) : Int)), kT] [] [.inl 2, .inr 0, .inr 1, .inr 2, .inr 3, .inr 4] follows S4 rfl (by kernel_rfl) ?_ ?_
  · refine ⟨⟨⟨trivial, ?_⟩, ?_⟩, ?_⟩
    · exact mS 0 7
    · exact cc1 wA (qO 0 26 rfl) (fresh_is _) (fun w u h1 => g_rbits1 (by omega) w u ((nn_nv d1) _ _ h1))
    · exact b_gtr_int_t wA (oO 1 27) (opnd_const _)
  intro B5 a5 W5 (S5 : Sta w 86 [] [(28, bT), (7, ((NN (q1)) w.heap.size)), (8, Is (.bool a1')), (6, iV e0), (0, Nv N kn), (1, Nv M km)] _ _ _)
  refine wp_cond_true (S5.bool 0 28 rfl) ?_
  refine wp_stmt_seq [.val (iV e0), .val (iV (e0 + 1)), .val (iV (e0 + 1))] [] [.inl 2, .inr 4, .inr 5] follows S5 rfl (by kernel_rfl) ?_ ?_
  · refine ⟨⟨⟨trivial, ?_⟩, ?_⟩, ?_⟩
    · exact mS 3 6
    · exact b_add_int wA (oO 0 29) (opnd_const _) (h := ⟨rfl, by omega, by omega⟩)
    · exact mO 1 30
  intro B6 a6 W6 (S6 : Sta w 86 [] [(6, iV (e0 + 1)), (0, Nv N kn), (1, Nv M km)] _ _ _)
  refine wp_stmt [.val (Nv N kn), .val (Nv M km), .val (iV (e0 + 1)), .val ((TWO (NN (q2)) (IS (.bool a2'))) w.heap.size), .val ((TWO (NN (q2)) (IS (.bool a2'))) w.heap.size), .val ((NN (q2)) w.heap.size), .val (Is (.bool a2')), .val ((NN (q2)) w.heap.size), .val (Is (.bool a2'))] [] [.inl 7, .inl 8, .inr 0, .inr 1, .inr 2] follows S6 rfl (by kernel_rfl) ?_ ?_
  · repeat' refine And.intro ?_ ?_
    · trivial
    · exact mS 1 0
    · exact mS 2 1
    · exact mS 0 6
    · exact owe_call3 rfl wA rfl (oO 0 32) (oO 1 33) (oO 2 34) (fresh_two (fresh_nn _) (fresh_is _)) rfl (fun args w => by go_simp) c2
    · exact mO 3 35
    · exact e20 wA (oO 4 31)
    · exact e21 wA (oO 4 31)
    · exact mO 5 36
    · exact mO 6 37
  intro B7 a7 W7 (S7 : Sta w 86 [] [(7, ((NN (q2)) w.heap.size)), (8, Is (.bool a2')), (6, iV (e0 + 1)), (0, Nv N kn), (1, Nv M km)] _ _ _)
  refine thenN ?_
  refine wp_seq ?_
  refine wp_stmt_seq [.val ((NN (q2)) w.heap.size), .val (iV ((Go.bitLen q2 : Nat) : Int)), kF, kF, .off, .off, kF] [] [.inl 6, .inr 0, .inr 1, .inr 2, .inr 3, .inr 4] follows S7 rfl (by kernel_rfl) ?_ ?_
  · repeat' refine And.intro ?_ ?_
    · trivial
    · exact mS 0 7
    · exact cc1 wA (qO 0 38 rfl) (fresh_is _) (fun w u h1 => g_rbits1 (by omega) w u ((nn_nv d2) _ _ h1))
    · exact b_lss_int_f wA (oO 1 39) (opnd_const _)
    · exact mO 2 40
    · exact oF 3 41
    · exact oF 3 41
    · exact pF wA (oO 3 41) (opnd_const _)
  intro B8 a8 W8 (S8 : Sta w 86 [] [(44, bF), (7, ((NN (q2)) w.heap.size)), (8, Is (.bool a2')), (6, iV (e0 + 1)), (0, Nv N kn), (1, Nv M km)] _ _ _)
  refine wp_cond_false (S8.bool 0 44 rfl) ?_
  refine wp_skip ?_
  refine thenN ?_
  refine wp_seq ?_
  refine wp_stmt_seq [.val (iV (e0 + 1)), kF] [] [.inl 1, .inr 1, .inr 2, .inr 3] follows S8 rfl (by kernel_rfl) ?_ ?_
  · refine ⟨⟨trivial, ?_⟩, ?_⟩
    · exact mS 3 6
    · exact b_gtr_int_f wA (oO 0 54) (opnd_const _) (h := g9)
  intro B9 a9 W9 (S9 : Sta w 86 [] [(55, bF), (7, ((NN (q2)) w.heap.size)), (8, Is (.bool a2')), (6, iV (e0 + 1))] _ _ _)
  refine wp_cond_false (S9.bool 0 55 rfl) ?_
  refine wp_skip ?_
  refine thenN ?_
  refine wp_stmt_seq [.val (Is (.int .u64 0))] [] [.inl 0, .inr 1, .inr 2, .inr 3] follows S9 rfl (by kernel_rfl) ?_ ?_
  · refine ⟨trivial, ?_⟩
    · exact mC
  intro B10 a10 W10 (S10 : Sta w 86 [] [(9, Is (.int .u64 0)), (7, ((NN (q2)) w.heap.size)), (8, Is (.bool a2')), (6, iV (e0 + 1))] _ _ _)
  refine wp_seq ?_
  refine wp_stmt_seq [.val ((NN (q2)) w.heap.size), .val (Is (.int .i64 ((digs (q2)).length : Nat))), .val (Is (.int .i64 ((((digs q2).length : Nat) : Int) - 1))), .val (Is (.int .i64 ((((digs q2).length : Nat) : Int) - 1)))] [] [.inl 3, .inr 0, .inr 1, .inr 2, .inr 3] follows S10 rfl (by kernel_rfl) ?_ ?_
  · refine ⟨⟨⟨⟨trivial, ?_⟩, ?_⟩, ?_⟩, ?_⟩
    · exact mS 1 7
    · exact owe_len rfl wA rfl (oO 0 57) nn_len Tryz.underlying22 rfl
    · exact b_sub_int wA (oO 1 58) (opnd_const _) (h := ⟨rfl, by omega, by omega⟩)
    · exact mO 2 59
  intro B11 a11 W11 (S11 : Sta w 86 [] [(10, (Is (.int .i64 ((((digs q2).length : Nat) : Int) - 1)))), (9, Is (.int .u64 0)), (7, ((NN (q2)) w.heap.size)), (8, Is (.bool a2')), (6, iV (e0 + 1))] _ _ _)
  refine wp_block ?_
  replace S11 : Sta w 86 [] [(10, (Is (.int .i64 ((((digs q2).length : Nat) : Int) - 1)))), (9, Is (.int .u64 ((q2 / 4294967296 ^ (digs q2).length : Nat) : Int))), (7, ((NN (q2)) w.heap.size)), (8, Is (.bool a2')), (6, iV (e0 + 1))] B11 a11 W11 := S11.change 1 rfl (top_is q2)
  refine wp_loop_ghost (fun (j : Nat) a W => (j ≤ (digs q2).length) ∧ ∃ Bq, Sta w 86 [] [(10, Is (.int .i64 (((j : Nat) : Int) - 1))), (9, Is (.int .u64 ((q2 / 4294967296 ^ j : Nat) : Int))), (7, ((NN (q2)) w.heap.size)), (8, Is (.bool a2')), (6, iV (e0 + 1))] Bq a W) (fun (j : Nat) => j) ?_ (digs q2).length ⟨Nat.le_refl _, B11, S11.sub [] [0, 1, 2, 3, 4]⟩
  rintro j a12 W12 ⟨hcond, B12, S12⟩
  by_cases hj : 0 < j
  · obtain ⟨i0, rfl⟩ : ∃ i0, j = i0 + 1 := ⟨j - 1, by omega⟩
    rw [show (((i0 + 1 : Nat) : Int)) - 1 = ((i0 : Nat) : Int) by omega] at S12
    obtain ⟨d0, hd, hd1, hd2⟩ := top_step q2 i0 (by omega)
    have htl := topq_le q2 i0
    refine wp_seq ?_
    refine wp_stmt_seq [.val (iV ((i0 : Nat) : Int)), kT] [] [.inl 1, .inr 0, .inr 1, .inr 2, .inr 3, .inr 4] follows S12 rfl (by kernel_rfl) ?_ ?_
    · refine ⟨⟨trivial, ?_⟩, ?_⟩
      · exact mS 0 10
      · exact b_geq_int_t wA (oO 0 60) (opnd_const _)
    intro B13 a13 W13 (S13 : Sta w 86 [] [(61, bT), (10, iV ((i0 : Nat) : Int)), (9, Is (.int .u64 ((q2 / 4294967296 ^ (i0 + 1) : Nat) : Int))), (7, ((NN (q2)) w.heap.size)), (8, Is (.bool a2')), (6, iV (e0 + 1))] _ _ _)
    refine wp_cond_true (S13.bool 0 61 rfl) ?_
    refine wp_skip ?_
    refine thenN ?_
    refine wp_seq ?_
    refine wp_block ?_
    refine wp_stmt [.val (Is (.int .u64 ((q2 / 4294967296 ^ (i0 + 1) : Nat) : Int))), .val (Is (.int .u64 ((q2 / 4294967296 ^ (i0 + 1) * 4294967296 : Nat) : Int))), .val ((NN (q2)) w.heap.size), .val (iV ((i0 : Nat) : Int)), .val (AtE 1 (Is (.int .u32 ((d0 : Nat) : Int)))), .val (Is (.int .u32 ((d0 : Nat) : Int))), .val (Is (.int .u64 ((d0 : Nat) : Int))), .val (Is (.int .u64 ((q2 / 4294967296 ^ i0 : Nat) : Int))), .val (Is (.int .u64 ((q2 / 4294967296 ^ i0 : Nat) : Int)))] [] [.inl 8, .inr 1, .inr 3, .inr 4, .inr 5] follows S13 rfl (by kernel_rfl) ?_ ?_
    · repeat' refine And.intro ?_ ?_
      · trivial
      · exact mS 2 9
      · exact owe_bin rfl wA rfl (oO 0 64) (opnd_const _) rfl (fun ρ w h1 h2 => by exact u_mul ρ _ _ _ w _ 4294967296 (by omega) h1 h2)
      · exact mS 3 7
      · exact mS 1 10
      · exact owe_aindex rfl wA rfl idx_us ((oO 2 66).imp nn_ar) (oO 3 67) (limb_get hd) rfl
      · exact owe_aload rfl wA rfl ldr_u1 (by decide) (cel_is rfl) (oO 4 68) rfl
      · exact owe_un (x := .tmp 69) rfl wA rfl (oO 5 69) rfl (fun ρ w h1 => by exact w_u64 ρ _ _ w d0 hd1 h1)
      · exact owe_bin rfl wA rfl (oO 1 65) (oO 6 70) rfl (fun ρ w h1 h2 => by rw [← hd2]; exact u_add ρ _ _ _ w _ d0 (by omega) h1 h2)
      · exact mO 7 71
    intro B14 a14 W14 (S14 : Sta w 86 [] [(9, Is (.int .u64 ((q2 / 4294967296 ^ i0 : Nat) : Int))), (10, iV ((i0 : Nat) : Int)), (7, ((NN (q2)) w.heap.size)), (8, Is (.bool a2')), (6, iV (e0 + 1))] _ _ _)
    refine inBlkN ?_
    refine thenN ?_
    refine wp_stmt [.val (iV ((i0 : Nat) : Int)), .val (Is (.int .i64 (((i0 : Nat) : Int) - 1))), .val (Is (.int .i64 (((i0 : Nat) : Int) - 1)))] [] [.inl 2, .inr 0, .inr 2, .inr 3, .inr 4] follows S14 rfl (by kernel_rfl) ?_ ?_
    · refine ⟨⟨⟨trivial, ?_⟩, ?_⟩, ?_⟩
      · exact mS 1 10
      · exact b_sub_int wA (oO 0 62) (opnd_const _) (h := ⟨rfl, by omega, by omega⟩)
      · exact mO 1 63
    intro B15 a15 W15 (S15 : Sta w 86 [] [(10, Is (.int .i64 (((i0 : Nat) : Int) - 1))), (9, Is (.int .u64 ((q2 / 4294967296 ^ i0 : Nat) : Int))), (7, ((NN (q2)) w.heap.size)), (8, Is (.bool a2')), (6, iV (e0 + 1))] _ _ _)
    refine thenN ?_
    exact ⟨i0, ⟨by omega, B15, S15.sub [] [0, 1, 2, 3, 4]⟩, by omega⟩
  · have ej : j = 0 := by omega
    subst ej
    rw [Nat.pow_zero, Nat.div_one] at S12
    refine wp_seq ?_
    refine wp_stmt_seq [.val (Is (.int .i64 (((0 : Nat) : Int) - 1))), kF] [] [.inl 1, .inr 0, .inr 1, .inr 2, .inr 3, .inr 4] follows S12 rfl (by kernel_rfl) ?_ ?_
    · refine ⟨⟨trivial, ?_⟩, ?_⟩
      · exact mS 0 10
      · exact b_geq_int_f wA (oO 0 60) (opnd_const _)
    intro B13 a13 W13 (S13 : Sta w 86 [] [(61, bF), (10, Is (.int .i64 (((0 : Nat) : Int) - 1))), (9, Is (.int .u64 ((q2 : Nat) : Int))), (7, ((NN (q2)) w.heap.size)), (8, Is (.bool a2')), (6, iV (e0 + 1))] _ _ _)
    refine wp_cond_false (S13.bool 0 61 rfl) ?_
    refine wp_exit ?_
    refine thenX ?_
    refine thenX ?_
    refine inBlkE ?_
    refine thenN ?_
    refine wp_seq ?_
    refine wp_stmt_seq [.val (Is (.int .u64 ((q2 : Nat) : Int))), kF] [] [.inl 1, .inr 1, .inr 2, .inr 3, .inr 4, .inr 5] follows S13 rfl (by kernel_rfl) ?_ ?_
    · refine ⟨⟨trivial, ?_⟩, ?_⟩
      · exact mS 2 9
      · exact owe_bin rfl wA rfl (oO 0 72) (opnd_const _) rfl (fun ρ w h1 h2 => by exact u_lss_f ρ _ _ _ w _ _ (by omega) h1 h2)
    intro B14 a14 W14 (S14 : Sta w 86 [] [(73, bF), (10, Is (.int .i64 (((0 : Nat) : Int) - 1))), (9, Is (.int .u64 ((q2 : Nat) : Int))), (7, ((NN (q2)) w.heap.size)), (8, Is (.bool a2')), (6, iV (e0 + 1))] _ _ _)
    refine wp_cond_false (S14.bool 0 73 rfl) ?_
    refine wp_skip ?_
    refine thenN ?_
    refine wp_stmt_seq [.val (iV (e0 + 1)), .val (Is (.int .i64 (((L + 1) : Nat) : Int))), .val (Is (.int .u64 (((L + 1) : Nat) : Int))), .val (Is (.int .u64 (((L + 1) * 4503599627370496 : Nat) : Int))), .val (Is (.int .u64 ((q2 : Nat) : Int))), .val (Is (.int .u64 (((L + 1) * 4503599627370496 + q2 : Nat) : Int))), .val (Is (.int .u64 ((L * 4503599627370496 + q2 : Nat) : Int))), .val (FL (some ((L * 4503599627370496 + q2 : Nat) : Int))), .val (Is (.bool a2')), .val (FL (some ((L * 4503599627370496 + q2 : Nat) : Int))), .val (Is (.bool a2'))] [] [.inl 9, .inl 10, .inr 1, .inr 2, .inr 3, .inr 4, .inr 5] follows S14 rfl (by kernel_rfl) ?_ ?_
    · repeat' refine And.intro ?_ ?_
      · trivial
      · exact mS 5 6
      · exact b_add_int wA (oO 0 77) (opnd_const _)
      · exact owe_un (x := .tmp 78) rfl wA rfl (oO 1 78) rfl (fun ρ w h1 => by exact i_u64 ρ _ _ w (L + 1) (by omega) h1)
      · exact owe_bin rfl wA rfl (oO 2 79) (opnd_const _) rfl (fun ρ w h1 h2 => by exact u_mul ρ _ _ _ w (L + 1) 4503599627370496 (by omega) h1 h2)
      · exact mS 2 9
      · exact owe_bin rfl wA rfl (oO 3 80) (oO 4 81) rfl (fun ρ w h1 h2 => by exact u_add ρ _ _ _ w _ q2 (by omega) h1 h2)
      · exact owe_bin rfl wA rfl (oO 5 82) (opnd_const _) rfl (fun ρ w h1 h2 => by exact u_sub ρ _ _ _ w _ 4503599627370496 _ (by omega) (by omega) h1 h2)
      · exact cc1 wA (qO 6 83 rfl) (fresh_fl _) (of_at (m := L * 4503599627370496 + q2) (by omega))
      · exact mS 4 8
      · exact mO 7 84
      · exact mO 8 85
    intro B15 a15 W15 (S15 : Sta w 86 [] [(4, (FL (some ((L * 4503599627370496 + q2 : Nat) : Int)))), (5, Is (.bool a2')), (10, Is (.int .i64 (((0 : Nat) : Int) - 1))), (9, Is (.int .u64 ((q2 : Nat) : Int))), (7, ((NN (q2)) w.heap.size)), (8, Is (.bool a2')), (6, iV (e0 + 1))] _ _ _)
    refine wp_ret ?_
    exact end_two S15 rfl (res_tmp S15 0 4 rfl) (res_tmp S15 1 5 rfl)
end Go.Proofs.YtgalppimdmjdcaaGreatDoor

/-
  The document's below answers the greatest float that is not above.
-/
namespace Go.Proofs.YtgalppimdmjdcaaGreatDoor
open Go Go.RowKit Nt
set_option linter.unusedSimpArgs false
set_option linter.unusedVariables false
set_option maxRecDepth 20000

theorem bl_most {m k : Nat} (h : (digs m).length ≤ k) : Go.bitLen m ≤ 32 * k := by
  apply Classical.byContradiction
  intro hc
  have h1 := bl_gt.1 (show 32 * k < Go.bitLen m by omega)
  have h2 := lt_pow_digs m
  have h3 : 4294967296 ^ (digs m).length ≤ 4294967296 ^ k := Nat.pow_le_pow_right (by decide) h
  rw [show (4294967296 : Nat) = 2 ^ 32 from rfl, ← Nat.pow_mul, ← Nat.pow_mul] at h3
  rw [show (4294967296 : Nat) = 2 ^ 32 from rfl, ← Nat.pow_mul] at h2
  omega
theorem two_limbs {q : Nat} (h : q < 18014398509481984) : (digs q).length ≤ 2 := digs_length_le (by
  have : (4294967296 : Nat) ^ 2 = 18446744073709551616 := by decide
  omega)
theorem bl_53 {q : Nat} (h1 : 4503599627370496 ≤ q) (h2 : q < 9007199254740992) : Go.bitLen q = 53 := by
  have a := bl_gt (n := q) (k := 52)
  have b := bl_gt (n := q) (k := 53)
  rw [show (2 : Nat) ^ 52 = 4503599627370496 from rfl] at a
  rw [show (2 : Nat) ^ 53 = 9007199254740992 from rfl] at b
  have := a.2 h1
  have := fun h => b.1 h
  omega
theorem h_below {N M kn km r : Nat} {a : Bool} (hN : N ≠ 0) (hM : M ≠ 0) (bn : kn ≤ 2097152) (bm : km ≤ 2097152) (h : IsFl N M r a) : ∀ w u v, Nv N kn u w → Nv M km v w → Calls Tryz.prog 24 #[u, v] w (Gives (TWO (FLN (some ((r : Nat) : Int))) (IS (.bool a))) w) := fun w u v h1 h2 => by
  have l1 := bl_most (nv_len h1)
  have l2 := bl_most (nv_len h2)
  obtain ⟨bN, eN⟩ : ∃ b, Go.bitLen N = b := ⟨_, rfl⟩
  obtain ⟨bM, eM⟩ : ∃ b, Go.bitLen M = b := ⟨_, rfl⟩
  rw [eN] at l1
  rw [eM] at l2
  have cut : ∀ L : Nat, L ≤ 90000000 → ∀ e : Int, e = (L : Int) - 1074 → ∀ w u v x, Nv N kn u w → Nv M km v w → Is (.int .i64 e) x w → Calls Tryz.prog 51 #[u, v, x] w (Gives (TWO (NN (ctQ N M L)) (IS (.bool (ctR N M L)))) w) := fun L hL e he => h_cut he hM bn bm hL
  by_cases he : ((bN : Nat) : Int) - ((bM : Nat) : Int) - 53 < -1074
  · have hs := ct_small (N := N) hM (by rw [eN, eM]; omega)
    have fl := ct_isfl (N := N) (L := 0) hM hs (Or.inl rfl)
    have o := h.one (fl.1 (by omega))
    rw [o.1, o.2]
    by_cases hq : ctQ N M 0 < 4503599627370496
    · have hb : Go.bitLen (ctQ N M 0) < 53 := by
        have a := bl_gt (n := ctQ N M 0) (k := 52)
        rw [show (2 : Nat) ^ 52 = 4503599627370496 from rfl] at a
        have := fun h => a.1 h
        omega
      have := below_S w N M kn km u v (nv_has h1) (nv_has h2) bn bm bN bM eN eM (by omega) (by omega) _ rfl he (ctQ N M 0) (ctR N M 0) (two_limbs (by omega)) (cut 0 (by decide) _ (by decide)) hq hb
      rw [Nat.zero_mul, Nat.zero_add]
      exact this
    · exact below_T w N M kn km u v (nv_has h1) (nv_has h2) bn bm bN bM eN eM (by omega) (by omega) _ rfl 0 rfl he (ctQ N M 0) (ctR N M 0) (two_limbs (by omega)) (cut 0 (by decide) _ (by decide)) (by omega) (bl_53 (by omega) hs) hs
  · obtain ⟨L, hL⟩ : ∃ L : Nat, ((bN : Nat) : Int) - ((bM : Nat) : Int) - 53 = (L : Int) - 1074 := ⟨(((bN : Nat) : Int) - ((bM : Nat) : Int) - 53 + 1074).toNat, by omega⟩
    obtain ⟨g1, g2⟩ := ct_guess (L := L) hN hM (by rw [eN, eM]; omega)
    by_cases hq : ctQ N M L < 9007199254740992
    · have fl := ct_isfl hM hq (Or.inr g1)
      by_cases g9 : 971 < ((bN : Nat) : Int) - ((bM : Nat) : Int) - 53
      · have o := h.one (fl.2 (by omega))
        rw [o.1, o.2]
        exact below_Ng w N M kn km u v (nv_has h1) (nv_has h2) bn bm bN bM eN eM (by omega) (by omega) _ rfl L hL (by omega) (ctQ N M L) (ctR N M L) (two_limbs g2) (cut L (by omega) _ hL) g1 (bl_53 g1 hq) hq g9
      · have o := h.one (fl.1 (by omega))
        rw [o.1, o.2]
        exact below_Nn w N M kn km u v (nv_has h1) (nv_has h2) bn bm bN bM eN eM (by omega) (by omega) _ rfl L hL (by omega) (ctQ N M L) (ctR N M L) (two_limbs g2) (cut L (by omega) _ hL) g1 (bl_53 g1 hq) hq (by omega)
    · have hb : 53 < Go.bitLen (ctQ N M L) := bl_gt.2 (by rw [show (2 : Nat) ^ 53 = 9007199254740992 from rfl]; omega)
      have e2 := ct_step N M L
      have k1 : 4503599627370496 ≤ ctQ N M (L + 1) := by omega
      have k2 : ctQ N M (L + 1) < 9007199254740992 := by omega
      have fl := ct_isfl hM k2 (Or.inr k1)
      by_cases g9 : 971 < ((bN : Nat) : Int) - ((bM : Nat) : Int) - 53 + 1
      · have o := h.one (fl.2 (by omega))
        rw [o.1, o.2]
        exact below_Pg w N M kn km u v (nv_has h1) (nv_has h2) bn bm bN bM eN eM (by omega) (by omega) _ rfl (L + 1) (by omega) (by omega) (ctQ N M L) (ctR N M L) (two_limbs g2) (cut L (by omega) _ hL) (ctQ N M (L + 1)) (ctR N M (L + 1)) (two_limbs (by omega)) (cut (L + 1) (by omega) _ (by omega)) hb k1 (bl_53 k1 k2) k2 g9
      · have o := h.one (fl.1 (by omega))
        rw [o.1, o.2]
        exact below_Pn w N M kn km u v (nv_has h1) (nv_has h2) bn bm bN bM eN eM (by omega) (by omega) _ rfl (L + 1) (by omega) (by omega) (ctQ N M L) (ctR N M L) (two_limbs g2) (cut L (by omega) _ hL) (ctQ N M (L + 1)) (ctR N M (L + 1)) (two_limbs (by omega)) (cut (L + 1) (by omega) _ (by omega)) hb k1 (bl_53 k1 k2) k2 (by omega)
/-- There is such a float. -/
theorem isfl_ex {N M : Nat} (hN : N ≠ 0) (hM : M ≠ 0) : ∃ r a, IsFl N M r a := by
  have use : ∀ L, ctQ N M L < 9007199254740992 → (L = 0 ∨ 4503599627370496 ≤ ctQ N M L) → ∃ r a, IsFl N M r a := fun L h1 h2 => by
    have fl := ct_isfl hM h1 h2
    by_cases hP : L * 4503599627370496 + ctQ N M L < 9218868437227405312
    · exact ⟨_, _, fl.1 hP⟩
    · exact ⟨_, _, fl.2 (by omega)⟩
  by_cases he : Go.bitLen N + 1074 < Go.bitLen M + 53
  · exact use 0 (ct_small hM he) (Or.inl rfl)
  · obtain ⟨L, hL⟩ : ∃ L, L + Go.bitLen M + 53 = Go.bitLen N + 1074 := ⟨Go.bitLen N + 1074 - (Go.bitLen M + 53), by omega⟩
    obtain ⟨g1, g2⟩ := ct_guess hN hM hL
    by_cases hq : ctQ N M L < 9007199254740992
    · exact use L hq (Or.inr g1)
    · have e2 := ct_step N M L
      exact use (L + 1) (by omega) (Or.inr (by omega))
end Go.Proofs.YtgalppimdmjdcaaGreatDoor
