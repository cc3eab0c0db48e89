/-
  Orders of intervals, and what they hold; IvalOrders.
-/
import Derived.Test.YtgalppimdmjdcaaGreatFOrd
import Derived.Test.YtgalppimdmjdcaaGreatIStep
import Derived.Test.YtgalppimdmjdcaaGreatJoins
namespace Go.Proofs.YtgalppimdmjdcaaGreat
open Go Go.RowKit Nt
set_option linter.unusedSimpArgs false
set_option linter.unusedVariables false
set_option maxRecDepth 20000

theorem sgn_pos {D : Nat} (h : D ≠ 0) : 0 < ((D : Nat) : Int).sign := by rw [Int.sign_eq_one_of_pos (by omega)]; decide
theorem sgn_not {D : Int} (h : D ≤ 0) : D.sign ≤ 0 := by
  rcases Int.lt_or_eq_of_le h with h | rfl
  · rw [Int.sign_eq_neg_one_of_neg h]; decide
  · decide

theorem run_geq_int_d (ρ : Operand → Value) (o : Oper) (x y : Operand) (w : World) (a b : Int) (h1 : ρ x = .int .i64 a) (h2 : ρ y = .int .i64 b) : (execOp ρ { o with op := .binOp .geq 3 x y 3 }).run Tryz.prog w = .ok (.value (.bool (decide (b ≤ a)))) w := by
  by_cases h : b ≤ a
  · rw [decide_eq_true h]
    unfold execOp
    go_simp
  · rw [decide_eq_false h]
    have h' : a < b := by omega
    clear h
    unfold execOp
    go_simp
set_option maxHeartbeats 400000 in
theorem icmp_tf (w : World) (x y x1 y1 : Nat) (hx : x < 18446744073709551616) (hy : y < 18446744073709551616) (hx1 : x1 < 18446744073709551616) (hy1 : y1 < 18446744073709551616) (h : okI x y = true) (h' : okI x1 y1 = false) :
    Calls Tryz.prog 27 #[(.agg #[.float .f64 x, .float .f64 y]), (.agg #[.float .f64 x1, .float .f64 y1])] w (Gives (THREE (IS (.int .i64 0)) (IS (.bool false)) (IS (.int .i64 90))) w) := by
  refine calls_sta (sl := [(0, (SF [(Is (.float .f64 x)), (Is (.float .f64 y))])), (1, (SF [(Is (.float .f64 x1)), (Is (.float .f64 y1))]))]) Tryz.func27 rfl Tryz.ntmps27 (by simp) (args_cons rfl (ix_has) (args_cons rfl (ix_has) args_nil)) ?_
  intro a0 S0
  refine wp_stmt_seq [.new (.box 38 (SF [(Is (.float .f64 x)), (Is (.float .f64 y))])), .new (.box 38 (SF [(Is (.float .f64 x1)), (Is (.float .f64 y1))])), .val (iV 0), kF, .val (iV 0)] [.inl 0, .inl 1] [] follows S0 rfl (by kernel_rfl) ?_ ?_
  · refine ⟨⟨⟨⟨⟨trivial, ?_⟩, ?_⟩, ?_⟩, ?_⟩, ?_⟩
    · exact owe_box rfl wA rfl (oS 0 0) rfl (fun ρ w h => box_ival shp_iv ρ _ _ w h)
    · exact owe_box rfl wA rfl (oS 1 1) rfl (fun ρ w h => box_ival shp_iv ρ _ _ w h)
    · exact mC
    · exact mC
    · exact mC
  intro B1 a1 W1 (S1 : Sta w 42 [(2, (.box 38 (SF [(Is (.float .f64 x)), (Is (.float .f64 y))]))), (3, (.box 38 (SF [(Is (.float .f64 x1)), (Is (.float .f64 y1))])))] [] _ _ _)
  refine wp_seq ?_
  refine wp_stmt_seq [.val (SF [(Is (.float .f64 x)), (Is (.float .f64 y))]), .val (SF [(Is (.float .f64 x1)), (Is (.float .f64 y1))]), .val (iV 90), .val (iV 90)] [.inr 0, .inr 1] [.inl 3] follows S1 rfl (by kernel_rfl) ?_ ?_
  · refine ⟨⟨⟨⟨trivial, ?_⟩, ?_⟩, ?_⟩, ?_⟩
    · exact lod 0 wA (loads_of strct_ival shp_iv)
    · exact lod 1 wA (loads_of strct_ival shp_iv)
    · exact cc2 wA (qO 0 8 rfl) (qO 1 9 rfl) (fresh_is _) (ix2 (fun w => ivalid2_tf w x y x1 y1 hx hy hx1 hy1 h h'))
    · exact mO 2 10
  intro B2 a2 W2 (S2 : Sta w 42 [(2, (.box 38 (SF [(Is (.float .f64 x)), (Is (.float .f64 y))]))), (3, (.box 38 (SF [(Is (.float .f64 x1)), (Is (.float .f64 y1))])))] [(7, iV 90)] _ _ _)
  refine wp_stmt_seq [.val (iV 90), kT] [.inr 0, .inr 1] [.inl 1, .inr 0] follows S2 rfl (by kernel_rfl) ?_ ?_
  · refine ⟨⟨trivial, ?_⟩, ?_⟩
    · exact mS 0 7
    · exact b_neq_errno_t wA (oO 0 11) (opnd_const _) (h := by decide)
  intro B3 a3 W3 (S3 : Sta w 42 [(2, (.box 38 (SF [(Is (.float .f64 x)), (Is (.float .f64 y))]))), (3, (.box 38 (SF [(Is (.float .f64 x1)), (Is (.float .f64 y1))])))] [(12, bT), (7, iV 90)] _ _ _)
  refine wp_cond_true (S3.bool 0 12 rfl) ?_
  refine wp_stmt_seq [.val (iV 90), .val (iV 0), kF, .val (iV 90)] [.inr 0, .inr 1] [.inl 1, .inl 2, .inl 3] follows S3 rfl (by kernel_rfl) ?_ ?_
  · refine ⟨⟨⟨⟨trivial, ?_⟩, ?_⟩, ?_⟩, ?_⟩
    · exact mS 1 7
    · exact mC
    · exact mC
    · exact mO 0 13
  intro B4 a4 W4 (S4 : Sta w 42 [(2, (.box 38 (SF [(Is (.float .f64 x)), (Is (.float .f64 y))]))), (3, (.box 38 (SF [(Is (.float .f64 x1)), (Is (.float .f64 y1))])))] [(4, iV 0), (5, bF), (6, iV 90)] _ _ _)
  refine wp_ret ?_
  refine thenR ?_
  exact end_three S4 rfl (res_tmp S4 0 4 rfl) (res_tmp S4 1 5 rfl) (res_tmp S4 2 6 rfl)
set_option maxHeartbeats 400000 in
theorem icmp_f (w : World) (x y x1 y1 : Nat) (hx : x < 18446744073709551616) (hy : y < 18446744073709551616) (hx1 : x1 < 18446744073709551616) (hy1 : y1 < 18446744073709551616) (h : okI x y = false) :
    Calls Tryz.prog 27 #[(.agg #[.float .f64 x, .float .f64 y]), (.agg #[.float .f64 x1, .float .f64 y1])] w (Gives (THREE (IS (.int .i64 0)) (IS (.bool false)) (IS (.int .i64 90))) w) := by
  refine calls_sta (sl := [(0, (SF [(Is (.float .f64 x)), (Is (.float .f64 y))])), (1, (SF [(Is (.float .f64 x1)), (Is (.float .f64 y1))]))]) Tryz.func27 rfl Tryz.ntmps27 (by simp) (args_cons rfl (ix_has) (args_cons rfl (ix_has) args_nil)) ?_
  intro a0 S0
  refine wp_stmt_seq [.new (.box 38 (SF [(Is (.float .f64 x)), (Is (.float .f64 y))])), .new (.box 38 (SF [(Is (.float .f64 x1)), (Is (.float .f64 y1))])), .val (iV 0), kF, .val (iV 0)] [.inl 0, .inl 1] [] follows S0 rfl (by kernel_rfl) ?_ ?_
  · refine ⟨⟨⟨⟨⟨trivial, ?_⟩, ?_⟩, ?_⟩, ?_⟩, ?_⟩
    · exact owe_box rfl wA rfl (oS 0 0) rfl (fun ρ w h => box_ival shp_iv ρ _ _ w h)
    · exact owe_box rfl wA rfl (oS 1 1) rfl (fun ρ w h => box_ival shp_iv ρ _ _ w h)
    · exact mC
    · exact mC
    · exact mC
  intro B1 a1 W1 (S1 : Sta w 42 [(2, (.box 38 (SF [(Is (.float .f64 x)), (Is (.float .f64 y))]))), (3, (.box 38 (SF [(Is (.float .f64 x1)), (Is (.float .f64 y1))])))] [] _ _ _)
  refine wp_seq ?_
  refine wp_stmt_seq [.val (SF [(Is (.float .f64 x)), (Is (.float .f64 y))]), .val (SF [(Is (.float .f64 x1)), (Is (.float .f64 y1))]), .val (iV 90), .val (iV 90)] [.inr 0, .inr 1] [.inl 3] follows S1 rfl (by kernel_rfl) ?_ ?_
  · refine ⟨⟨⟨⟨trivial, ?_⟩, ?_⟩, ?_⟩, ?_⟩
    · exact lod 0 wA (loads_of strct_ival shp_iv)
    · exact lod 1 wA (loads_of strct_ival shp_iv)
    · exact cc2 wA (qO 0 8 rfl) (qO 1 9 rfl) (fresh_is _) (ix2 (fun w => ivalid2_f w x y x1 y1 hx hy hx1 hy1 h))
    · exact mO 2 10
  intro B2 a2 W2 (S2 : Sta w 42 [(2, (.box 38 (SF [(Is (.float .f64 x)), (Is (.float .f64 y))]))), (3, (.box 38 (SF [(Is (.float .f64 x1)), (Is (.float .f64 y1))])))] [(7, iV 90)] _ _ _)
  refine wp_stmt_seq [.val (iV 90), kT] [.inr 0, .inr 1] [.inl 1, .inr 0] follows S2 rfl (by kernel_rfl) ?_ ?_
  · refine ⟨⟨trivial, ?_⟩, ?_⟩
    · exact mS 0 7
    · exact b_neq_errno_t wA (oO 0 11) (opnd_const _) (h := by decide)
  intro B3 a3 W3 (S3 : Sta w 42 [(2, (.box 38 (SF [(Is (.float .f64 x)), (Is (.float .f64 y))]))), (3, (.box 38 (SF [(Is (.float .f64 x1)), (Is (.float .f64 y1))])))] [(12, bT), (7, iV 90)] _ _ _)
  refine wp_cond_true (S3.bool 0 12 rfl) ?_
  refine wp_stmt_seq [.val (iV 90), .val (iV 0), kF, .val (iV 90)] [.inr 0, .inr 1] [.inl 1, .inl 2, .inl 3] follows S3 rfl (by kernel_rfl) ?_ ?_
  · refine ⟨⟨⟨⟨trivial, ?_⟩, ?_⟩, ?_⟩, ?_⟩
    · exact mS 1 7
    · exact mC
    · exact mC
    · exact mO 0 13
  intro B4 a4 W4 (S4 : Sta w 42 [(2, (.box 38 (SF [(Is (.float .f64 x)), (Is (.float .f64 y))]))), (3, (.box 38 (SF [(Is (.float .f64 x1)), (Is (.float .f64 y1))])))] [(4, iV 0), (5, bF), (6, iV 90)] _ _ _)
  refine wp_ret ?_
  refine thenR ?_
  exact end_three S4 rfl (res_tmp S4 0 4 rfl) (res_tmp S4 1 5 rfl) (res_tmp S4 2 6 rfl)

theorem eq_ff {p q r s : Int} (h : ¬ (p = q ∧ r = s)) : (ordP (some p) (some q) == some .eq && ordP (some r) (some s) == some .eq) = false := by
  by_cases h1 : p = q
  · rw [eq_f (fun h2 => h ⟨h1, h2⟩), Bool.and_false]
  · rw [eq_f h1, Bool.false_and]
set_option maxHeartbeats 400000 in
theorem icmp_L (w : World) (x y x1 y1 : Nat) (hx : x < 18446744073709551616) (hy : y < 18446744073709551616) (hx1 : x1 < 18446744073709551616) (hy1 : y1 < 18446744073709551616) (h : okI x y = true) (h' : okI x1 y1 = true) (px py qx qy : Int) (hpx : plc x = some px) (hpy : plc y = some py) (hqx : plc x1 = some qx) (hqy : plc y1 = some qy) (g1 : py < qx) :
    Calls Tryz.prog 27 #[(.agg #[.float .f64 x, .float .f64 y]), (.agg #[.float .f64 x1, .float .f64 y1])] w (Gives (THREE (IS (.int .i64 (-1))) (IS (.bool true)) (IS (.int .i64 0))) w) := by
  refine calls_sta (sl := [(0, (SF [(Is (.float .f64 x)), (Is (.float .f64 y))])), (1, (SF [(Is (.float .f64 x1)), (Is (.float .f64 y1))]))]) Tryz.func27 rfl Tryz.ntmps27 (by simp) (args_cons rfl (ix_has) (args_cons rfl (ix_has) args_nil)) ?_
  intro a0 S0
  refine wp_stmt_seq [.new (.box 38 (SF [(Is (.float .f64 x)), (Is (.float .f64 y))])), .new (.box 38 (SF [(Is (.float .f64 x1)), (Is (.float .f64 y1))])), .val (iV 0), kF, .val (iV 0)] [.inl 0, .inl 1] [] follows S0 rfl (by kernel_rfl) ?_ ?_
  · refine ⟨⟨⟨⟨⟨trivial, ?_⟩, ?_⟩, ?_⟩, ?_⟩, ?_⟩
    · exact owe_box rfl wA rfl (oS 0 0) rfl (fun ρ w h => box_ival shp_iv ρ _ _ w h)
    · exact owe_box rfl wA rfl (oS 1 1) rfl (fun ρ w h => box_ival shp_iv ρ _ _ w h)
    · exact mC
    · exact mC
    · exact mC
  intro B1 a1 W1 (S1 : Sta w 42 [(2, (.box 38 (SF [(Is (.float .f64 x)), (Is (.float .f64 y))]))), (3, (.box 38 (SF [(Is (.float .f64 x1)), (Is (.float .f64 y1))])))] [] _ _ _)
  refine wp_seq ?_
  refine wp_stmt_seq [.val (SF [(Is (.float .f64 x)), (Is (.float .f64 y))]), .val (SF [(Is (.float .f64 x1)), (Is (.float .f64 y1))]), .val (iV 0), .val (iV 0)] [.inr 0, .inr 1] [.inl 3] follows S1 rfl (by kernel_rfl) ?_ ?_
  · refine ⟨⟨⟨⟨trivial, ?_⟩, ?_⟩, ?_⟩, ?_⟩
    · exact lod 0 wA (loads_of strct_ival shp_iv)
    · exact lod 1 wA (loads_of strct_ival shp_iv)
    · exact cc2 wA (qO 0 8 rfl) (qO 1 9 rfl) (fresh_is _) (ix2 (fun w => ivalid2_tt w x y x1 y1 hx hy hx1 hy1 h h'))
    · exact mO 2 10
  intro B2 a2 W2 (S2 : Sta w 42 [(2, (.box 38 (SF [(Is (.float .f64 x)), (Is (.float .f64 y))]))), (3, (.box 38 (SF [(Is (.float .f64 x1)), (Is (.float .f64 y1))])))] [(7, iV 0)] _ _ _)
  refine wp_stmt_seq [.val (iV 0), kF] [.inr 0, .inr 1] [.inl 1, .inr 0] follows S2 rfl (by kernel_rfl) ?_ ?_
  · refine ⟨⟨trivial, ?_⟩, ?_⟩
    · exact mS 0 7
    · exact b_neq_errno_f wA (oO 0 11) (opnd_const _) (h := by decide)
  intro B3 a3 W3 (S3 : Sta w 42 [(2, (.box 38 (SF [(Is (.float .f64 x)), (Is (.float .f64 y))]))), (3, (.box 38 (SF [(Is (.float .f64 x1)), (Is (.float .f64 y1))])))] [(12, bF), (7, iV 0)] _ _ _)
  refine wp_cond_false (S3.bool 0 12 rfl) ?_
  refine wp_skip ?_
  refine thenN ?_
  refine wp_seq ?_
  refine wp_block ?_
  refine wp_stmt_seq [.val (Part a3 2 1), .val (Is (.float .f64 y)), .val (Part a3 3 0), .val (Is (.float .f64 x1)), kT, kT] [.inr 0, .inr 1] [.inl 5] follows S3 rfl (by kernel_rfl) ?_ ?_
  · refine ⟨⟨⟨⟨⟨⟨trivial, ?_⟩, ?_⟩, ?_⟩, ?_⟩, ?_⟩, ?_⟩
    · exact owe_part rfl wA rfl (k := 0) rfl (by kernel_rfl) rfl (fun ρ w b h => part_ival1 ρ _ _ w b 0 h)
    · exact owe_pload rfl wA rfl (oO 0 15) (k := 0) rfl (by kernel_rfl) rfl (fun ρ w b u h1 h2 h3 => ploadI rfl load1_f64 ρ _ _ w b u h1 h2 h3)
    · exact owe_part rfl wA rfl (k := 1) rfl (by kernel_rfl) rfl (fun ρ w b h => part_ival0 ρ _ _ w b 0 h)
    · exact owe_pload rfl wA rfl (oO 2 17) (k := 1) rfl (by kernel_rfl) rfl (fun ρ w b u h1 h2 h3 => ploadI rfl load1_f64 ρ _ _ w b u h1 h2 h3)
    · exact owe_fcmp rfl wA rfl ((oO 1 16).imp (fl_is hy)) ((oO 3 18).imp (fl_is hx1)) (by rw [hpy, hqx]; exact lt_t g1) rfl
    · exact mO 4 19
  intro B4 a4 W4 (S4 : Sta w 42 [(2, (.box 38 (SF [(Is (.float .f64 x)), (Is (.float .f64 y))]))), (3, (.box 38 (SF [(Is (.float .f64 x1)), (Is (.float .f64 y1))])))] [(14, bT)] _ _ _)
  refine wp_cond_true (S4.bool 0 14 rfl) ?_
  refine wp_stmt_seq [.val (iV (-1)), kT, .val (iV 0)] [.inr 0, .inr 1] [.inl 0, .inl 1, .inl 2] follows S4 rfl (by kernel_rfl) ?_ ?_
  · refine ⟨⟨⟨trivial, ?_⟩, ?_⟩, ?_⟩
    · exact mC
    · exact mC
    · exact mC
  intro B5 a5 W5 (S5 : Sta w 42 [(2, (.box 38 (SF [(Is (.float .f64 x)), (Is (.float .f64 y))]))), (3, (.box 38 (SF [(Is (.float .f64 x1)), (Is (.float .f64 y1))])))] [(4, iV (-1)), (5, bT), (6, iV 0)] _ _ _)
  refine wp_ret ?_
  refine inBlkR ?_
  refine thenR ?_
  exact end_three S5 rfl (res_tmp S5 0 4 rfl) (res_tmp S5 1 5 rfl) (res_tmp S5 2 6 rfl)
set_option maxHeartbeats 400000 in
theorem icmp_G (w : World) (x y x1 y1 : Nat) (hx : x < 18446744073709551616) (hy : y < 18446744073709551616) (hx1 : x1 < 18446744073709551616) (hy1 : y1 < 18446744073709551616) (h : okI x y = true) (h' : okI x1 y1 = true) (px py qx qy : Int) (hpx : plc x = some px) (hpy : plc y = some py) (hqx : plc x1 = some qx) (hqy : plc y1 = some qy) (g1 : ¬ py < qx) (g2 : qy < px) :
    Calls Tryz.prog 27 #[(.agg #[.float .f64 x, .float .f64 y]), (.agg #[.float .f64 x1, .float .f64 y1])] w (Gives (THREE (IS (.int .i64 1)) (IS (.bool true)) (IS (.int .i64 0))) w) := by
  refine calls_sta (sl := [(0, (SF [(Is (.float .f64 x)), (Is (.float .f64 y))])), (1, (SF [(Is (.float .f64 x1)), (Is (.float .f64 y1))]))]) Tryz.func27 rfl Tryz.ntmps27 (by simp) (args_cons rfl (ix_has) (args_cons rfl (ix_has) args_nil)) ?_
  intro a0 S0
  refine wp_stmt_seq [.new (.box 38 (SF [(Is (.float .f64 x)), (Is (.float .f64 y))])), .new (.box 38 (SF [(Is (.float .f64 x1)), (Is (.float .f64 y1))])), .val (iV 0), kF, .val (iV 0)] [.inl 0, .inl 1] [] follows S0 rfl (by kernel_rfl) ?_ ?_
  · refine ⟨⟨⟨⟨⟨trivial, ?_⟩, ?_⟩, ?_⟩, ?_⟩, ?_⟩
    · exact owe_box rfl wA rfl (oS 0 0) rfl (fun ρ w h => box_ival shp_iv ρ _ _ w h)
    · exact owe_box rfl wA rfl (oS 1 1) rfl (fun ρ w h => box_ival shp_iv ρ _ _ w h)
    · exact mC
    · exact mC
    · exact mC
  intro B1 a1 W1 (S1 : Sta w 42 [(2, (.box 38 (SF [(Is (.float .f64 x)), (Is (.float .f64 y))]))), (3, (.box 38 (SF [(Is (.float .f64 x1)), (Is (.float .f64 y1))])))] [] _ _ _)
  refine wp_seq ?_
  refine wp_stmt_seq [.val (SF [(Is (.float .f64 x)), (Is (.float .f64 y))]), .val (SF [(Is (.float .f64 x1)), (Is (.float .f64 y1))]), .val (iV 0), .val (iV 0)] [.inr 0, .inr 1] [.inl 3] follows S1 rfl (by kernel_rfl) ?_ ?_
  · refine ⟨⟨⟨⟨trivial, ?_⟩, ?_⟩, ?_⟩, ?_⟩
    · exact lod 0 wA (loads_of strct_ival shp_iv)
    · exact lod 1 wA (loads_of strct_ival shp_iv)
    · exact cc2 wA (qO 0 8 rfl) (qO 1 9 rfl) (fresh_is _) (ix2 (fun w => ivalid2_tt w x y x1 y1 hx hy hx1 hy1 h h'))
    · exact mO 2 10
  intro B2 a2 W2 (S2 : Sta w 42 [(2, (.box 38 (SF [(Is (.float .f64 x)), (Is (.float .f64 y))]))), (3, (.box 38 (SF [(Is (.float .f64 x1)), (Is (.float .f64 y1))])))] [(7, iV 0)] _ _ _)
  refine wp_stmt_seq [.val (iV 0), kF] [.inr 0, .inr 1] [.inl 1, .inr 0] follows S2 rfl (by kernel_rfl) ?_ ?_
  · refine ⟨⟨trivial, ?_⟩, ?_⟩
    · exact mS 0 7
    · exact b_neq_errno_f wA (oO 0 11) (opnd_const _) (h := by decide)
  intro B3 a3 W3 (S3 : Sta w 42 [(2, (.box 38 (SF [(Is (.float .f64 x)), (Is (.float .f64 y))]))), (3, (.box 38 (SF [(Is (.float .f64 x1)), (Is (.float .f64 y1))])))] [(12, bF), (7, iV 0)] _ _ _)
  refine wp_cond_false (S3.bool 0 12 rfl) ?_
  refine wp_skip ?_
  refine thenN ?_
  refine wp_seq ?_
  refine wp_block ?_
  refine wp_stmt_seq [.val (Part a3 2 1), .val (Is (.float .f64 y)), .val (Part a3 3 0), .val (Is (.float .f64 x1)), kF, kF] [.inr 0, .inr 1] [.inl 5] follows S3 rfl (by kernel_rfl) ?_ ?_
  · refine ⟨⟨⟨⟨⟨⟨trivial, ?_⟩, ?_⟩, ?_⟩, ?_⟩, ?_⟩, ?_⟩
    · exact owe_part rfl wA rfl (k := 0) rfl (by kernel_rfl) rfl (fun ρ w b h => part_ival1 ρ _ _ w b 0 h)
    · exact owe_pload rfl wA rfl (oO 0 15) (k := 0) rfl (by kernel_rfl) rfl (fun ρ w b u h1 h2 h3 => ploadI rfl load1_f64 ρ _ _ w b u h1 h2 h3)
    · exact owe_part rfl wA rfl (k := 1) rfl (by kernel_rfl) rfl (fun ρ w b h => part_ival0 ρ _ _ w b 0 h)
    · exact owe_pload rfl wA rfl (oO 2 17) (k := 1) rfl (by kernel_rfl) rfl (fun ρ w b u h1 h2 h3 => ploadI rfl load1_f64 ρ _ _ w b u h1 h2 h3)
    · exact owe_fcmp rfl wA rfl ((oO 1 16).imp (fl_is hy)) ((oO 3 18).imp (fl_is hx1)) (by rw [hpy, hqx]; exact lt_f g1) rfl
    · exact mO 4 19
  intro B4 a4 W4 (S4 : Sta w 42 [(2, (.box 38 (SF [(Is (.float .f64 x)), (Is (.float .f64 y))]))), (3, (.box 38 (SF [(Is (.float .f64 x1)), (Is (.float .f64 y1))])))] [(14, bF)] _ _ _)
  refine wp_cond_false (S4.bool 0 14 rfl) ?_
  refine wp_stmt_seq [.val (Part a4 2 0), .val (Is (.float .f64 x)), .val (Part a4 3 1), .val (Is (.float .f64 y1)), kT, kT] [.inr 0, .inr 1] [.inl 5] follows S4 rfl (by kernel_rfl) ?_ ?_
  · refine ⟨⟨⟨⟨⟨⟨trivial, ?_⟩, ?_⟩, ?_⟩, ?_⟩, ?_⟩, ?_⟩
    · exact owe_part rfl wA rfl (k := 0) rfl (by kernel_rfl) rfl (fun ρ w b h => part_ival0 ρ _ _ w b 0 h)
    · exact owe_pload rfl wA rfl (oO 0 21) (k := 0) rfl (by kernel_rfl) rfl (fun ρ w b u h1 h2 h3 => ploadI rfl load1_f64 ρ _ _ w b u h1 h2 h3)
    · exact owe_part rfl wA rfl (k := 1) rfl (by kernel_rfl) rfl (fun ρ w b h => part_ival1 ρ _ _ w b 0 h)
    · exact owe_pload rfl wA rfl (oO 2 23) (k := 1) rfl (by kernel_rfl) rfl (fun ρ w b u h1 h2 h3 => ploadI rfl load1_f64 ρ _ _ w b u h1 h2 h3)
    · exact owe_fcmp rfl wA rfl ((oO 1 22).imp (fl_is hx)) ((oO 3 24).imp (fl_is hy1)) (by rw [hpx, hqy]; exact gt_t g2) rfl
    · exact mO 4 25
  intro B5 a5 W5 (S5 : Sta w 42 [(2, (.box 38 (SF [(Is (.float .f64 x)), (Is (.float .f64 y))]))), (3, (.box 38 (SF [(Is (.float .f64 x1)), (Is (.float .f64 y1))])))] [(20, bT)] _ _ _)
  refine wp_cond_true (S5.bool 0 20 rfl) ?_
  refine wp_stmt_seq [.val (iV 1), kT, .val (iV 0)] [.inr 0, .inr 1] [.inl 0, .inl 1, .inl 2] follows S5 rfl (by kernel_rfl) ?_ ?_
  · refine ⟨⟨⟨trivial, ?_⟩, ?_⟩, ?_⟩
    · exact mC
    · exact mC
    · exact mC
  intro B6 a6 W6 (S6 : Sta w 42 [(2, (.box 38 (SF [(Is (.float .f64 x)), (Is (.float .f64 y))]))), (3, (.box 38 (SF [(Is (.float .f64 x1)), (Is (.float .f64 y1))])))] [(4, iV 1), (5, bT), (6, iV 0)] _ _ _)
  refine wp_ret ?_
  refine inBlkR ?_
  refine thenR ?_
  exact end_three S6 rfl (res_tmp S6 0 4 rfl) (res_tmp S6 1 5 rfl) (res_tmp S6 2 6 rfl)
set_option maxHeartbeats 400000 in
theorem icmp_D (w : World) (x y x1 y1 : Nat) (hx : x < 18446744073709551616) (hy : y < 18446744073709551616) (hx1 : x1 < 18446744073709551616) (hy1 : y1 < 18446744073709551616) (h : okI x y = true) (h' : okI x1 y1 = true) (px py qx qy : Int) (hpx : plc x = some px) (hpy : plc y = some py) (hqx : plc x1 = some qx) (hqy : plc y1 = some qy) (g1 : ¬ py < qx) (g2 : ¬ qy < px) (g3 : ¬ (px = qx ∧ py = qy)) :
    Calls Tryz.prog 27 #[(.agg #[.float .f64 x, .float .f64 y]), (.agg #[.float .f64 x1, .float .f64 y1])] w (Gives (THREE (IS (.int .i64 0)) (IS (.bool false)) (IS (.int .i64 0))) w) := by
  refine calls_sta (sl := [(0, (SF [(Is (.float .f64 x)), (Is (.float .f64 y))])), (1, (SF [(Is (.float .f64 x1)), (Is (.float .f64 y1))]))]) Tryz.func27 rfl Tryz.ntmps27 (by simp) (args_cons rfl (ix_has) (args_cons rfl (ix_has) args_nil)) ?_
  intro a0 S0
  refine wp_stmt_seq [.new (.box 38 (SF [(Is (.float .f64 x)), (Is (.float .f64 y))])), .new (.box 38 (SF [(Is (.float .f64 x1)), (Is (.float .f64 y1))])), .val (iV 0), kF, .val (iV 0)] [.inl 0, .inl 1] [] follows S0 rfl (by kernel_rfl) ?_ ?_
  · refine ⟨⟨⟨⟨⟨trivial, ?_⟩, ?_⟩, ?_⟩, ?_⟩, ?_⟩
    · exact owe_box rfl wA rfl (oS 0 0) rfl (fun ρ w h => box_ival shp_iv ρ _ _ w h)
    · exact owe_box rfl wA rfl (oS 1 1) rfl (fun ρ w h => box_ival shp_iv ρ _ _ w h)
    · exact mC
    · exact mC
    · exact mC
  intro B1 a1 W1 (S1 : Sta w 42 [(2, (.box 38 (SF [(Is (.float .f64 x)), (Is (.float .f64 y))]))), (3, (.box 38 (SF [(Is (.float .f64 x1)), (Is (.float .f64 y1))])))] [] _ _ _)
  refine wp_seq ?_
  refine wp_stmt_seq [.val (SF [(Is (.float .f64 x)), (Is (.float .f64 y))]), .val (SF [(Is (.float .f64 x1)), (Is (.float .f64 y1))]), .val (iV 0), .val (iV 0)] [.inr 0, .inr 1] [.inl 3] follows S1 rfl (by kernel_rfl) ?_ ?_
  · refine ⟨⟨⟨⟨trivial, ?_⟩, ?_⟩, ?_⟩, ?_⟩
    · exact lod 0 wA (loads_of strct_ival shp_iv)
    · exact lod 1 wA (loads_of strct_ival shp_iv)
    · exact cc2 wA (qO 0 8 rfl) (qO 1 9 rfl) (fresh_is _) (ix2 (fun w => ivalid2_tt w x y x1 y1 hx hy hx1 hy1 h h'))
    · exact mO 2 10
  intro B2 a2 W2 (S2 : Sta w 42 [(2, (.box 38 (SF [(Is (.float .f64 x)), (Is (.float .f64 y))]))), (3, (.box 38 (SF [(Is (.float .f64 x1)), (Is (.float .f64 y1))])))] [(7, iV 0)] _ _ _)
  refine wp_stmt_seq [.val (iV 0), kF] [.inr 0, .inr 1] [.inl 1, .inr 0] follows S2 rfl (by kernel_rfl) ?_ ?_
  · refine ⟨⟨trivial, ?_⟩, ?_⟩
    · exact mS 0 7
    · exact b_neq_errno_f wA (oO 0 11) (opnd_const _) (h := by decide)
  intro B3 a3 W3 (S3 : Sta w 42 [(2, (.box 38 (SF [(Is (.float .f64 x)), (Is (.float .f64 y))]))), (3, (.box 38 (SF [(Is (.float .f64 x1)), (Is (.float .f64 y1))])))] [(12, bF), (7, iV 0)] _ _ _)
  refine wp_cond_false (S3.bool 0 12 rfl) ?_
  refine wp_skip ?_
  refine thenN ?_
  refine wp_seq ?_
  refine wp_block ?_
  refine wp_stmt_seq [.val (Part a3 2 1), .val (Is (.float .f64 y)), .val (Part a3 3 0), .val (Is (.float .f64 x1)), kF, kF] [.inr 0, .inr 1] [.inl 5] follows S3 rfl (by kernel_rfl) ?_ ?_
  · refine ⟨⟨⟨⟨⟨⟨trivial, ?_⟩, ?_⟩, ?_⟩, ?_⟩, ?_⟩, ?_⟩
    · exact owe_part rfl wA rfl (k := 0) rfl (by kernel_rfl) rfl (fun ρ w b h => part_ival1 ρ _ _ w b 0 h)
    · exact owe_pload rfl wA rfl (oO 0 15) (k := 0) rfl (by kernel_rfl) rfl (fun ρ w b u h1 h2 h3 => ploadI rfl load1_f64 ρ _ _ w b u h1 h2 h3)
    · exact owe_part rfl wA rfl (k := 1) rfl (by kernel_rfl) rfl (fun ρ w b h => part_ival0 ρ _ _ w b 0 h)
    · exact owe_pload rfl wA rfl (oO 2 17) (k := 1) rfl (by kernel_rfl) rfl (fun ρ w b u h1 h2 h3 => ploadI rfl load1_f64 ρ _ _ w b u h1 h2 h3)
    · exact owe_fcmp rfl wA rfl ((oO 1 16).imp (fl_is hy)) ((oO 3 18).imp (fl_is hx1)) (by rw [hpy, hqx]; exact lt_f g1) rfl
    · exact mO 4 19
  intro B4 a4 W4 (S4 : Sta w 42 [(2, (.box 38 (SF [(Is (.float .f64 x)), (Is (.float .f64 y))]))), (3, (.box 38 (SF [(Is (.float .f64 x1)), (Is (.float .f64 y1))])))] [(14, bF)] _ _ _)
  refine wp_cond_false (S4.bool 0 14 rfl) ?_
  refine wp_stmt_seq [.val (Part a4 2 0), .val (Is (.float .f64 x)), .val (Part a4 3 1), .val (Is (.float .f64 y1)), kF, kF] [.inr 0, .inr 1] [.inl 5] follows S4 rfl (by kernel_rfl) ?_ ?_
  · refine ⟨⟨⟨⟨⟨⟨trivial, ?_⟩, ?_⟩, ?_⟩, ?_⟩, ?_⟩, ?_⟩
    · exact owe_part rfl wA rfl (k := 0) rfl (by kernel_rfl) rfl (fun ρ w b h => part_ival0 ρ _ _ w b 0 h)
    · exact owe_pload rfl wA rfl (oO 0 21) (k := 0) rfl (by kernel_rfl) rfl (fun ρ w b u h1 h2 h3 => ploadI rfl load1_f64 ρ _ _ w b u h1 h2 h3)
    · exact owe_part rfl wA rfl (k := 1) rfl (by kernel_rfl) rfl (fun ρ w b h => part_ival1 ρ _ _ w b 0 h)
    · exact owe_pload rfl wA rfl (oO 2 23) (k := 1) rfl (by kernel_rfl) rfl (fun ρ w b u h1 h2 h3 => ploadI rfl load1_f64 ρ _ _ w b u h1 h2 h3)
    · exact owe_fcmp rfl wA rfl ((oO 1 22).imp (fl_is hx)) ((oO 3 24).imp (fl_is hy1)) (by rw [hpx, hqy]; exact gt_f g2) rfl
    · exact mO 4 25
  intro B5 a5 W5 (S5 : Sta w 42 [(2, (.box 38 (SF [(Is (.float .f64 x)), (Is (.float .f64 y))]))), (3, (.box 38 (SF [(Is (.float .f64 x1)), (Is (.float .f64 y1))])))] [(20, bF)] _ _ _)
  refine wp_cond_false (S5.bool 0 20 rfl) ?_
  refine wp_skip ?_
  refine inBlkN ?_
  refine thenN ?_
  refine wp_stmt_seq [.val (SF [(Is (.float .f64 x)), (Is (.float .f64 y))]), .val (SF [(Is (.float .f64 x1)), (Is (.float .f64 y1))]), kF, kF, .off, .off, .off, .off, .off, kF, kF, .off, .off, .off, .off, kF, .val (iV 0), kF, .val (iV 0)] [.inr 0, .inr 1] [.inl 16, .inl 17, .inl 18] follows S5 rfl (by kernel_rfl) ?_ ?_
  · repeat' refine And.intro ?_ ?_
    · trivial
    · exact lod 0 wA (loads_of strct_ival shp_iv)
    · exact lod 1 wA (loads_of strct_ival shp_iv)
    · exact owe_bin rfl wA rfl ((oO 0 26).imp ix_is) ((oO 1 27).imp ix_is) rfl (fun ρ w h1 h2 => run_eql_ivt ρ _ _ _ w x y x1 y1 (by rw [hpx, hqx, hpy, hqy]; exact eq_ff g3) h1 h2)
    · exact mO 2 28
    · exact oF 3 29
    · exact oF 3 29
    · exact oF 3 29
    · exact oF 3 29
    · exact oF 3 29
    · exact pF wA (oO 3 29) (opnd_const _)
    · exact mO 9 35
    · exact oF 10 36
    · exact oF 10 36
    · exact oF 10 36
    · exact oF 10 36
    · exact pF wA (oO 10 36) (opnd_const _)
    · exact mC
    · exact mO 15 41
    · exact mC
  intro B6 a6 W6 (S6 : Sta w 42 [(2, (.box 38 (SF [(Is (.float .f64 x)), (Is (.float .f64 y))]))), (3, (.box 38 (SF [(Is (.float .f64 x1)), (Is (.float .f64 y1))])))] [(4, iV 0), (5, bF), (6, iV 0)] _ _ _)
  refine wp_ret ?_
  exact end_three S6 rfl (res_tmp S6 0 4 rfl) (res_tmp S6 1 5 rfl) (res_tmp S6 2 6 rfl)
set_option maxHeartbeats 400000 in
theorem icmp_W (w : World) (x y x1 y1 : Nat) (hx : x < 18446744073709551616) (hy : y < 18446744073709551616) (hx1 : x1 < 18446744073709551616) (hy1 : y1 < 18446744073709551616) (h : okI x y = true) (h' : okI x1 y1 = true) (px py qx qy : Int) (hpx : plc x = some px) (hpy : plc y = some py) (hqx : plc x1 = some qx) (hqy : plc y1 = some qy) (g1 : ¬ py < qx) (g2 : ¬ qy < px) (g3 : px = qx ∧ py = qy) (g4 : ¬ px = py) :
    Calls Tryz.prog 27 #[(.agg #[.float .f64 x, .float .f64 y]), (.agg #[.float .f64 x1, .float .f64 y1])] w (Gives (THREE (IS (.int .i64 0)) (IS (.bool false)) (IS (.int .i64 0))) w) := by
  refine calls_sta (sl := [(0, (SF [(Is (.float .f64 x)), (Is (.float .f64 y))])), (1, (SF [(Is (.float .f64 x1)), (Is (.float .f64 y1))]))]) Tryz.func27 rfl Tryz.ntmps27 (by simp) (args_cons rfl (ix_has) (args_cons rfl (ix_has) args_nil)) ?_
  intro a0 S0
  refine wp_stmt_seq [.new (.box 38 (SF [(Is (.float .f64 x)), (Is (.float .f64 y))])), .new (.box 38 (SF [(Is (.float .f64 x1)), (Is (.float .f64 y1))])), .val (iV 0), kF, .val (iV 0)] [.inl 0, .inl 1] [] follows S0 rfl (by kernel_rfl) ?_ ?_
  · refine ⟨⟨⟨⟨⟨trivial, ?_⟩, ?_⟩, ?_⟩, ?_⟩, ?_⟩
    · exact owe_box rfl wA rfl (oS 0 0) rfl (fun ρ w h => box_ival shp_iv ρ _ _ w h)
    · exact owe_box rfl wA rfl (oS 1 1) rfl (fun ρ w h => box_ival shp_iv ρ _ _ w h)
    · exact mC
    · exact mC
    · exact mC
  intro B1 a1 W1 (S1 : Sta w 42 [(2, (.box 38 (SF [(Is (.float .f64 x)), (Is (.float .f64 y))]))), (3, (.box 38 (SF [(Is (.float .f64 x1)), (Is (.float .f64 y1))])))] [] _ _ _)
  refine wp_seq ?_
  refine wp_stmt_seq [.val (SF [(Is (.float .f64 x)), (Is (.float .f64 y))]), .val (SF [(Is (.float .f64 x1)), (Is (.float .f64 y1))]), .val (iV 0), .val (iV 0)] [.inr 0, .inr 1] [.inl 3] follows S1 rfl (by kernel_rfl) ?_ ?_
  · refine ⟨⟨⟨⟨trivial, ?_⟩, ?_⟩, ?_⟩, ?_⟩
    · exact lod 0 wA (loads_of strct_ival shp_iv)
    · exact lod 1 wA (loads_of strct_ival shp_iv)
    · exact cc2 wA (qO 0 8 rfl) (qO 1 9 rfl) (fresh_is _) (ix2 (fun w => ivalid2_tt w x y x1 y1 hx hy hx1 hy1 h h'))
    · exact mO 2 10
  intro B2 a2 W2 (S2 : Sta w 42 [(2, (.box 38 (SF [(Is (.float .f64 x)), (Is (.float .f64 y))]))), (3, (.box 38 (SF [(Is (.float .f64 x1)), (Is (.float .f64 y1))])))] [(7, iV 0)] _ _ _)
  refine wp_stmt_seq [.val (iV 0), kF] [.inr 0, .inr 1] [.inl 1, .inr 0] follows S2 rfl (by kernel_rfl) ?_ ?_
  · refine ⟨⟨trivial, ?_⟩, ?_⟩
    · exact mS 0 7
    · exact b_neq_errno_f wA (oO 0 11) (opnd_const _) (h := by decide)
  intro B3 a3 W3 (S3 : Sta w 42 [(2, (.box 38 (SF [(Is (.float .f64 x)), (Is (.float .f64 y))]))), (3, (.box 38 (SF [(Is (.float .f64 x1)), (Is (.float .f64 y1))])))] [(12, bF), (7, iV 0)] _ _ _)
  refine wp_cond_false (S3.bool 0 12 rfl) ?_
  refine wp_skip ?_
  refine thenN ?_
  refine wp_seq ?_
  refine wp_block ?_
  refine wp_stmt_seq [.val (Part a3 2 1), .val (Is (.float .f64 y)), .val (Part a3 3 0), .val (Is (.float .f64 x1)), kF, kF] [.inr 0, .inr 1] [.inl 5] follows S3 rfl (by kernel_rfl) ?_ ?_
  · refine ⟨⟨⟨⟨⟨⟨trivial, ?_⟩, ?_⟩, ?_⟩, ?_⟩, ?_⟩, ?_⟩
    · exact owe_part rfl wA rfl (k := 0) rfl (by kernel_rfl) rfl (fun ρ w b h => part_ival1 ρ _ _ w b 0 h)
    · exact owe_pload rfl wA rfl (oO 0 15) (k := 0) rfl (by kernel_rfl) rfl (fun ρ w b u h1 h2 h3 => ploadI rfl load1_f64 ρ _ _ w b u h1 h2 h3)
    · exact owe_part rfl wA rfl (k := 1) rfl (by kernel_rfl) rfl (fun ρ w b h => part_ival0 ρ _ _ w b 0 h)
    · exact owe_pload rfl wA rfl (oO 2 17) (k := 1) rfl (by kernel_rfl) rfl (fun ρ w b u h1 h2 h3 => ploadI rfl load1_f64 ρ _ _ w b u h1 h2 h3)
    · exact owe_fcmp rfl wA rfl ((oO 1 16).imp (fl_is hy)) ((oO 3 18).imp (fl_is hx1)) (by rw [hpy, hqx]; exact lt_f g1) rfl
    · exact mO 4 19
  intro B4 a4 W4 (S4 : Sta w 42 [(2, (.box 38 (SF [(Is (.float .f64 x)), (Is (.float .f64 y))]))), (3, (.box 38 (SF [(Is (.float .f64 x1)), (Is (.float .f64 y1))])))] [(14, bF)] _ _ _)
  refine wp_cond_false (S4.bool 0 14 rfl) ?_
  refine wp_stmt_seq [.val (Part a4 2 0), .val (Is (.float .f64 x)), .val (Part a4 3 1), .val (Is (.float .f64 y1)), kF, kF] [.inr 0, .inr 1] [.inl 5] follows S4 rfl (by kernel_rfl) ?_ ?_
  · refine ⟨⟨⟨⟨⟨⟨trivial, ?_⟩, ?_⟩, ?_⟩, ?_⟩, ?_⟩, ?_⟩
    · exact owe_part rfl wA rfl (k := 0) rfl (by kernel_rfl) rfl (fun ρ w b h => part_ival0 ρ _ _ w b 0 h)
    · exact owe_pload rfl wA rfl (oO 0 21) (k := 0) rfl (by kernel_rfl) rfl (fun ρ w b u h1 h2 h3 => ploadI rfl load1_f64 ρ _ _ w b u h1 h2 h3)
    · exact owe_part rfl wA rfl (k := 1) rfl (by kernel_rfl) rfl (fun ρ w b h => part_ival1 ρ _ _ w b 0 h)
    · exact owe_pload rfl wA rfl (oO 2 23) (k := 1) rfl (by kernel_rfl) rfl (fun ρ w b u h1 h2 h3 => ploadI rfl load1_f64 ρ _ _ w b u h1 h2 h3)
    · exact owe_fcmp rfl wA rfl ((oO 1 22).imp (fl_is hx)) ((oO 3 24).imp (fl_is hy1)) (by rw [hpx, hqy]; exact gt_f g2) rfl
    · exact mO 4 25
  intro B5 a5 W5 (S5 : Sta w 42 [(2, (.box 38 (SF [(Is (.float .f64 x)), (Is (.float .f64 y))]))), (3, (.box 38 (SF [(Is (.float .f64 x1)), (Is (.float .f64 y1))])))] [(20, bF)] _ _ _)
  refine wp_cond_false (S5.bool 0 20 rfl) ?_
  refine wp_skip ?_
  refine inBlkN ?_
  refine thenN ?_
  refine wp_stmt_seq [.val (SF [(Is (.float .f64 x)), (Is (.float .f64 y))]), .val (SF [(Is (.float .f64 x1)), (Is (.float .f64 y1))]), kT, kT, .val (Part a5 2 0), .val (Is (.float .f64 x)), .val (Part a5 2 1), .val (Is (.float .f64 y)), kF, kF, kF, .off, .off, .off, .off, kF, .val (iV 0), kF, .val (iV 0)] [.inr 0, .inr 1] [.inl 16, .inl 17, .inl 18] follows S5 rfl (by kernel_rfl) ?_ ?_
  · repeat' refine And.intro ?_ ?_
    · trivial
    · exact lod 0 wA (loads_of strct_ival shp_iv)
    · exact lod 1 wA (loads_of strct_ival shp_iv)
    · exact owe_bin rfl wA rfl ((oO 0 26).imp ix_is) ((oO 1 27).imp ix_is) rfl (fun ρ w h1 h2 => run_eql_ivt ρ _ _ _ w x y x1 y1 (by rw [hpx, hqx, hpy, hqy, eq_t g3.1, eq_t g3.2]; rfl) h1 h2)
    · exact mO 2 28
    · exact owe_part rfl (wI 3 29) rfl (k := 0) rfl (by kernel_rfl) rfl (fun ρ w b h => part_ival0 ρ _ _ w b 0 h)
    · exact owe_pload rfl (wI 3 29) rfl (oO 4 30) (k := 0) rfl (by kernel_rfl) rfl (fun ρ w b u h1 h2 h3 => ploadI rfl load1_f64 ρ _ _ w b u h1 h2 h3)
    · exact owe_part rfl (wI 3 29) rfl (k := 0) rfl (by kernel_rfl) rfl (fun ρ w b h => part_ival1 ρ _ _ w b 0 h)
    · exact owe_pload rfl (wI 3 29) rfl (oO 6 32) (k := 0) rfl (by kernel_rfl) rfl (fun ρ w b u h1 h2 h3 => ploadI rfl load1_f64 ρ _ _ w b u h1 h2 h3)
    · exact owe_fcmp rfl (wI 3 29) rfl ((oO 5 31).imp (fl_is hx)) ((oO 7 33).imp (fl_is hy)) (by rw [hpx, hpy]; exact eq_f g4) rfl
    · exact pT wA (oO 3 29) (oO 8 34)
    · exact mO 9 35
    · exact oF 10 36
    · exact oF 10 36
    · exact oF 10 36
    · exact oF 10 36
    · exact pF wA (oO 10 36) (opnd_const _)
    · exact mC
    · exact mO 15 41
    · exact mC
  intro B6 a6 W6 (S6 : Sta w 42 [(2, (.box 38 (SF [(Is (.float .f64 x)), (Is (.float .f64 y))]))), (3, (.box 38 (SF [(Is (.float .f64 x1)), (Is (.float .f64 y1))])))] [(4, iV 0), (5, bF), (6, iV 0)] _ _ _)
  refine wp_ret ?_
  exact end_three S6 rfl (res_tmp S6 0 4 rfl) (res_tmp S6 1 5 rfl) (res_tmp S6 2 6 rfl)
set_option maxHeartbeats 400000 in
theorem icmp_I (w : World) (x y x1 y1 : Nat) (hx : x < 18446744073709551616) (hy : y < 18446744073709551616) (hx1 : x1 < 18446744073709551616) (hy1 : y1 < 18446744073709551616) (h : okI x y = true) (h' : okI x1 y1 = true) (px py qx qy : Int) (hpx : plc x = some px) (hpy : plc y = some py) (hqx : plc x1 = some qx) (hqy : plc y1 = some qy) (g1 : ¬ py < qx) (g2 : ¬ qy < px) (g3 : px = qx ∧ py = qy) (g4 : px = py) (g5 : px = 9218868437227405312 ∨ px = -9218868437227405312) :
    Calls Tryz.prog 27 #[(.agg #[.float .f64 x, .float .f64 y]), (.agg #[.float .f64 x1, .float .f64 y1])] w (Gives (THREE (IS (.int .i64 0)) (IS (.bool false)) (IS (.int .i64 0))) w) := by
  refine calls_sta (sl := [(0, (SF [(Is (.float .f64 x)), (Is (.float .f64 y))])), (1, (SF [(Is (.float .f64 x1)), (Is (.float .f64 y1))]))]) Tryz.func27 rfl Tryz.ntmps27 (by simp) (args_cons rfl (ix_has) (args_cons rfl (ix_has) args_nil)) ?_
  intro a0 S0
  refine wp_stmt_seq [.new (.box 38 (SF [(Is (.float .f64 x)), (Is (.float .f64 y))])), .new (.box 38 (SF [(Is (.float .f64 x1)), (Is (.float .f64 y1))])), .val (iV 0), kF, .val (iV 0)] [.inl 0, .inl 1] [] follows S0 rfl (by kernel_rfl) ?_ ?_
  · refine ⟨⟨⟨⟨⟨trivial, ?_⟩, ?_⟩, ?_⟩, ?_⟩, ?_⟩
    · exact owe_box rfl wA rfl (oS 0 0) rfl (fun ρ w h => box_ival shp_iv ρ _ _ w h)
    · exact owe_box rfl wA rfl (oS 1 1) rfl (fun ρ w h => box_ival shp_iv ρ _ _ w h)
    · exact mC
    · exact mC
    · exact mC
  intro B1 a1 W1 (S1 : Sta w 42 [(2, (.box 38 (SF [(Is (.float .f64 x)), (Is (.float .f64 y))]))), (3, (.box 38 (SF [(Is (.float .f64 x1)), (Is (.float .f64 y1))])))] [] _ _ _)
  refine wp_seq ?_
  refine wp_stmt_seq [.val (SF [(Is (.float .f64 x)), (Is (.float .f64 y))]), .val (SF [(Is (.float .f64 x1)), (Is (.float .f64 y1))]), .val (iV 0), .val (iV 0)] [.inr 0, .inr 1] [.inl 3] follows S1 rfl (by kernel_rfl) ?_ ?_
  · refine ⟨⟨⟨⟨trivial, ?_⟩, ?_⟩, ?_⟩, ?_⟩
    · exact lod 0 wA (loads_of strct_ival shp_iv)
    · exact lod 1 wA (loads_of strct_ival shp_iv)
    · exact cc2 wA (qO 0 8 rfl) (qO 1 9 rfl) (fresh_is _) (ix2 (fun w => ivalid2_tt w x y x1 y1 hx hy hx1 hy1 h h'))
    · exact mO 2 10
  intro B2 a2 W2 (S2 : Sta w 42 [(2, (.box 38 (SF [(Is (.float .f64 x)), (Is (.float .f64 y))]))), (3, (.box 38 (SF [(Is (.float .f64 x1)), (Is (.float .f64 y1))])))] [(7, iV 0)] _ _ _)
  refine wp_stmt_seq [.val (iV 0), kF] [.inr 0, .inr 1] [.inl 1, .inr 0] follows S2 rfl (by kernel_rfl) ?_ ?_
  · refine ⟨⟨trivial, ?_⟩, ?_⟩
    · exact mS 0 7
    · exact b_neq_errno_f wA (oO 0 11) (opnd_const _) (h := by decide)
  intro B3 a3 W3 (S3 : Sta w 42 [(2, (.box 38 (SF [(Is (.float .f64 x)), (Is (.float .f64 y))]))), (3, (.box 38 (SF [(Is (.float .f64 x1)), (Is (.float .f64 y1))])))] [(12, bF), (7, iV 0)] _ _ _)
  refine wp_cond_false (S3.bool 0 12 rfl) ?_
  refine wp_skip ?_
  refine thenN ?_
  refine wp_seq ?_
  refine wp_block ?_
  refine wp_stmt_seq [.val (Part a3 2 1), .val (Is (.float .f64 y)), .val (Part a3 3 0), .val (Is (.float .f64 x1)), kF, kF] [.inr 0, .inr 1] [.inl 5] follows S3 rfl (by kernel_rfl) ?_ ?_
  · refine ⟨⟨⟨⟨⟨⟨trivial, ?_⟩, ?_⟩, ?_⟩, ?_⟩, ?_⟩, ?_⟩
    · exact owe_part rfl wA rfl (k := 0) rfl (by kernel_rfl) rfl (fun ρ w b h => part_ival1 ρ _ _ w b 0 h)
    · exact owe_pload rfl wA rfl (oO 0 15) (k := 0) rfl (by kernel_rfl) rfl (fun ρ w b u h1 h2 h3 => ploadI rfl load1_f64 ρ _ _ w b u h1 h2 h3)
    · exact owe_part rfl wA rfl (k := 1) rfl (by kernel_rfl) rfl (fun ρ w b h => part_ival0 ρ _ _ w b 0 h)
    · exact owe_pload rfl wA rfl (oO 2 17) (k := 1) rfl (by kernel_rfl) rfl (fun ρ w b u h1 h2 h3 => ploadI rfl load1_f64 ρ _ _ w b u h1 h2 h3)
    · exact owe_fcmp rfl wA rfl ((oO 1 16).imp (fl_is hy)) ((oO 3 18).imp (fl_is hx1)) (by rw [hpy, hqx]; exact lt_f g1) rfl
    · exact mO 4 19
  intro B4 a4 W4 (S4 : Sta w 42 [(2, (.box 38 (SF [(Is (.float .f64 x)), (Is (.float .f64 y))]))), (3, (.box 38 (SF [(Is (.float .f64 x1)), (Is (.float .f64 y1))])))] [(14, bF)] _ _ _)
  refine wp_cond_false (S4.bool 0 14 rfl) ?_
  refine wp_stmt_seq [.val (Part a4 2 0), .val (Is (.float .f64 x)), .val (Part a4 3 1), .val (Is (.float .f64 y1)), kF, kF] [.inr 0, .inr 1] [.inl 5] follows S4 rfl (by kernel_rfl) ?_ ?_
  · refine ⟨⟨⟨⟨⟨⟨trivial, ?_⟩, ?_⟩, ?_⟩, ?_⟩, ?_⟩, ?_⟩
    · exact owe_part rfl wA rfl (k := 0) rfl (by kernel_rfl) rfl (fun ρ w b h => part_ival0 ρ _ _ w b 0 h)
    · exact owe_pload rfl wA rfl (oO 0 21) (k := 0) rfl (by kernel_rfl) rfl (fun ρ w b u h1 h2 h3 => ploadI rfl load1_f64 ρ _ _ w b u h1 h2 h3)
    · exact owe_part rfl wA rfl (k := 1) rfl (by kernel_rfl) rfl (fun ρ w b h => part_ival1 ρ _ _ w b 0 h)
    · exact owe_pload rfl wA rfl (oO 2 23) (k := 1) rfl (by kernel_rfl) rfl (fun ρ w b u h1 h2 h3 => ploadI rfl load1_f64 ρ _ _ w b u h1 h2 h3)
    · exact owe_fcmp rfl wA rfl ((oO 1 22).imp (fl_is hx)) ((oO 3 24).imp (fl_is hy1)) (by rw [hpx, hqy]; exact gt_f g2) rfl
    · exact mO 4 25
  intro B5 a5 W5 (S5 : Sta w 42 [(2, (.box 38 (SF [(Is (.float .f64 x)), (Is (.float .f64 y))]))), (3, (.box 38 (SF [(Is (.float .f64 x1)), (Is (.float .f64 y1))])))] [(20, bF)] _ _ _)
  refine wp_cond_false (S5.bool 0 20 rfl) ?_
  refine wp_skip ?_
  refine inBlkN ?_
  refine thenN ?_
  refine wp_stmt_seq [.val (SF [(Is (.float .f64 x)), (Is (.float .f64 y))]), .val (SF [(Is (.float .f64 x1)), (Is (.float .f64 y1))]), kT, kT, .val (Part a5 2 0), .val (Is (.float .f64 x)), .val (Part a5 2 1), .val (Is (.float .f64 y)), kT, kT, kT, .val (Part a5 2 0), .val (Is (.float .f64 x)), kT, kF, kF, .val (iV 0), kF, .val (iV 0)] [.inr 0, .inr 1] [.inl 16, .inl 17, .inl 18] follows S5 rfl (by kernel_rfl) ?_ ?_
  · repeat' refine And.intro ?_ ?_
    · trivial
    · exact lod 0 wA (loads_of strct_ival shp_iv)
    · exact lod 1 wA (loads_of strct_ival shp_iv)
    · exact owe_bin rfl wA rfl ((oO 0 26).imp ix_is) ((oO 1 27).imp ix_is) rfl (fun ρ w h1 h2 => run_eql_ivt ρ _ _ _ w x y x1 y1 (by rw [hpx, hqx, hpy, hqy, eq_t g3.1, eq_t g3.2]; rfl) h1 h2)
    · exact mO 2 28
    · exact owe_part rfl (wI 3 29) rfl (k := 0) rfl (by kernel_rfl) rfl (fun ρ w b h => part_ival0 ρ _ _ w b 0 h)
    · exact owe_pload rfl (wI 3 29) rfl (oO 4 30) (k := 0) rfl (by kernel_rfl) rfl (fun ρ w b u h1 h2 h3 => ploadI rfl load1_f64 ρ _ _ w b u h1 h2 h3)
    · exact owe_part rfl (wI 3 29) rfl (k := 0) rfl (by kernel_rfl) rfl (fun ρ w b h => part_ival1 ρ _ _ w b 0 h)
    · exact owe_pload rfl (wI 3 29) rfl (oO 6 32) (k := 0) rfl (by kernel_rfl) rfl (fun ρ w b u h1 h2 h3 => ploadI rfl load1_f64 ρ _ _ w b u h1 h2 h3)
    · exact owe_fcmp rfl (wI 3 29) rfl ((oO 5 31).imp (fl_is hx)) ((oO 7 33).imp (fl_is hy)) (by rw [hpx, hpy]; exact eq_t g4) rfl
    · exact pT wA (oO 3 29) (oO 8 34)
    · exact mO 9 35
    · exact owe_part rfl (wI 10 36) rfl (k := 0) rfl (by kernel_rfl) rfl (fun ρ w b h => part_ival0 ρ _ _ w b 0 h)
    · exact owe_pload rfl (wI 10 36) rfl (oO 11 37) (k := 0) rfl (by kernel_rfl) rfl (fun ρ w b u h1 h2 h3 => ploadI rfl load1_f64 ρ _ _ w b u h1 h2 h3)
    · exact cc2 (wI 10 36) (qO 12 38 rfl) (opnd_const _) (fresh_is _) (pur2 (isinf_yes hx hpx g5))
    · exact b_not (wI 10 36) (oO 13 39)
    · exact pT wA (oO 10 36) (oO 14 40)
    · exact mC
    · exact mO 15 41
    · exact mC
  intro B6 a6 W6 (S6 : Sta w 42 [(2, (.box 38 (SF [(Is (.float .f64 x)), (Is (.float .f64 y))]))), (3, (.box 38 (SF [(Is (.float .f64 x1)), (Is (.float .f64 y1))])))] [(4, iV 0), (5, bF), (6, iV 0)] _ _ _)
  refine wp_ret ?_
  exact end_three S6 rfl (res_tmp S6 0 4 rfl) (res_tmp S6 1 5 rfl) (res_tmp S6 2 6 rfl)
set_option maxHeartbeats 400000 in
theorem icmp_E (w : World) (x y x1 y1 : Nat) (hx : x < 18446744073709551616) (hy : y < 18446744073709551616) (hx1 : x1 < 18446744073709551616) (hy1 : y1 < 18446744073709551616) (h : okI x y = true) (h' : okI x1 y1 = true) (px py qx qy : Int) (hpx : plc x = some px) (hpy : plc y = some py) (hqx : plc x1 = some qx) (hqy : plc y1 = some qy) (g1 : ¬ py < qx) (g2 : ¬ qy < px) (g3 : px = qx ∧ py = qy) (g4 : px = py) (g5 : ¬ (px = 9218868437227405312 ∨ px = -9218868437227405312)) :
    Calls Tryz.prog 27 #[(.agg #[.float .f64 x, .float .f64 y]), (.agg #[.float .f64 x1, .float .f64 y1])] w (Gives (THREE (IS (.int .i64 0)) (IS (.bool true)) (IS (.int .i64 0))) w) := by
  refine calls_sta (sl := [(0, (SF [(Is (.float .f64 x)), (Is (.float .f64 y))])), (1, (SF [(Is (.float .f64 x1)), (Is (.float .f64 y1))]))]) Tryz.func27 rfl Tryz.ntmps27 (by simp) (args_cons rfl (ix_has) (args_cons rfl (ix_has) args_nil)) ?_
  intro a0 S0
  refine wp_stmt_seq [.new (.box 38 (SF [(Is (.float .f64 x)), (Is (.float .f64 y))])), .new (.box 38 (SF [(Is (.float .f64 x1)), (Is (.float .f64 y1))])), .val (iV 0), kF, .val (iV 0)] [.inl 0, .inl 1] [] follows S0 rfl (by kernel_rfl) ?_ ?_
  · refine ⟨⟨⟨⟨⟨trivial, ?_⟩, ?_⟩, ?_⟩, ?_⟩, ?_⟩
    · exact owe_box rfl wA rfl (oS 0 0) rfl (fun ρ w h => box_ival shp_iv ρ _ _ w h)
    · exact owe_box rfl wA rfl (oS 1 1) rfl (fun ρ w h => box_ival shp_iv ρ _ _ w h)
    · exact mC
    · exact mC
    · exact mC
  intro B1 a1 W1 (S1 : Sta w 42 [(2, (.box 38 (SF [(Is (.float .f64 x)), (Is (.float .f64 y))]))), (3, (.box 38 (SF [(Is (.float .f64 x1)), (Is (.float .f64 y1))])))] [] _ _ _)
  refine wp_seq ?_
  refine wp_stmt_seq [.val (SF [(Is (.float .f64 x)), (Is (.float .f64 y))]), .val (SF [(Is (.float .f64 x1)), (Is (.float .f64 y1))]), .val (iV 0), .val (iV 0)] [.inr 0, .inr 1] [.inl 3] follows S1 rfl (by kernel_rfl) ?_ ?_
  · refine ⟨⟨⟨⟨trivial, ?_⟩, ?_⟩, ?_⟩, ?_⟩
    · exact lod 0 wA (loads_of strct_ival shp_iv)
    · exact lod 1 wA (loads_of strct_ival shp_iv)
    · exact cc2 wA (qO 0 8 rfl) (qO 1 9 rfl) (fresh_is _) (ix2 (fun w => ivalid2_tt w x y x1 y1 hx hy hx1 hy1 h h'))
    · exact mO 2 10
  intro B2 a2 W2 (S2 : Sta w 42 [(2, (.box 38 (SF [(Is (.float .f64 x)), (Is (.float .f64 y))]))), (3, (.box 38 (SF [(Is (.float .f64 x1)), (Is (.float .f64 y1))])))] [(7, iV 0)] _ _ _)
  refine wp_stmt_seq [.val (iV 0), kF] [.inr 0, .inr 1] [.inl 1, .inr 0] follows S2 rfl (by kernel_rfl) ?_ ?_
  · refine ⟨⟨trivial, ?_⟩, ?_⟩
    · exact mS 0 7
    · exact b_neq_errno_f wA (oO 0 11) (opnd_const _) (h := by decide)
  intro B3 a3 W3 (S3 : Sta w 42 [(2, (.box 38 (SF [(Is (.float .f64 x)), (Is (.float .f64 y))]))), (3, (.box 38 (SF [(Is (.float .f64 x1)), (Is (.float .f64 y1))])))] [(12, bF), (7, iV 0)] _ _ _)
  refine wp_cond_false (S3.bool 0 12 rfl) ?_
  refine wp_skip ?_
  refine thenN ?_
  refine wp_seq ?_
  refine wp_block ?_
  refine wp_stmt_seq [.val (Part a3 2 1), .val (Is (.float .f64 y)), .val (Part a3 3 0), .val (Is (.float .f64 x1)), kF, kF] [.inr 0, .inr 1] [.inl 5] follows S3 rfl (by kernel_rfl) ?_ ?_
  · refine ⟨⟨⟨⟨⟨⟨trivial, ?_⟩, ?_⟩, ?_⟩, ?_⟩, ?_⟩, ?_⟩
    · exact owe_part rfl wA rfl (k := 0) rfl (by kernel_rfl) rfl (fun ρ w b h => part_ival1 ρ _ _ w b 0 h)
    · exact owe_pload rfl wA rfl (oO 0 15) (k := 0) rfl (by kernel_rfl) rfl (fun ρ w b u h1 h2 h3 => ploadI rfl load1_f64 ρ _ _ w b u h1 h2 h3)
    · exact owe_part rfl wA rfl (k := 1) rfl (by kernel_rfl) rfl (fun ρ w b h => part_ival0 ρ _ _ w b 0 h)
    · exact owe_pload rfl wA rfl (oO 2 17) (k := 1) rfl (by kernel_rfl) rfl (fun ρ w b u h1 h2 h3 => ploadI rfl load1_f64 ρ _ _ w b u h1 h2 h3)
    · exact owe_fcmp rfl wA rfl ((oO 1 16).imp (fl_is hy)) ((oO 3 18).imp (fl_is hx1)) (by rw [hpy, hqx]; exact lt_f g1) rfl
    · exact mO 4 19
  intro B4 a4 W4 (S4 : Sta w 42 [(2, (.box 38 (SF [(Is (.float .f64 x)), (Is (.float .f64 y))]))), (3, (.box 38 (SF [(Is (.float .f64 x1)), (Is (.float .f64 y1))])))] [(14, bF)] _ _ _)
  refine wp_cond_false (S4.bool 0 14 rfl) ?_
  refine wp_stmt_seq [.val (Part a4 2 0), .val (Is (.float .f64 x)), .val (Part a4 3 1), .val (Is (.float .f64 y1)), kF, kF] [.inr 0, .inr 1] [.inl 5] follows S4 rfl (by kernel_rfl) ?_ ?_
  · refine ⟨⟨⟨⟨⟨⟨trivial, ?_⟩, ?_⟩, ?_⟩, ?_⟩, ?_⟩, ?_⟩
    · exact owe_part rfl wA rfl (k := 0) rfl (by kernel_rfl) rfl (fun ρ w b h => part_ival0 ρ _ _ w b 0 h)
    · exact owe_pload rfl wA rfl (oO 0 21) (k := 0) rfl (by kernel_rfl) rfl (fun ρ w b u h1 h2 h3 => ploadI rfl load1_f64 ρ _ _ w b u h1 h2 h3)
    · exact owe_part rfl wA rfl (k := 1) rfl (by kernel_rfl) rfl (fun ρ w b h => part_ival1 ρ _ _ w b 0 h)
    · exact owe_pload rfl wA rfl (oO 2 23) (k := 1) rfl (by kernel_rfl) rfl (fun ρ w b u h1 h2 h3 => ploadI rfl load1_f64 ρ _ _ w b u h1 h2 h3)
    · exact owe_fcmp rfl wA rfl ((oO 1 22).imp (fl_is hx)) ((oO 3 24).imp (fl_is hy1)) (by rw [hpx, hqy]; exact gt_f g2) rfl
    · exact mO 4 25
  intro B5 a5 W5 (S5 : Sta w 42 [(2, (.box 38 (SF [(Is (.float .f64 x)), (Is (.float .f64 y))]))), (3, (.box 38 (SF [(Is (.float .f64 x1)), (Is (.float .f64 y1))])))] [(20, bF)] _ _ _)
  refine wp_cond_false (S5.bool 0 20 rfl) ?_
  refine wp_skip ?_
  refine inBlkN ?_
  refine thenN ?_
  refine wp_stmt_seq [.val (SF [(Is (.float .f64 x)), (Is (.float .f64 y))]), .val (SF [(Is (.float .f64 x1)), (Is (.float .f64 y1))]), kT, kT, .val (Part a5 2 0), .val (Is (.float .f64 x)), .val (Part a5 2 1), .val (Is (.float .f64 y)), kT, kT, kT, .val (Part a5 2 0), .val (Is (.float .f64 x)), kF, kT, kT, .val (iV 0), kT, .val (iV 0)] [.inr 0, .inr 1] [.inl 16, .inl 17, .inl 18] follows S5 rfl (by kernel_rfl) ?_ ?_
  · repeat' refine And.intro ?_ ?_
    · trivial
    · exact lod 0 wA (loads_of strct_ival shp_iv)
    · exact lod 1 wA (loads_of strct_ival shp_iv)
    · exact owe_bin rfl wA rfl ((oO 0 26).imp ix_is) ((oO 1 27).imp ix_is) rfl (fun ρ w h1 h2 => run_eql_ivt ρ _ _ _ w x y x1 y1 (by rw [hpx, hqx, hpy, hqy, eq_t g3.1, eq_t g3.2]; rfl) h1 h2)
    · exact mO 2 28
    · exact owe_part rfl (wI 3 29) rfl (k := 0) rfl (by kernel_rfl) rfl (fun ρ w b h => part_ival0 ρ _ _ w b 0 h)
    · exact owe_pload rfl (wI 3 29) rfl (oO 4 30) (k := 0) rfl (by kernel_rfl) rfl (fun ρ w b u h1 h2 h3 => ploadI rfl load1_f64 ρ _ _ w b u h1 h2 h3)
    · exact owe_part rfl (wI 3 29) rfl (k := 0) rfl (by kernel_rfl) rfl (fun ρ w b h => part_ival1 ρ _ _ w b 0 h)
    · exact owe_pload rfl (wI 3 29) rfl (oO 6 32) (k := 0) rfl (by kernel_rfl) rfl (fun ρ w b u h1 h2 h3 => ploadI rfl load1_f64 ρ _ _ w b u h1 h2 h3)
    · exact owe_fcmp rfl (wI 3 29) rfl ((oO 5 31).imp (fl_is hx)) ((oO 7 33).imp (fl_is hy)) (by rw [hpx, hpy]; exact eq_t g4) rfl
    · exact pT wA (oO 3 29) (oO 8 34)
    · exact mO 9 35
    · exact owe_part rfl (wI 10 36) rfl (k := 0) rfl (by kernel_rfl) rfl (fun ρ w b h => part_ival0 ρ _ _ w b 0 h)
    · exact owe_pload rfl (wI 10 36) rfl (oO 11 37) (k := 0) rfl (by kernel_rfl) rfl (fun ρ w b u h1 h2 h3 => ploadI rfl load1_f64 ρ _ _ w b u h1 h2 h3)
    · exact cc2 (wI 10 36) (qO 12 38 rfl) (opnd_const _) (fresh_is _) (pur2 (isinf_no hx hpx g5))
    · exact b_not (wI 10 36) (oO 13 39)
    · exact pT wA (oO 10 36) (oO 14 40)
    · exact mC
    · exact mO 15 41
    · exact mC
  intro B6 a6 W6 (S6 : Sta w 42 [(2, (.box 38 (SF [(Is (.float .f64 x)), (Is (.float .f64 y))]))), (3, (.box 38 (SF [(Is (.float .f64 x1)), (Is (.float .f64 y1))])))] [(4, iV 0), (5, bT), (6, iV 0)] _ _ _)
  refine wp_ret ?_
  exact end_three S6 rfl (res_tmp S6 0 4 rfl) (res_tmp S6 1 5 rfl) (res_tmp S6 2 6 rfl)
set_option maxHeartbeats 400000 in
theorem ircmp_L (w : World) (x y x1 y1 : Nat) (hx : x < 18446744073709551616) (hy : y < 18446744073709551616) (hx1 : x1 < 18446744073709551616) (hy1 : y1 < 18446744073709551616) (px py qx qy : Int) (hpx : plc x = some px) (hpy : plc y = some py) (hqx : plc x1 = some qx) (hqy : plc y1 = some qy) (g1 : py < qx) :
    Calls Tryz.prog 32 #[(.agg #[.float .f64 x, .float .f64 y]), (.agg #[.float .f64 x1, .float .f64 y1])] w (Gives (TWO (IS (.int .i64 (-1))) (IS (.bool true))) w) := by
  refine calls_sta (sl := [(0, (SF [(Is (.float .f64 x)), (Is (.float .f64 y))])), (1, (SF [(Is (.float .f64 x1)), (Is (.float .f64 y1))]))]) Tryz.func32 rfl Tryz.ntmps32 (by simp) (args_cons rfl (ix_has) (args_cons rfl (ix_has) args_nil)) ?_
  intro a0 S0
  refine wp_stmt_seq [.new (.box 38 (SF [(Is (.float .f64 x)), (Is (.float .f64 y))])), .new (.box 38 (SF [(Is (.float .f64 x1)), (Is (.float .f64 y1))])), .val (iV 0), kF] [.inl 0, .inl 1] [] follows S0 rfl (by kernel_rfl) ?_ ?_
  · refine ⟨⟨⟨⟨trivial, ?_⟩, ?_⟩, ?_⟩, ?_⟩
    · exact owe_box rfl wA rfl (oS 0 0) rfl (fun ρ w h => box_ival shp_iv ρ _ _ w h)
    · exact owe_box rfl wA rfl (oS 1 1) rfl (fun ρ w h => box_ival shp_iv ρ _ _ w h)
    · exact mC
    · exact mC
  intro B1 a1 W1 (S1 : Sta w 43 [(2, (.box 38 (SF [(Is (.float .f64 x)), (Is (.float .f64 y))]))), (3, (.box 38 (SF [(Is (.float .f64 x1)), (Is (.float .f64 y1))])))] [] _ _ _)
  refine wp_seq ?_
  refine wp_stmt_seq [.val (Part a1 2 1), .val (Is (.float .f64 y)), .val (Part a1 3 0), .val (Is (.float .f64 x1)), kT] [.inr 0, .inr 1] [.inl 4] follows S1 rfl (by kernel_rfl) ?_ ?_
  · refine ⟨⟨⟨⟨⟨trivial, ?_⟩, ?_⟩, ?_⟩, ?_⟩, ?_⟩
    · exact owe_part rfl wA rfl (k := 0) rfl (by kernel_rfl) rfl (fun ρ w b h => part_ival1 ρ _ _ w b 0 h)
    · exact owe_pload rfl wA rfl (oO 0 6) (k := 0) rfl (by kernel_rfl) rfl (fun ρ w b u h1 h2 h3 => ploadI rfl load1_f64 ρ _ _ w b u h1 h2 h3)
    · exact owe_part rfl wA rfl (k := 1) rfl (by kernel_rfl) rfl (fun ρ w b h => part_ival0 ρ _ _ w b 0 h)
    · exact owe_pload rfl wA rfl (oO 2 8) (k := 1) rfl (by kernel_rfl) rfl (fun ρ w b u h1 h2 h3 => ploadI rfl load1_f64 ρ _ _ w b u h1 h2 h3)
    · exact owe_fcmp rfl wA rfl ((oO 1 7).imp (fl_is hy)) ((oO 3 9).imp (fl_is hx1)) (by rw [hpy, hqx]; exact lt_t g1) rfl
  intro B2 a2 W2 (S2 : Sta w 43 [(2, (.box 38 (SF [(Is (.float .f64 x)), (Is (.float .f64 y))]))), (3, (.box 38 (SF [(Is (.float .f64 x1)), (Is (.float .f64 y1))])))] [(10, bT)] _ _ _)
  refine wp_cond_true (S2.bool 0 10 rfl) ?_
  refine wp_stmt_seq [.val (iV (-1)), kT] [.inr 0, .inr 1] [.inl 0, .inl 1] follows S2 rfl (by kernel_rfl) ?_ ?_
  · refine ⟨⟨trivial, ?_⟩, ?_⟩
    · exact mC
    · exact mC
  intro B3 a3 W3 (S3 : Sta w 43 [(2, (.box 38 (SF [(Is (.float .f64 x)), (Is (.float .f64 y))]))), (3, (.box 38 (SF [(Is (.float .f64 x1)), (Is (.float .f64 y1))])))] [(4, iV (-1)), (5, bT)] _ _ _)
  refine wp_ret ?_
  refine thenR ?_
  exact end_two S3 rfl (res_tmp S3 0 4 rfl) (res_tmp S3 1 5 rfl)
set_option maxHeartbeats 400000 in
theorem ircmp_G (w : World) (x y x1 y1 : Nat) (hx : x < 18446744073709551616) (hy : y < 18446744073709551616) (hx1 : x1 < 18446744073709551616) (hy1 : y1 < 18446744073709551616) (px py qx qy : Int) (hpx : plc x = some px) (hpy : plc y = some py) (hqx : plc x1 = some qx) (hqy : plc y1 = some qy) (g1 : ¬ py < qx) (g2 : qy < px) :
    Calls Tryz.prog 32 #[(.agg #[.float .f64 x, .float .f64 y]), (.agg #[.float .f64 x1, .float .f64 y1])] w (Gives (TWO (IS (.int .i64 1)) (IS (.bool true))) w) := by
  refine calls_sta (sl := [(0, (SF [(Is (.float .f64 x)), (Is (.float .f64 y))])), (1, (SF [(Is (.float .f64 x1)), (Is (.float .f64 y1))]))]) Tryz.func32 rfl Tryz.ntmps32 (by simp) (args_cons rfl (ix_has) (args_cons rfl (ix_has) args_nil)) ?_
  intro a0 S0
  refine wp_stmt_seq [.new (.box 38 (SF [(Is (.float .f64 x)), (Is (.float .f64 y))])), .new (.box 38 (SF [(Is (.float .f64 x1)), (Is (.float .f64 y1))])), .val (iV 0), kF] [.inl 0, .inl 1] [] follows S0 rfl (by kernel_rfl) ?_ ?_
  · refine ⟨⟨⟨⟨trivial, ?_⟩, ?_⟩, ?_⟩, ?_⟩
    · exact owe_box rfl wA rfl (oS 0 0) rfl (fun ρ w h => box_ival shp_iv ρ _ _ w h)
    · exact owe_box rfl wA rfl (oS 1 1) rfl (fun ρ w h => box_ival shp_iv ρ _ _ w h)
    · exact mC
    · exact mC
  intro B1 a1 W1 (S1 : Sta w 43 [(2, (.box 38 (SF [(Is (.float .f64 x)), (Is (.float .f64 y))]))), (3, (.box 38 (SF [(Is (.float .f64 x1)), (Is (.float .f64 y1))])))] [] _ _ _)
  refine wp_seq ?_
  refine wp_stmt_seq [.val (Part a1 2 1), .val (Is (.float .f64 y)), .val (Part a1 3 0), .val (Is (.float .f64 x1)), kF] [.inr 0, .inr 1] [.inl 4] follows S1 rfl (by kernel_rfl) ?_ ?_
  · refine ⟨⟨⟨⟨⟨trivial, ?_⟩, ?_⟩, ?_⟩, ?_⟩, ?_⟩
    · exact owe_part rfl wA rfl (k := 0) rfl (by kernel_rfl) rfl (fun ρ w b h => part_ival1 ρ _ _ w b 0 h)
    · exact owe_pload rfl wA rfl (oO 0 6) (k := 0) rfl (by kernel_rfl) rfl (fun ρ w b u h1 h2 h3 => ploadI rfl load1_f64 ρ _ _ w b u h1 h2 h3)
    · exact owe_part rfl wA rfl (k := 1) rfl (by kernel_rfl) rfl (fun ρ w b h => part_ival0 ρ _ _ w b 0 h)
    · exact owe_pload rfl wA rfl (oO 2 8) (k := 1) rfl (by kernel_rfl) rfl (fun ρ w b u h1 h2 h3 => ploadI rfl load1_f64 ρ _ _ w b u h1 h2 h3)
    · exact owe_fcmp rfl wA rfl ((oO 1 7).imp (fl_is hy)) ((oO 3 9).imp (fl_is hx1)) (by rw [hpy, hqx]; exact lt_f g1) rfl
  intro B2 a2 W2 (S2 : Sta w 43 [(2, (.box 38 (SF [(Is (.float .f64 x)), (Is (.float .f64 y))]))), (3, (.box 38 (SF [(Is (.float .f64 x1)), (Is (.float .f64 y1))])))] [(10, bF)] _ _ _)
  refine wp_cond_false (S2.bool 0 10 rfl) ?_
  refine wp_skip ?_
  refine thenN ?_
  refine wp_seq ?_
  refine wp_stmt_seq [.val (Part a2 2 0), .val (Is (.float .f64 x)), .val (Part a2 3 1), .val (Is (.float .f64 y1)), kT] [.inr 0, .inr 1] [.inl 4] follows S2 rfl (by kernel_rfl) ?_ ?_
  · refine ⟨⟨⟨⟨⟨trivial, ?_⟩, ?_⟩, ?_⟩, ?_⟩, ?_⟩
    · exact owe_part rfl wA rfl (k := 0) rfl (by kernel_rfl) rfl (fun ρ w b h => part_ival0 ρ _ _ w b 0 h)
    · exact owe_pload rfl wA rfl (oO 0 11) (k := 0) rfl (by kernel_rfl) rfl (fun ρ w b u h1 h2 h3 => ploadI rfl load1_f64 ρ _ _ w b u h1 h2 h3)
    · exact owe_part rfl wA rfl (k := 1) rfl (by kernel_rfl) rfl (fun ρ w b h => part_ival1 ρ _ _ w b 0 h)
    · exact owe_pload rfl wA rfl (oO 2 13) (k := 1) rfl (by kernel_rfl) rfl (fun ρ w b u h1 h2 h3 => ploadI rfl load1_f64 ρ _ _ w b u h1 h2 h3)
    · exact owe_fcmp rfl wA rfl ((oO 1 12).imp (fl_is hx)) ((oO 3 14).imp (fl_is hy1)) (by rw [hpx, hqy]; exact gt_t g2) rfl
  intro B3 a3 W3 (S3 : Sta w 43 [(2, (.box 38 (SF [(Is (.float .f64 x)), (Is (.float .f64 y))]))), (3, (.box 38 (SF [(Is (.float .f64 x1)), (Is (.float .f64 y1))])))] [(15, bT)] _ _ _)
  refine wp_cond_true (S3.bool 0 15 rfl) ?_
  refine wp_stmt_seq [.val (iV 1), kT] [.inr 0, .inr 1] [.inl 0, .inl 1] follows S3 rfl (by kernel_rfl) ?_ ?_
  · refine ⟨⟨trivial, ?_⟩, ?_⟩
    · exact mC
    · exact mC
  intro B4 a4 W4 (S4 : Sta w 43 [(2, (.box 38 (SF [(Is (.float .f64 x)), (Is (.float .f64 y))]))), (3, (.box 38 (SF [(Is (.float .f64 x1)), (Is (.float .f64 y1))])))] [(4, iV 1), (5, bT)] _ _ _)
  refine wp_ret ?_
  refine thenR ?_
  exact end_two S4 rfl (res_tmp S4 0 4 rfl) (res_tmp S4 1 5 rfl)
set_option maxHeartbeats 400000 in
theorem ircmp_A (w : World) (x y x1 y1 : Nat) (hx : x < 18446744073709551616) (hy : y < 18446744073709551616) (hx1 : x1 < 18446744073709551616) (hy1 : y1 < 18446744073709551616) (px py qx qy : Int) (hpx : plc x = some px) (hpy : plc y = some py) (hqx : plc x1 = some qx) (hqy : plc y1 = some qy) (g1 : ¬ py < qx) (g2 : ¬ qy < px) (g3 : ¬ px = py) :
    Calls Tryz.prog 32 #[(.agg #[.float .f64 x, .float .f64 y]), (.agg #[.float .f64 x1, .float .f64 y1])] w (Gives (TWO (IS (.int .i64 0)) (IS (.bool false))) w) := by
  refine calls_sta (sl := [(0, (SF [(Is (.float .f64 x)), (Is (.float .f64 y))])), (1, (SF [(Is (.float .f64 x1)), (Is (.float .f64 y1))]))]) Tryz.func32 rfl Tryz.ntmps32 (by simp) (args_cons rfl (ix_has) (args_cons rfl (ix_has) args_nil)) ?_
  intro a0 S0
  refine wp_stmt_seq [.new (.box 38 (SF [(Is (.float .f64 x)), (Is (.float .f64 y))])), .new (.box 38 (SF [(Is (.float .f64 x1)), (Is (.float .f64 y1))])), .val (iV 0), kF] [.inl 0, .inl 1] [] follows S0 rfl (by kernel_rfl) ?_ ?_
  · refine ⟨⟨⟨⟨trivial, ?_⟩, ?_⟩, ?_⟩, ?_⟩
    · exact owe_box rfl wA rfl (oS 0 0) rfl (fun ρ w h => box_ival shp_iv ρ _ _ w h)
    · exact owe_box rfl wA rfl (oS 1 1) rfl (fun ρ w h => box_ival shp_iv ρ _ _ w h)
    · exact mC
    · exact mC
  intro B1 a1 W1 (S1 : Sta w 43 [(2, (.box 38 (SF [(Is (.float .f64 x)), (Is (.float .f64 y))]))), (3, (.box 38 (SF [(Is (.float .f64 x1)), (Is (.float .f64 y1))])))] [] _ _ _)
  refine wp_seq ?_
  refine wp_stmt_seq [.val (Part a1 2 1), .val (Is (.float .f64 y)), .val (Part a1 3 0), .val (Is (.float .f64 x1)), kF] [.inr 0, .inr 1] [.inl 4] follows S1 rfl (by kernel_rfl) ?_ ?_
  · refine ⟨⟨⟨⟨⟨trivial, ?_⟩, ?_⟩, ?_⟩, ?_⟩, ?_⟩
    · exact owe_part rfl wA rfl (k := 0) rfl (by kernel_rfl) rfl (fun ρ w b h => part_ival1 ρ _ _ w b 0 h)
    · exact owe_pload rfl wA rfl (oO 0 6) (k := 0) rfl (by kernel_rfl) rfl (fun ρ w b u h1 h2 h3 => ploadI rfl load1_f64 ρ _ _ w b u h1 h2 h3)
    · exact owe_part rfl wA rfl (k := 1) rfl (by kernel_rfl) rfl (fun ρ w b h => part_ival0 ρ _ _ w b 0 h)
    · exact owe_pload rfl wA rfl (oO 2 8) (k := 1) rfl (by kernel_rfl) rfl (fun ρ w b u h1 h2 h3 => ploadI rfl load1_f64 ρ _ _ w b u h1 h2 h3)
    · exact owe_fcmp rfl wA rfl ((oO 1 7).imp (fl_is hy)) ((oO 3 9).imp (fl_is hx1)) (by rw [hpy, hqx]; exact lt_f g1) rfl
  intro B2 a2 W2 (S2 : Sta w 43 [(2, (.box 38 (SF [(Is (.float .f64 x)), (Is (.float .f64 y))]))), (3, (.box 38 (SF [(Is (.float .f64 x1)), (Is (.float .f64 y1))])))] [(10, bF)] _ _ _)
  refine wp_cond_false (S2.bool 0 10 rfl) ?_
  refine wp_skip ?_
  refine thenN ?_
  refine wp_seq ?_
  refine wp_stmt_seq [.val (Part a2 2 0), .val (Is (.float .f64 x)), .val (Part a2 3 1), .val (Is (.float .f64 y1)), kF] [.inr 0, .inr 1] [.inl 4] follows S2 rfl (by kernel_rfl) ?_ ?_
  · refine ⟨⟨⟨⟨⟨trivial, ?_⟩, ?_⟩, ?_⟩, ?_⟩, ?_⟩
    · exact owe_part rfl wA rfl (k := 0) rfl (by kernel_rfl) rfl (fun ρ w b h => part_ival0 ρ _ _ w b 0 h)
    · exact owe_pload rfl wA rfl (oO 0 11) (k := 0) rfl (by kernel_rfl) rfl (fun ρ w b u h1 h2 h3 => ploadI rfl load1_f64 ρ _ _ w b u h1 h2 h3)
    · exact owe_part rfl wA rfl (k := 1) rfl (by kernel_rfl) rfl (fun ρ w b h => part_ival1 ρ _ _ w b 0 h)
    · exact owe_pload rfl wA rfl (oO 2 13) (k := 1) rfl (by kernel_rfl) rfl (fun ρ w b u h1 h2 h3 => ploadI rfl load1_f64 ρ _ _ w b u h1 h2 h3)
    · exact owe_fcmp rfl wA rfl ((oO 1 12).imp (fl_is hx)) ((oO 3 14).imp (fl_is hy1)) (by rw [hpx, hqy]; exact gt_f g2) rfl
  intro B3 a3 W3 (S3 : Sta w 43 [(2, (.box 38 (SF [(Is (.float .f64 x)), (Is (.float .f64 y))]))), (3, (.box 38 (SF [(Is (.float .f64 x1)), (Is (.float .f64 y1))])))] [(15, bF)] _ _ _)
  refine wp_cond_false (S3.bool 0 15 rfl) ?_
  refine wp_skip ?_
  refine thenN ?_
  refine wp_stmt_seq [.val (Part a3 2 0), .val (Is (.float .f64 x)), .val (Part a3 2 1), .val (Is (.float .f64 y)), kF, kF, .off, .off, .off, .off, .off, kF, kF, .off, .off, .off, .off, .off, kF, kF, .off, .off, .off, .off, .off, .off, kF, .val (iV 0), kF] [.inr 0, .inr 1] [.inl 27, .inl 28] follows S3 rfl (by kernel_rfl) ?_ ?_
  · repeat' refine And.intro ?_ ?_
    · trivial
    · exact owe_part rfl wA rfl (k := 0) rfl (by kernel_rfl) rfl (fun ρ w b h => part_ival0 ρ _ _ w b 0 h)
    · exact owe_pload rfl wA rfl (oO 0 16) (k := 0) rfl (by kernel_rfl) rfl (fun ρ w b u h1 h2 h3 => ploadI rfl load1_f64 ρ _ _ w b u h1 h2 h3)
    · exact owe_part rfl wA rfl (k := 0) rfl (by kernel_rfl) rfl (fun ρ w b h => part_ival1 ρ _ _ w b 0 h)
    · exact owe_pload rfl wA rfl (oO 2 18) (k := 0) rfl (by kernel_rfl) rfl (fun ρ w b u h1 h2 h3 => ploadI rfl load1_f64 ρ _ _ w b u h1 h2 h3)
    · exact owe_fcmp rfl wA rfl ((oO 1 17).imp (fl_is hx)) ((oO 3 19).imp (fl_is hy)) (by rw [hpx, hpy]; exact eq_f g3) rfl
    · exact mO 4 20
    · exact oF 5 21
    · exact oF 5 21
    · exact oF 5 21
    · exact oF 5 21
    · exact oF 5 21
    · exact pF wA (oO 5 21) (opnd_const _)
    · exact mO 11 27
    · exact oF 12 28
    · exact oF 12 28
    · exact oF 12 28
    · exact oF 12 28
    · exact oF 12 28
    · exact pF wA (oO 12 28) (opnd_const _)
    · exact mO 18 34
    · exact oF 19 35
    · exact oF 19 35
    · exact oF 19 35
    · exact oF 19 35
    · exact oF 19 35
    · exact oF 19 35
    · exact pF wA (oO 19 35) (opnd_const _)
    · exact mC
    · exact mO 26 42
  intro B4 a4 W4 (S4 : Sta w 43 [(2, (.box 38 (SF [(Is (.float .f64 x)), (Is (.float .f64 y))]))), (3, (.box 38 (SF [(Is (.float .f64 x1)), (Is (.float .f64 y1))])))] [(4, iV 0), (5, bF)] _ _ _)
  refine wp_ret ?_
  exact end_two S4 rfl (res_tmp S4 0 4 rfl) (res_tmp S4 1 5 rfl)
set_option maxHeartbeats 400000 in
theorem ircmp_B (w : World) (x y x1 y1 : Nat) (hx : x < 18446744073709551616) (hy : y < 18446744073709551616) (hx1 : x1 < 18446744073709551616) (hy1 : y1 < 18446744073709551616) (px py qx qy : Int) (hpx : plc x = some px) (hpy : plc y = some py) (hqx : plc x1 = some qx) (hqy : plc y1 = some qy) (g1 : ¬ py < qx) (g2 : ¬ qy < px) (g3 : px = py) (g4 : ¬ qx = qy) :
    Calls Tryz.prog 32 #[(.agg #[.float .f64 x, .float .f64 y]), (.agg #[.float .f64 x1, .float .f64 y1])] w (Gives (TWO (IS (.int .i64 0)) (IS (.bool false))) w) := by
  refine calls_sta (sl := [(0, (SF [(Is (.float .f64 x)), (Is (.float .f64 y))])), (1, (SF [(Is (.float .f64 x1)), (Is (.float .f64 y1))]))]) Tryz.func32 rfl Tryz.ntmps32 (by simp) (args_cons rfl (ix_has) (args_cons rfl (ix_has) args_nil)) ?_
  intro a0 S0
  refine wp_stmt_seq [.new (.box 38 (SF [(Is (.float .f64 x)), (Is (.float .f64 y))])), .new (.box 38 (SF [(Is (.float .f64 x1)), (Is (.float .f64 y1))])), .val (iV 0), kF] [.inl 0, .inl 1] [] follows S0 rfl (by kernel_rfl) ?_ ?_
  · refine ⟨⟨⟨⟨trivial, ?_⟩, ?_⟩, ?_⟩, ?_⟩
    · exact owe_box rfl wA rfl (oS 0 0) rfl (fun ρ w h => box_ival shp_iv ρ _ _ w h)
    · exact owe_box rfl wA rfl (oS 1 1) rfl (fun ρ w h => box_ival shp_iv ρ _ _ w h)
    · exact mC
    · exact mC
  intro B1 a1 W1 (S1 : Sta w 43 [(2, (.box 38 (SF [(Is (.float .f64 x)), (Is (.float .f64 y))]))), (3, (.box 38 (SF [(Is (.float .f64 x1)), (Is (.float .f64 y1))])))] [] _ _ _)
  refine wp_seq ?_
  refine wp_stmt_seq [.val (Part a1 2 1), .val (Is (.float .f64 y)), .val (Part a1 3 0), .val (Is (.float .f64 x1)), kF] [.inr 0, .inr 1] [.inl 4] follows S1 rfl (by kernel_rfl) ?_ ?_
  · refine ⟨⟨⟨⟨⟨trivial, ?_⟩, ?_⟩, ?_⟩, ?_⟩, ?_⟩
    · exact owe_part rfl wA rfl (k := 0) rfl (by kernel_rfl) rfl (fun ρ w b h => part_ival1 ρ _ _ w b 0 h)
    · exact owe_pload rfl wA rfl (oO 0 6) (k := 0) rfl (by kernel_rfl) rfl (fun ρ w b u h1 h2 h3 => ploadI rfl load1_f64 ρ _ _ w b u h1 h2 h3)
    · exact owe_part rfl wA rfl (k := 1) rfl (by kernel_rfl) rfl (fun ρ w b h => part_ival0 ρ _ _ w b 0 h)
    · exact owe_pload rfl wA rfl (oO 2 8) (k := 1) rfl (by kernel_rfl) rfl (fun ρ w b u h1 h2 h3 => ploadI rfl load1_f64 ρ _ _ w b u h1 h2 h3)
    · exact owe_fcmp rfl wA rfl ((oO 1 7).imp (fl_is hy)) ((oO 3 9).imp (fl_is hx1)) (by rw [hpy, hqx]; exact lt_f g1) rfl
  intro B2 a2 W2 (S2 : Sta w 43 [(2, (.box 38 (SF [(Is (.float .f64 x)), (Is (.float .f64 y))]))), (3, (.box 38 (SF [(Is (.float .f64 x1)), (Is (.float .f64 y1))])))] [(10, bF)] _ _ _)
  refine wp_cond_false (S2.bool 0 10 rfl) ?_
  refine wp_skip ?_
  refine thenN ?_
  refine wp_seq ?_
  refine wp_stmt_seq [.val (Part a2 2 0), .val (Is (.float .f64 x)), .val (Part a2 3 1), .val (Is (.float .f64 y1)), kF] [.inr 0, .inr 1] [.inl 4] follows S2 rfl (by kernel_rfl) ?_ ?_
  · refine ⟨⟨⟨⟨⟨trivial, ?_⟩, ?_⟩, ?_⟩, ?_⟩, ?_⟩
    · exact owe_part rfl wA rfl (k := 0) rfl (by kernel_rfl) rfl (fun ρ w b h => part_ival0 ρ _ _ w b 0 h)
    · exact owe_pload rfl wA rfl (oO 0 11) (k := 0) rfl (by kernel_rfl) rfl (fun ρ w b u h1 h2 h3 => ploadI rfl load1_f64 ρ _ _ w b u h1 h2 h3)
    · exact owe_part rfl wA rfl (k := 1) rfl (by kernel_rfl) rfl (fun ρ w b h => part_ival1 ρ _ _ w b 0 h)
    · exact owe_pload rfl wA rfl (oO 2 13) (k := 1) rfl (by kernel_rfl) rfl (fun ρ w b u h1 h2 h3 => ploadI rfl load1_f64 ρ _ _ w b u h1 h2 h3)
    · exact owe_fcmp rfl wA rfl ((oO 1 12).imp (fl_is hx)) ((oO 3 14).imp (fl_is hy1)) (by rw [hpx, hqy]; exact gt_f g2) rfl
  intro B3 a3 W3 (S3 : Sta w 43 [(2, (.box 38 (SF [(Is (.float .f64 x)), (Is (.float .f64 y))]))), (3, (.box 38 (SF [(Is (.float .f64 x1)), (Is (.float .f64 y1))])))] [(15, bF)] _ _ _)
  refine wp_cond_false (S3.bool 0 15 rfl) ?_
  refine wp_skip ?_
  refine thenN ?_
  refine wp_stmt_seq [.val (Part a3 2 0), .val (Is (.float .f64 x)), .val (Part a3 2 1), .val (Is (.float .f64 y)), kT, kT, .val (Part a3 3 0), .val (Is (.float .f64 x1)), .val (Part a3 3 1), .val (Is (.float .f64 y1)), kF, kF, kF, .off, .off, .off, .off, .off, kF, kF, .off, .off, .off, .off, .off, .off, kF, .val (iV 0), kF] [.inr 0, .inr 1] [.inl 27, .inl 28] follows S3 rfl (by kernel_rfl) ?_ ?_
  · repeat' refine And.intro ?_ ?_
    · trivial
    · exact owe_part rfl wA rfl (k := 0) rfl (by kernel_rfl) rfl (fun ρ w b h => part_ival0 ρ _ _ w b 0 h)
    · exact owe_pload rfl wA rfl (oO 0 16) (k := 0) rfl (by kernel_rfl) rfl (fun ρ w b u h1 h2 h3 => ploadI rfl load1_f64 ρ _ _ w b u h1 h2 h3)
    · exact owe_part rfl wA rfl (k := 0) rfl (by kernel_rfl) rfl (fun ρ w b h => part_ival1 ρ _ _ w b 0 h)
    · exact owe_pload rfl wA rfl (oO 2 18) (k := 0) rfl (by kernel_rfl) rfl (fun ρ w b u h1 h2 h3 => ploadI rfl load1_f64 ρ _ _ w b u h1 h2 h3)
    · exact owe_fcmp rfl wA rfl ((oO 1 17).imp (fl_is hx)) ((oO 3 19).imp (fl_is hy)) (by rw [hpx, hpy]; exact eq_t g3) rfl
    · exact mO 4 20
    · exact owe_part rfl (wI 5 21) rfl (k := 1) rfl (by kernel_rfl) rfl (fun ρ w b h => part_ival0 ρ _ _ w b 0 h)
    · exact owe_pload rfl (wI 5 21) rfl (oO 6 22) (k := 1) rfl (by kernel_rfl) rfl (fun ρ w b u h1 h2 h3 => ploadI rfl load1_f64 ρ _ _ w b u h1 h2 h3)
    · exact owe_part rfl (wI 5 21) rfl (k := 1) rfl (by kernel_rfl) rfl (fun ρ w b h => part_ival1 ρ _ _ w b 0 h)
    · exact owe_pload rfl (wI 5 21) rfl (oO 8 24) (k := 1) rfl (by kernel_rfl) rfl (fun ρ w b u h1 h2 h3 => ploadI rfl load1_f64 ρ _ _ w b u h1 h2 h3)
    · exact owe_fcmp rfl (wI 5 21) rfl ((oO 7 23).imp (fl_is hx1)) ((oO 9 25).imp (fl_is hy1)) (by rw [hqx, hqy]; exact eq_f g4) rfl
    · exact pT wA (oO 5 21) (oO 10 26)
    · exact mO 11 27
    · exact oF 12 28
    · exact oF 12 28
    · exact oF 12 28
    · exact oF 12 28
    · exact oF 12 28
    · exact pF wA (oO 12 28) (opnd_const _)
    · exact mO 18 34
    · exact oF 19 35
    · exact oF 19 35
    · exact oF 19 35
    · exact oF 19 35
    · exact oF 19 35
    · exact oF 19 35
    · exact pF wA (oO 19 35) (opnd_const _)
    · exact mC
    · exact mO 26 42
  intro B4 a4 W4 (S4 : Sta w 43 [(2, (.box 38 (SF [(Is (.float .f64 x)), (Is (.float .f64 y))]))), (3, (.box 38 (SF [(Is (.float .f64 x1)), (Is (.float .f64 y1))])))] [(4, iV 0), (5, bF)] _ _ _)
  refine wp_ret ?_
  exact end_two S4 rfl (res_tmp S4 0 4 rfl) (res_tmp S4 1 5 rfl)
set_option maxHeartbeats 400000 in
theorem ircmp_C (w : World) (x y x1 y1 : Nat) (hx : x < 18446744073709551616) (hy : y < 18446744073709551616) (hx1 : x1 < 18446744073709551616) (hy1 : y1 < 18446744073709551616) (px py qx qy : Int) (hpx : plc x = some px) (hpy : plc y = some py) (hqx : plc x1 = some qx) (hqy : plc y1 = some qy) (g1 : ¬ py < qx) (g2 : ¬ qy < px) (g3 : px = py) (g4 : qx = qy) (g5 : ¬ px = qx) :
    Calls Tryz.prog 32 #[(.agg #[.float .f64 x, .float .f64 y]), (.agg #[.float .f64 x1, .float .f64 y1])] w (Gives (TWO (IS (.int .i64 0)) (IS (.bool false))) w) := by
  refine calls_sta (sl := [(0, (SF [(Is (.float .f64 x)), (Is (.float .f64 y))])), (1, (SF [(Is (.float .f64 x1)), (Is (.float .f64 y1))]))]) Tryz.func32 rfl Tryz.ntmps32 (by simp) (args_cons rfl (ix_has) (args_cons rfl (ix_has) args_nil)) ?_
  intro a0 S0
  refine wp_stmt_seq [.new (.box 38 (SF [(Is (.float .f64 x)), (Is (.float .f64 y))])), .new (.box 38 (SF [(Is (.float .f64 x1)), (Is (.float .f64 y1))])), .val (iV 0), kF] [.inl 0, .inl 1] [] follows S0 rfl (by kernel_rfl) ?_ ?_
  · refine ⟨⟨⟨⟨trivial, ?_⟩, ?_⟩, ?_⟩, ?_⟩
    · exact owe_box rfl wA rfl (oS 0 0) rfl (fun ρ w h => box_ival shp_iv ρ _ _ w h)
    · exact owe_box rfl wA rfl (oS 1 1) rfl (fun ρ w h => box_ival shp_iv ρ _ _ w h)
    · exact mC
    · exact mC
  intro B1 a1 W1 (S1 : Sta w 43 [(2, (.box 38 (SF [(Is (.float .f64 x)), (Is (.float .f64 y))]))), (3, (.box 38 (SF [(Is (.float .f64 x1)), (Is (.float .f64 y1))])))] [] _ _ _)
  refine wp_seq ?_
  refine wp_stmt_seq [.val (Part a1 2 1), .val (Is (.float .f64 y)), .val (Part a1 3 0), .val (Is (.float .f64 x1)), kF] [.inr 0, .inr 1] [.inl 4] follows S1 rfl (by kernel_rfl) ?_ ?_
  · refine ⟨⟨⟨⟨⟨trivial, ?_⟩, ?_⟩, ?_⟩, ?_⟩, ?_⟩
    · exact owe_part rfl wA rfl (k := 0) rfl (by kernel_rfl) rfl (fun ρ w b h => part_ival1 ρ _ _ w b 0 h)
    · exact owe_pload rfl wA rfl (oO 0 6) (k := 0) rfl (by kernel_rfl) rfl (fun ρ w b u h1 h2 h3 => ploadI rfl load1_f64 ρ _ _ w b u h1 h2 h3)
    · exact owe_part rfl wA rfl (k := 1) rfl (by kernel_rfl) rfl (fun ρ w b h => part_ival0 ρ _ _ w b 0 h)
    · exact owe_pload rfl wA rfl (oO 2 8) (k := 1) rfl (by kernel_rfl) rfl (fun ρ w b u h1 h2 h3 => ploadI rfl load1_f64 ρ _ _ w b u h1 h2 h3)
    · exact owe_fcmp rfl wA rfl ((oO 1 7).imp (fl_is hy)) ((oO 3 9).imp (fl_is hx1)) (by rw [hpy, hqx]; exact lt_f g1) rfl
  intro B2 a2 W2 (S2 : Sta w 43 [(2, (.box 38 (SF [(Is (.float .f64 x)), (Is (.float .f64 y))]))), (3, (.box 38 (SF [(Is (.float .f64 x1)), (Is (.float .f64 y1))])))] [(10, bF)] _ _ _)
  refine wp_cond_false (S2.bool 0 10 rfl) ?_
  refine wp_skip ?_
  refine thenN ?_
  refine wp_seq ?_
  refine wp_stmt_seq [.val (Part a2 2 0), .val (Is (.float .f64 x)), .val (Part a2 3 1), .val (Is (.float .f64 y1)), kF] [.inr 0, .inr 1] [.inl 4] follows S2 rfl (by kernel_rfl) ?_ ?_
  · refine ⟨⟨⟨⟨⟨trivial, ?_⟩, ?_⟩, ?_⟩, ?_⟩, ?_⟩
    · exact owe_part rfl wA rfl (k := 0) rfl (by kernel_rfl) rfl (fun ρ w b h => part_ival0 ρ _ _ w b 0 h)
    · exact owe_pload rfl wA rfl (oO 0 11) (k := 0) rfl (by kernel_rfl) rfl (fun ρ w b u h1 h2 h3 => ploadI rfl load1_f64 ρ _ _ w b u h1 h2 h3)
    · exact owe_part rfl wA rfl (k := 1) rfl (by kernel_rfl) rfl (fun ρ w b h => part_ival1 ρ _ _ w b 0 h)
    · exact owe_pload rfl wA rfl (oO 2 13) (k := 1) rfl (by kernel_rfl) rfl (fun ρ w b u h1 h2 h3 => ploadI rfl load1_f64 ρ _ _ w b u h1 h2 h3)
    · exact owe_fcmp rfl wA rfl ((oO 1 12).imp (fl_is hx)) ((oO 3 14).imp (fl_is hy1)) (by rw [hpx, hqy]; exact gt_f g2) rfl
  intro B3 a3 W3 (S3 : Sta w 43 [(2, (.box 38 (SF [(Is (.float .f64 x)), (Is (.float .f64 y))]))), (3, (.box 38 (SF [(Is (.float .f64 x1)), (Is (.float .f64 y1))])))] [(15, bF)] _ _ _)
  refine wp_cond_false (S3.bool 0 15 rfl) ?_
  refine wp_skip ?_
  refine thenN ?_
  refine wp_stmt_seq [.val (Part a3 2 0), .val (Is (.float .f64 x)), .val (Part a3 2 1), .val (Is (.float .f64 y)), kT, kT, .val (Part a3 3 0), .val (Is (.float .f64 x1)), .val (Part a3 3 1), .val (Is (.float .f64 y1)), kT, kT, kT, .val (Part a3 2 0), .val (Is (.float .f64 x)), .val (Part a3 3 0), .val (Is (.float .f64 x1)), kF, kF, kF, .off, .off, .off, .off, .off, .off, kF, .val (iV 0), kF] [.inr 0, .inr 1] [.inl 27, .inl 28] follows S3 rfl (by kernel_rfl) ?_ ?_
  · repeat' refine And.intro ?_ ?_
    · trivial
    · exact owe_part rfl wA rfl (k := 0) rfl (by kernel_rfl) rfl (fun ρ w b h => part_ival0 ρ _ _ w b 0 h)
    · exact owe_pload rfl wA rfl (oO 0 16) (k := 0) rfl (by kernel_rfl) rfl (fun ρ w b u h1 h2 h3 => ploadI rfl load1_f64 ρ _ _ w b u h1 h2 h3)
    · exact owe_part rfl wA rfl (k := 0) rfl (by kernel_rfl) rfl (fun ρ w b h => part_ival1 ρ _ _ w b 0 h)
    · exact owe_pload rfl wA rfl (oO 2 18) (k := 0) rfl (by kernel_rfl) rfl (fun ρ w b u h1 h2 h3 => ploadI rfl load1_f64 ρ _ _ w b u h1 h2 h3)
    · exact owe_fcmp rfl wA rfl ((oO 1 17).imp (fl_is hx)) ((oO 3 19).imp (fl_is hy)) (by rw [hpx, hpy]; exact eq_t g3) rfl
    · exact mO 4 20
    · exact owe_part rfl (wI 5 21) rfl (k := 1) rfl (by kernel_rfl) rfl (fun ρ w b h => part_ival0 ρ _ _ w b 0 h)
    · exact owe_pload rfl (wI 5 21) rfl (oO 6 22) (k := 1) rfl (by kernel_rfl) rfl (fun ρ w b u h1 h2 h3 => ploadI rfl load1_f64 ρ _ _ w b u h1 h2 h3)
    · exact owe_part rfl (wI 5 21) rfl (k := 1) rfl (by kernel_rfl) rfl (fun ρ w b h => part_ival1 ρ _ _ w b 0 h)
    · exact owe_pload rfl (wI 5 21) rfl (oO 8 24) (k := 1) rfl (by kernel_rfl) rfl (fun ρ w b u h1 h2 h3 => ploadI rfl load1_f64 ρ _ _ w b u h1 h2 h3)
    · exact owe_fcmp rfl (wI 5 21) rfl ((oO 7 23).imp (fl_is hx1)) ((oO 9 25).imp (fl_is hy1)) (by rw [hqx, hqy]; exact eq_t g4) rfl
    · exact pT wA (oO 5 21) (oO 10 26)
    · exact mO 11 27
    · exact owe_part rfl (wI 12 28) rfl (k := 0) rfl (by kernel_rfl) rfl (fun ρ w b h => part_ival0 ρ _ _ w b 0 h)
    · exact owe_pload rfl (wI 12 28) rfl (oO 13 29) (k := 0) rfl (by kernel_rfl) rfl (fun ρ w b u h1 h2 h3 => ploadI rfl load1_f64 ρ _ _ w b u h1 h2 h3)
    · exact owe_part rfl (wI 12 28) rfl (k := 1) rfl (by kernel_rfl) rfl (fun ρ w b h => part_ival0 ρ _ _ w b 0 h)
    · exact owe_pload rfl (wI 12 28) rfl (oO 15 31) (k := 1) rfl (by kernel_rfl) rfl (fun ρ w b u h1 h2 h3 => ploadI rfl load1_f64 ρ _ _ w b u h1 h2 h3)
    · exact owe_fcmp rfl (wI 12 28) rfl ((oO 14 30).imp (fl_is hx)) ((oO 16 32).imp (fl_is hx1)) (by rw [hpx, hqx]; exact eq_f g5) rfl
    · exact pT wA (oO 12 28) (oO 17 33)
    · exact mO 18 34
    · exact oF 19 35
    · exact oF 19 35
    · exact oF 19 35
    · exact oF 19 35
    · exact oF 19 35
    · exact oF 19 35
    · exact pF wA (oO 19 35) (opnd_const _)
    · exact mC
    · exact mO 26 42
  intro B4 a4 W4 (S4 : Sta w 43 [(2, (.box 38 (SF [(Is (.float .f64 x)), (Is (.float .f64 y))]))), (3, (.box 38 (SF [(Is (.float .f64 x1)), (Is (.float .f64 y1))])))] [(4, iV 0), (5, bF)] _ _ _)
  refine wp_ret ?_
  exact end_two S4 rfl (res_tmp S4 0 4 rfl) (res_tmp S4 1 5 rfl)
set_option maxHeartbeats 400000 in
theorem ircmp_I (w : World) (x y x1 y1 : Nat) (hx : x < 18446744073709551616) (hy : y < 18446744073709551616) (hx1 : x1 < 18446744073709551616) (hy1 : y1 < 18446744073709551616) (px py qx qy : Int) (hpx : plc x = some px) (hpy : plc y = some py) (hqx : plc x1 = some qx) (hqy : plc y1 = some qy) (g1 : ¬ py < qx) (g2 : ¬ qy < px) (g3 : px = py) (g4 : qx = qy) (g5 : px = qx) (g6 : ¬ Fin px) :
    Calls Tryz.prog 32 #[(.agg #[.float .f64 x, .float .f64 y]), (.agg #[.float .f64 x1, .float .f64 y1])] w (Gives (TWO (IS (.int .i64 0)) (IS (.bool false))) w) := by
  refine calls_sta (sl := [(0, (SF [(Is (.float .f64 x)), (Is (.float .f64 y))])), (1, (SF [(Is (.float .f64 x1)), (Is (.float .f64 y1))]))]) Tryz.func32 rfl Tryz.ntmps32 (by simp) (args_cons rfl (ix_has) (args_cons rfl (ix_has) args_nil)) ?_
  intro a0 S0
  refine wp_stmt_seq [.new (.box 38 (SF [(Is (.float .f64 x)), (Is (.float .f64 y))])), .new (.box 38 (SF [(Is (.float .f64 x1)), (Is (.float .f64 y1))])), .val (iV 0), kF] [.inl 0, .inl 1] [] follows S0 rfl (by kernel_rfl) ?_ ?_
  · refine ⟨⟨⟨⟨trivial, ?_⟩, ?_⟩, ?_⟩, ?_⟩
    · exact owe_box rfl wA rfl (oS 0 0) rfl (fun ρ w h => box_ival shp_iv ρ _ _ w h)
    · exact owe_box rfl wA rfl (oS 1 1) rfl (fun ρ w h => box_ival shp_iv ρ _ _ w h)
    · exact mC
    · exact mC
  intro B1 a1 W1 (S1 : Sta w 43 [(2, (.box 38 (SF [(Is (.float .f64 x)), (Is (.float .f64 y))]))), (3, (.box 38 (SF [(Is (.float .f64 x1)), (Is (.float .f64 y1))])))] [] _ _ _)
  refine wp_seq ?_
  refine wp_stmt_seq [.val (Part a1 2 1), .val (Is (.float .f64 y)), .val (Part a1 3 0), .val (Is (.float .f64 x1)), kF] [.inr 0, .inr 1] [.inl 4] follows S1 rfl (by kernel_rfl) ?_ ?_
  · refine ⟨⟨⟨⟨⟨trivial, ?_⟩, ?_⟩, ?_⟩, ?_⟩, ?_⟩
    · exact owe_part rfl wA rfl (k := 0) rfl (by kernel_rfl) rfl (fun ρ w b h => part_ival1 ρ _ _ w b 0 h)
    · exact owe_pload rfl wA rfl (oO 0 6) (k := 0) rfl (by kernel_rfl) rfl (fun ρ w b u h1 h2 h3 => ploadI rfl load1_f64 ρ _ _ w b u h1 h2 h3)
    · exact owe_part rfl wA rfl (k := 1) rfl (by kernel_rfl) rfl (fun ρ w b h => part_ival0 ρ _ _ w b 0 h)
    · exact owe_pload rfl wA rfl (oO 2 8) (k := 1) rfl (by kernel_rfl) rfl (fun ρ w b u h1 h2 h3 => ploadI rfl load1_f64 ρ _ _ w b u h1 h2 h3)
    · exact owe_fcmp rfl wA rfl ((oO 1 7).imp (fl_is hy)) ((oO 3 9).imp (fl_is hx1)) (by rw [hpy, hqx]; exact lt_f g1) rfl
  intro B2 a2 W2 (S2 : Sta w 43 [(2, (.box 38 (SF [(Is (.float .f64 x)), (Is (.float .f64 y))]))), (3, (.box 38 (SF [(Is (.float .f64 x1)), (Is (.float .f64 y1))])))] [(10, bF)] _ _ _)
  refine wp_cond_false (S2.bool 0 10 rfl) ?_
  refine wp_skip ?_
  refine thenN ?_
  refine wp_seq ?_
  refine wp_stmt_seq [.val (Part a2 2 0), .val (Is (.float .f64 x)), .val (Part a2 3 1), .val (Is (.float .f64 y1)), kF] [.inr 0, .inr 1] [.inl 4] follows S2 rfl (by kernel_rfl) ?_ ?_
  · refine ⟨⟨⟨⟨⟨trivial, ?_⟩, ?_⟩, ?_⟩, ?_⟩, ?_⟩
    · exact owe_part rfl wA rfl (k := 0) rfl (by kernel_rfl) rfl (fun ρ w b h => part_ival0 ρ _ _ w b 0 h)
    · exact owe_pload rfl wA rfl (oO 0 11) (k := 0) rfl (by kernel_rfl) rfl (fun ρ w b u h1 h2 h3 => ploadI rfl load1_f64 ρ _ _ w b u h1 h2 h3)
    · exact owe_part rfl wA rfl (k := 1) rfl (by kernel_rfl) rfl (fun ρ w b h => part_ival1 ρ _ _ w b 0 h)
    · exact owe_pload rfl wA rfl (oO 2 13) (k := 1) rfl (by kernel_rfl) rfl (fun ρ w b u h1 h2 h3 => ploadI rfl load1_f64 ρ _ _ w b u h1 h2 h3)
    · exact owe_fcmp rfl wA rfl ((oO 1 12).imp (fl_is hx)) ((oO 3 14).imp (fl_is hy1)) (by rw [hpx, hqy]; exact gt_f g2) rfl
  intro B3 a3 W3 (S3 : Sta w 43 [(2, (.box 38 (SF [(Is (.float .f64 x)), (Is (.float .f64 y))]))), (3, (.box 38 (SF [(Is (.float .f64 x1)), (Is (.float .f64 y1))])))] [(15, bF)] _ _ _)
  refine wp_cond_false (S3.bool 0 15 rfl) ?_
  refine wp_skip ?_
  refine thenN ?_
  refine wp_stmt_seq [.val (Part a3 2 0), .val (Is (.float .f64 x)), .val (Part a3 2 1), .val (Is (.float .f64 y)), kT, kT, .val (Part a3 3 0), .val (Is (.float .f64 x1)), .val (Part a3 3 1), .val (Is (.float .f64 y1)), kT, kT, kT, .val (Part a3 2 0), .val (Is (.float .f64 x)), .val (Part a3 3 0), .val (Is (.float .f64 x1)), kT, kT, kT, .val (Part a3 2 0), .val (Is (.float .f64 x)), .val (Part a3 2 0), .val (Is (.float .f64 x)), .val (FL (arP .sub x x)), kF, kF, .val (iV 0), kF] [.inr 0, .inr 1] [.inl 27, .inl 28] follows S3 rfl (by kernel_rfl) ?_ ?_
  · repeat' refine And.intro ?_ ?_
    · trivial
    · exact owe_part rfl wA rfl (k := 0) rfl (by kernel_rfl) rfl (fun ρ w b h => part_ival0 ρ _ _ w b 0 h)
    · exact owe_pload rfl wA rfl (oO 0 16) (k := 0) rfl (by kernel_rfl) rfl (fun ρ w b u h1 h2 h3 => ploadI rfl load1_f64 ρ _ _ w b u h1 h2 h3)
    · exact owe_part rfl wA rfl (k := 0) rfl (by kernel_rfl) rfl (fun ρ w b h => part_ival1 ρ _ _ w b 0 h)
    · exact owe_pload rfl wA rfl (oO 2 18) (k := 0) rfl (by kernel_rfl) rfl (fun ρ w b u h1 h2 h3 => ploadI rfl load1_f64 ρ _ _ w b u h1 h2 h3)
    · exact owe_fcmp rfl wA rfl ((oO 1 17).imp (fl_is hx)) ((oO 3 19).imp (fl_is hy)) (by rw [hpx, hpy]; exact eq_t g3) rfl
    · exact mO 4 20
    · exact owe_part rfl (wI 5 21) rfl (k := 1) rfl (by kernel_rfl) rfl (fun ρ w b h => part_ival0 ρ _ _ w b 0 h)
    · exact owe_pload rfl (wI 5 21) rfl (oO 6 22) (k := 1) rfl (by kernel_rfl) rfl (fun ρ w b u h1 h2 h3 => ploadI rfl load1_f64 ρ _ _ w b u h1 h2 h3)
    · exact owe_part rfl (wI 5 21) rfl (k := 1) rfl (by kernel_rfl) rfl (fun ρ w b h => part_ival1 ρ _ _ w b 0 h)
    · exact owe_pload rfl (wI 5 21) rfl (oO 8 24) (k := 1) rfl (by kernel_rfl) rfl (fun ρ w b u h1 h2 h3 => ploadI rfl load1_f64 ρ _ _ w b u h1 h2 h3)
    · exact owe_fcmp rfl (wI 5 21) rfl ((oO 7 23).imp (fl_is hx1)) ((oO 9 25).imp (fl_is hy1)) (by rw [hqx, hqy]; exact eq_t g4) rfl
    · exact pT wA (oO 5 21) (oO 10 26)
    · exact mO 11 27
    · exact owe_part rfl (wI 12 28) rfl (k := 0) rfl (by kernel_rfl) rfl (fun ρ w b h => part_ival0 ρ _ _ w b 0 h)
    · exact owe_pload rfl (wI 12 28) rfl (oO 13 29) (k := 0) rfl (by kernel_rfl) rfl (fun ρ w b u h1 h2 h3 => ploadI rfl load1_f64 ρ _ _ w b u h1 h2 h3)
    · exact owe_part rfl (wI 12 28) rfl (k := 1) rfl (by kernel_rfl) rfl (fun ρ w b h => part_ival0 ρ _ _ w b 0 h)
    · exact owe_pload rfl (wI 12 28) rfl (oO 15 31) (k := 1) rfl (by kernel_rfl) rfl (fun ρ w b u h1 h2 h3 => ploadI rfl load1_f64 ρ _ _ w b u h1 h2 h3)
    · exact owe_fcmp rfl (wI 12 28) rfl ((oO 14 30).imp (fl_is hx)) ((oO 16 32).imp (fl_is hx1)) (by rw [hpx, hqx]; exact eq_t g5) rfl
    · exact pT wA (oO 12 28) (oO 17 33)
    · exact mO 18 34
    · exact owe_part rfl (wI 19 35) rfl (k := 0) rfl (by kernel_rfl) rfl (fun ρ w b h => part_ival0 ρ _ _ w b 0 h)
    · exact owe_pload rfl (wI 19 35) rfl (oO 20 36) (k := 0) rfl (by kernel_rfl) rfl (fun ρ w b u h1 h2 h3 => ploadI rfl load1_f64 ρ _ _ w b u h1 h2 h3)
    · exact owe_part rfl (wI 19 35) rfl (k := 0) rfl (by kernel_rfl) rfl (fun ρ w b h => part_ival0 ρ _ _ w b 0 h)
    · exact owe_pload rfl (wI 19 35) rfl (oO 22 38) (k := 0) rfl (by kernel_rfl) rfl (fun ρ w b u h1 h2 h3 => ploadI rfl load1_f64 ρ _ _ w b u h1 h2 h3)
    · exact owe_farith (by simp) rfl (wI 19 35) rfl (oO 21 37) (oO 23 39) rfl
    · exact owe_fcmp rfl (wI 19 35) rfl (oO 24 40) ((opnd_const _).imp (fl_is (by decide))) (by rw [sub_self_inf hpx g6 (plc_le hpx)]; rfl) rfl
    · exact pT wA (oO 19 35) (oO 25 41)
    · exact mC
    · exact mO 26 42
  intro B4 a4 W4 (S4 : Sta w 43 [(2, (.box 38 (SF [(Is (.float .f64 x)), (Is (.float .f64 y))]))), (3, (.box 38 (SF [(Is (.float .f64 x1)), (Is (.float .f64 y1))])))] [(4, iV 0), (5, bF)] _ _ _)
  refine wp_ret ?_
  exact end_two S4 rfl (res_tmp S4 0 4 rfl) (res_tmp S4 1 5 rfl)
set_option maxHeartbeats 400000 in
theorem ircmp_E (w : World) (x y x1 y1 : Nat) (hx : x < 18446744073709551616) (hy : y < 18446744073709551616) (hx1 : x1 < 18446744073709551616) (hy1 : y1 < 18446744073709551616) (px py qx qy : Int) (hpx : plc x = some px) (hpy : plc y = some py) (hqx : plc x1 = some qx) (hqy : plc y1 = some qy) (g1 : ¬ py < qx) (g2 : ¬ qy < px) (g3 : px = py) (g4 : qx = qy) (g5 : px = qx) (g6 : Fin px) :
    Calls Tryz.prog 32 #[(.agg #[.float .f64 x, .float .f64 y]), (.agg #[.float .f64 x1, .float .f64 y1])] w (Gives (TWO (IS (.int .i64 0)) (IS (.bool true))) w) := by
  refine calls_sta (sl := [(0, (SF [(Is (.float .f64 x)), (Is (.float .f64 y))])), (1, (SF [(Is (.float .f64 x1)), (Is (.float .f64 y1))]))]) Tryz.func32 rfl Tryz.ntmps32 (by simp) (args_cons rfl (ix_has) (args_cons rfl (ix_has) args_nil)) ?_
  intro a0 S0
  refine wp_stmt_seq [.new (.box 38 (SF [(Is (.float .f64 x)), (Is (.float .f64 y))])), .new (.box 38 (SF [(Is (.float .f64 x1)), (Is (.float .f64 y1))])), .val (iV 0), kF] [.inl 0, .inl 1] [] follows S0 rfl (by kernel_rfl) ?_ ?_
  · refine ⟨⟨⟨⟨trivial, ?_⟩, ?_⟩, ?_⟩, ?_⟩
    · exact owe_box rfl wA rfl (oS 0 0) rfl (fun ρ w h => box_ival shp_iv ρ _ _ w h)
    · exact owe_box rfl wA rfl (oS 1 1) rfl (fun ρ w h => box_ival shp_iv ρ _ _ w h)
    · exact mC
    · exact mC
  intro B1 a1 W1 (S1 : Sta w 43 [(2, (.box 38 (SF [(Is (.float .f64 x)), (Is (.float .f64 y))]))), (3, (.box 38 (SF [(Is (.float .f64 x1)), (Is (.float .f64 y1))])))] [] _ _ _)
  refine wp_seq ?_
  refine wp_stmt_seq [.val (Part a1 2 1), .val (Is (.float .f64 y)), .val (Part a1 3 0), .val (Is (.float .f64 x1)), kF] [.inr 0, .inr 1] [.inl 4] follows S1 rfl (by kernel_rfl) ?_ ?_
  · refine ⟨⟨⟨⟨⟨trivial, ?_⟩, ?_⟩, ?_⟩, ?_⟩, ?_⟩
    · exact owe_part rfl wA rfl (k := 0) rfl (by kernel_rfl) rfl (fun ρ w b h => part_ival1 ρ _ _ w b 0 h)
    · exact owe_pload rfl wA rfl (oO 0 6) (k := 0) rfl (by kernel_rfl) rfl (fun ρ w b u h1 h2 h3 => ploadI rfl load1_f64 ρ _ _ w b u h1 h2 h3)
    · exact owe_part rfl wA rfl (k := 1) rfl (by kernel_rfl) rfl (fun ρ w b h => part_ival0 ρ _ _ w b 0 h)
    · exact owe_pload rfl wA rfl (oO 2 8) (k := 1) rfl (by kernel_rfl) rfl (fun ρ w b u h1 h2 h3 => ploadI rfl load1_f64 ρ _ _ w b u h1 h2 h3)
    · exact owe_fcmp rfl wA rfl ((oO 1 7).imp (fl_is hy)) ((oO 3 9).imp (fl_is hx1)) (by rw [hpy, hqx]; exact lt_f g1) rfl
  intro B2 a2 W2 (S2 : Sta w 43 [(2, (.box 38 (SF [(Is (.float .f64 x)), (Is (.float .f64 y))]))), (3, (.box 38 (SF [(Is (.float .f64 x1)), (Is (.float .f64 y1))])))] [(10, bF)] _ _ _)
  refine wp_cond_false (S2.bool 0 10 rfl) ?_
  refine wp_skip ?_
  refine thenN ?_
  refine wp_seq ?_
  refine wp_stmt_seq [.val (Part a2 2 0), .val (Is (.float .f64 x)), .val (Part a2 3 1), .val (Is (.float .f64 y1)), kF] [.inr 0, .inr 1] [.inl 4] follows S2 rfl (by kernel_rfl) ?_ ?_
  · refine ⟨⟨⟨⟨⟨trivial, ?_⟩, ?_⟩, ?_⟩, ?_⟩, ?_⟩
    · exact owe_part rfl wA rfl (k := 0) rfl (by kernel_rfl) rfl (fun ρ w b h => part_ival0 ρ _ _ w b 0 h)
    · exact owe_pload rfl wA rfl (oO 0 11) (k := 0) rfl (by kernel_rfl) rfl (fun ρ w b u h1 h2 h3 => ploadI rfl load1_f64 ρ _ _ w b u h1 h2 h3)
    · exact owe_part rfl wA rfl (k := 1) rfl (by kernel_rfl) rfl (fun ρ w b h => part_ival1 ρ _ _ w b 0 h)
    · exact owe_pload rfl wA rfl (oO 2 13) (k := 1) rfl (by kernel_rfl) rfl (fun ρ w b u h1 h2 h3 => ploadI rfl load1_f64 ρ _ _ w b u h1 h2 h3)
    · exact owe_fcmp rfl wA rfl ((oO 1 12).imp (fl_is hx)) ((oO 3 14).imp (fl_is hy1)) (by rw [hpx, hqy]; exact gt_f g2) rfl
  intro B3 a3 W3 (S3 : Sta w 43 [(2, (.box 38 (SF [(Is (.float .f64 x)), (Is (.float .f64 y))]))), (3, (.box 38 (SF [(Is (.float .f64 x1)), (Is (.float .f64 y1))])))] [(15, bF)] _ _ _)
  refine wp_cond_false (S3.bool 0 15 rfl) ?_
  refine wp_skip ?_
  refine thenN ?_
  refine wp_stmt_seq [.val (Part a3 2 0), .val (Is (.float .f64 x)), .val (Part a3 2 1), .val (Is (.float .f64 y)), kT, kT, .val (Part a3 3 0), .val (Is (.float .f64 x1)), .val (Part a3 3 1), .val (Is (.float .f64 y1)), kT, kT, kT, .val (Part a3 2 0), .val (Is (.float .f64 x)), .val (Part a3 3 0), .val (Is (.float .f64 x1)), kT, kT, kT, .val (Part a3 2 0), .val (Is (.float .f64 x)), .val (Part a3 2 0), .val (Is (.float .f64 x)), .val (FL (arP .sub x x)), kT, kT, .val (iV 0), kT] [.inr 0, .inr 1] [.inl 27, .inl 28] follows S3 rfl (by kernel_rfl) ?_ ?_
  · repeat' refine And.intro ?_ ?_
    · trivial
    · exact owe_part rfl wA rfl (k := 0) rfl (by kernel_rfl) rfl (fun ρ w b h => part_ival0 ρ _ _ w b 0 h)
    · exact owe_pload rfl wA rfl (oO 0 16) (k := 0) rfl (by kernel_rfl) rfl (fun ρ w b u h1 h2 h3 => ploadI rfl load1_f64 ρ _ _ w b u h1 h2 h3)
    · exact owe_part rfl wA rfl (k := 0) rfl (by kernel_rfl) rfl (fun ρ w b h => part_ival1 ρ _ _ w b 0 h)
    · exact owe_pload rfl wA rfl (oO 2 18) (k := 0) rfl (by kernel_rfl) rfl (fun ρ w b u h1 h2 h3 => ploadI rfl load1_f64 ρ _ _ w b u h1 h2 h3)
    · exact owe_fcmp rfl wA rfl ((oO 1 17).imp (fl_is hx)) ((oO 3 19).imp (fl_is hy)) (by rw [hpx, hpy]; exact eq_t g3) rfl
    · exact mO 4 20
    · exact owe_part rfl (wI 5 21) rfl (k := 1) rfl (by kernel_rfl) rfl (fun ρ w b h => part_ival0 ρ _ _ w b 0 h)
    · exact owe_pload rfl (wI 5 21) rfl (oO 6 22) (k := 1) rfl (by kernel_rfl) rfl (fun ρ w b u h1 h2 h3 => ploadI rfl load1_f64 ρ _ _ w b u h1 h2 h3)
    · exact owe_part rfl (wI 5 21) rfl (k := 1) rfl (by kernel_rfl) rfl (fun ρ w b h => part_ival1 ρ _ _ w b 0 h)
    · exact owe_pload rfl (wI 5 21) rfl (oO 8 24) (k := 1) rfl (by kernel_rfl) rfl (fun ρ w b u h1 h2 h3 => ploadI rfl load1_f64 ρ _ _ w b u h1 h2 h3)
    · exact owe_fcmp rfl (wI 5 21) rfl ((oO 7 23).imp (fl_is hx1)) ((oO 9 25).imp (fl_is hy1)) (by rw [hqx, hqy]; exact eq_t g4) rfl
    · exact pT wA (oO 5 21) (oO 10 26)
    · exact mO 11 27
    · exact owe_part rfl (wI 12 28) rfl (k := 0) rfl (by kernel_rfl) rfl (fun ρ w b h => part_ival0 ρ _ _ w b 0 h)
    · exact owe_pload rfl (wI 12 28) rfl (oO 13 29) (k := 0) rfl (by kernel_rfl) rfl (fun ρ w b u h1 h2 h3 => ploadI rfl load1_f64 ρ _ _ w b u h1 h2 h3)
    · exact owe_part rfl (wI 12 28) rfl (k := 1) rfl (by kernel_rfl) rfl (fun ρ w b h => part_ival0 ρ _ _ w b 0 h)
    · exact owe_pload rfl (wI 12 28) rfl (oO 15 31) (k := 1) rfl (by kernel_rfl) rfl (fun ρ w b u h1 h2 h3 => ploadI rfl load1_f64 ρ _ _ w b u h1 h2 h3)
    · exact owe_fcmp rfl (wI 12 28) rfl ((oO 14 30).imp (fl_is hx)) ((oO 16 32).imp (fl_is hx1)) (by rw [hpx, hqx]; exact eq_t g5) rfl
    · exact pT wA (oO 12 28) (oO 17 33)
    · exact mO 18 34
    · exact owe_part rfl (wI 19 35) rfl (k := 0) rfl (by kernel_rfl) rfl (fun ρ w b h => part_ival0 ρ _ _ w b 0 h)
    · exact owe_pload rfl (wI 19 35) rfl (oO 20 36) (k := 0) rfl (by kernel_rfl) rfl (fun ρ w b u h1 h2 h3 => ploadI rfl load1_f64 ρ _ _ w b u h1 h2 h3)
    · exact owe_part rfl (wI 19 35) rfl (k := 0) rfl (by kernel_rfl) rfl (fun ρ w b h => part_ival0 ρ _ _ w b 0 h)
    · exact owe_pload rfl (wI 19 35) rfl (oO 22 38) (k := 0) rfl (by kernel_rfl) rfl (fun ρ w b u h1 h2 h3 => ploadI rfl load1_f64 ρ _ _ w b u h1 h2 h3)
    · exact owe_farith (by simp) rfl (wI 19 35) rfl (oO 21 37) (oO 23 39) rfl
    · exact owe_fcmp rfl (wI 19 35) rfl (oO 24 40) ((opnd_const _).imp (fl_is (by decide))) (by rw [sub_self_fin hpx g6]; rfl) rfl
    · exact pT wA (oO 19 35) (oO 25 41)
    · exact mC
    · exact mO 26 42
  intro B4 a4 W4 (S4 : Sta w 43 [(2, (.box 38 (SF [(Is (.float .f64 x)), (Is (.float .f64 y))]))), (3, (.box 38 (SF [(Is (.float .f64 x1)), (Is (.float .f64 y1))])))] [(4, iV 0), (5, bT)] _ _ _)
  refine wp_ret ?_
  exact end_two S4 rfl (res_tmp S4 0 4 rfl) (res_tmp S4 1 5 rfl)

theorem icmp_tt (w : World) (x y x1 y1 : Nat) (hx : x < 18446744073709551616) (hy : y < 18446744073709551616) (hx1 : x1 < 18446744073709551616) (hy1 : y1 < 18446744073709551616) (h : okI x y = true) (h' : okI x1 y1 = true) (px py qx qy : Int) (hpx : plc x = some px) (hpy : plc y = some py) (hqx : plc x1 = some qx) (hqy : plc y1 = some qy) : Calls Tryz.prog 27 #[.agg #[.float .f64 x, .float .f64 y], .agg #[.float .f64 x1, .float .f64 y1]] w (Gives (THREE (IS (.int .i64 (cmN px py qx qy))) (IS (.bool (cmS px py qx qy))) (IS (.int .i64 0))) w) := by
  unfold cmN cmS
  by_cases g1 : py < qx
  · rw [if_pos g1, if_pos g1]; exact icmp_L w x y x1 y1 hx hy hx1 hy1 h h' px py qx qy hpx hpy hqx hqy g1
  · rw [if_neg g1, if_neg g1]
    by_cases g2 : qy < px
    · rw [if_pos g2, if_pos g2]; exact icmp_G w x y x1 y1 hx hy hx1 hy1 h h' px py qx qy hpx hpy hqx hqy g1 g2
    · rw [if_neg g2, if_neg g2]
      by_cases g3 : px = qx ∧ py = qy
      · by_cases g4 : px = py
        · rcases fin_or (plc_le hpx) with g5 | g5
          · rw [decide_eq_true ⟨g3.1, g3.2, g4, g5.1, g5.2⟩]
            exact icmp_E w x y x1 y1 hx hy hx1 hy1 h h' px py qx qy hpx hpy hqx hqy g1 g2 g3 g4 (by unfold Fin at g5; omega)
          · rw [decide_eq_false (by omega)]; exact icmp_I w x y x1 y1 hx hy hx1 hy1 h h' px py qx qy hpx hpy hqx hqy g1 g2 g3 g4 g5
        · rw [decide_eq_false (fun h => g4 h.2.2.1)]; exact icmp_W w x y x1 y1 hx hy hx1 hy1 h h' px py qx qy hpx hpy hqx hqy g1 g2 g3 g4
      · rw [decide_eq_false (fun h => g3 ⟨h.1, h.2.1⟩)]; exact icmp_D w x y x1 y1 hx hy hx1 hy1 h h' px py qx qy hpx hpy hqx hqy g1 g2 g3
theorem ircmp_w (w : World) (x y x1 y1 : Nat) (hx : x < 18446744073709551616) (hy : y < 18446744073709551616) (hx1 : x1 < 18446744073709551616) (hy1 : y1 < 18446744073709551616) (px py qx qy : Int) (hpx : plc x = some px) (hpy : plc y = some py) (hqx : plc x1 = some qx) (hqy : plc y1 = some qy) : Calls Tryz.prog 32 #[.agg #[.float .f64 x, .float .f64 y], .agg #[.float .f64 x1, .float .f64 y1]] w (Gives (TWO (IS (.int .i64 (cmN px py qx qy))) (IS (.bool (cmS px py qx qy)))) w) := by
  unfold cmN cmS
  by_cases g1 : py < qx
  · rw [if_pos g1, if_pos g1]; exact ircmp_L w x y x1 y1 hx hy hx1 hy1 px py qx qy hpx hpy hqx hqy g1
  · rw [if_neg g1, if_neg g1]
    by_cases g2 : qy < px
    · rw [if_pos g2, if_pos g2]; exact ircmp_G w x y x1 y1 hx hy hx1 hy1 px py qx qy hpx hpy hqx hqy g1 g2
    · rw [if_neg g2, if_neg g2]
      by_cases g3 : px = py
      · by_cases g4 : qx = qy
        · by_cases g5 : px = qx
          · by_cases g6 : Fin px
            · rw [decide_eq_true ⟨g5, by omega, g3, g6.1, g6.2⟩]; exact ircmp_E w x y x1 y1 hx hy hx1 hy1 px py qx qy hpx hpy hqx hqy g1 g2 g3 g4 g5 g6
            · rw [decide_eq_false (fun h => g6 ⟨h.2.2.2.1, h.2.2.2.2⟩)]; exact ircmp_I w x y x1 y1 hx hy hx1 hy1 px py qx qy hpx hpy hqx hqy g1 g2 g3 g4 g5 g6
          · rw [decide_eq_false (fun h => g5 h.1)]; exact ircmp_C w x y x1 y1 hx hy hx1 hy1 px py qx qy hpx hpy hqx hqy g1 g2 g3 g4 g5
        · rw [decide_eq_false (by omega)]; exact ircmp_B w x y x1 y1 hx hy hx1 hy1 px py qx qy hpx hpy hqx hqy g1 g2 g3 g4
      · rw [decide_eq_false (fun h => g3 h.2.2.1)]; exact ircmp_A w x y x1 y1 hx hy hx1 hy1 px py qx qy hpx hpy hqx hqy g1 g2 g3
set_option maxHeartbeats 400000 in
theorem ag_f (w : World) (b : Nat) (hb : b < 18446744073709551616) (p : Int) (hp : plc b = some p) (hq : Fin p) (A : Int) (D k1 k2 : Nat) (r : Value) (hr : Has (fun _ => False) w (Rv A ((D : Nat) : Int) k1 k2) r) (hD : D ≠ 0) (b1 : k1 ≤ 8388608) (b2 : k2 ≤ 8388608) :
    Calls Tryz.prog 59 #[(.float .f64 b), r] w (Gives (IS (.int .i64 (agP p A D))) w) := by
  refine calls_sta (sl := [(0, (Is (.float .f64 b))), (1, (PR (Zv A k1) (Zv (((D : Nat) : Int)) k2)))]) Tryz.func59 rfl Tryz.ntmps59 (by simp) (args_cons rfl (is_has _) (args_cons rfl (hr) args_nil)) ?_
  intro a0 S0
  refine wp_stmt_seq [.new (.box 29 (PR (Zv A k1) (Zv (((D : Nat) : Int)) k2))), .val (iV 0)] [.inl 0] [.inr 0] follows S0 rfl (by kernel_rfl) ?_ ?_
  · refine ⟨⟨trivial, ?_⟩, ?_⟩
    · exact owe_box rfl wA rfl (oS 1 1) rfl (fun ρ w h => box_rat (shp_pr shp_zv shp_zv) ρ _ _ w h)
    · exact mC
  intro B1 a1 W1 (S1 : Sta w 26 [(3, (.box 29 (PR (Zv A k1) (Zv (((D : Nat) : Int)) k2))))] [(0, Is (.float .f64 b))] _ _ _)
  refine wp_stmt_seq [.val (Is (.float .f64 b)), .val ((TWO (RN (nR (vp p) uF) (dR (vp p) uF)) (IS (.bool true))) w.heap.size), .val ((TWO (RN (nR (vp p) uF) (dR (vp p) uF)) (IS (.bool true))) w.heap.size), .val ((RN (nR (vp p) uF) (dR (vp p) uF)) w.heap.size), kT, .new (.box 29 zR), .put (.inr 5) (.box 29 ((RN (nR (vp p) uF) (dR (vp p) uF)) w.heap.size)), kT] [.inr 0, .inl 5] [.inl 7, .inr 0] follows S1 rfl (by kernel_rfl) ?_ ?_
  · repeat' refine And.intro ?_ ?_
    · trivial
    · exact mS 0 0
    · exact cc1 wA (qO 0 10 rfl) (fresh_two (fresh_rn _ _) (fresh_is _)) (pur_is (fun w => exact_fin w b hb p hp hq))
    · exact mO 1 11
    · exact e20 wA (oO 2 9)
    · exact e21 wA (oO 2 9)
    · exact owe_new rfl wA rfl rfl (fun ρ w => alloc_rat ρ _ w)
    · exact owe_put 5 rfl wA rfl (by kernel_rfl) rfl (oO 3 12) (stores_of strct_rat shp_r0 (shp_pr shp_zn shp_zn)) rfl
    · exact mO 4 13
  intro B2 a2 W2 (S2 : Sta w 26 [(3, (.box 29 (PR (Zv A k1) (Zv (((D : Nat) : Int)) k2)))), (5, (.box 29 ((RN (nR (vp p) uF) (dR (vp p) uF)) w.heap.size)))] [(6, bT), (0, Is (.float .f64 b))] _ _ _)
  refine wp_seq ?_
  refine wp_block ?_
  refine wp_stmt_seq [kT, kT] [.inr 0, .inr 1] [.inl 1, .inr 1] follows S2 rfl (by kernel_rfl) ?_ ?_
  · refine ⟨⟨trivial, ?_⟩, ?_⟩
    · exact mS 0 6
    · exact mO 0 15
  intro B3 a3 W3 (S3 : Sta w 26 [(3, (.box 29 (PR (Zv A k1) (Zv (((D : Nat) : Int)) k2)))), (5, (.box 29 ((RN (nR (vp p) uF) (dR (vp p) uF)) w.heap.size)))] [(14, bT), (0, Is (.float .f64 b))] _ _ _)
  refine wp_cond_true (S3.bool 0 14 rfl) ?_
  refine wp_stmt_seq [.val ((RN (nR (vp p) uF) (dR (vp p) uF)) w.heap.size), .val (PR (Zv A k1) (Zv (((D : Nat) : Int)) k2)), .val ((TWO (IS (.int .i64 (agP p A D))) (IS (.int .i64 0))) w.heap.size), .val ((TWO (IS (.int .i64 (agP p A D))) (IS (.int .i64 0))) w.heap.size), .val (iV (agP p A D)), .val (iV 0), .val (iV (agP p A D)), .val (iV 0)] [] [.inl 6] follows S3 rfl (by kernel_rfl) ?_ ?_
  · repeat' refine And.intro ?_ ?_
    · trivial
    · exact lod 1 wA (loads_of strct_rat (shp_pr shp_zn shp_zn))
    · exact lod 0 wA (loads_of strct_rat (shp_pr shp_zv shp_zv))
    · exact cc2 wA (qO 0 17 rfl) (qO 1 18 rfl) (fresh_two (fresh_is _) (fresh_is _)) (fun w u0 u1 h0 h1 => Gives.cast ((fun w u v h1 h2 => g_ratcmp (dR_ne uF_no) hD (by omega) (by omega) (by omega) (by omega) w u v ((rn_rv (exn_len hq) (exd_len p)) _ _ h1) ((pr_imp (fun _ _ h => h) (fun _ _ h => h)) _ _ h2)) w u0 u1 h0 h1) (by rw [ag_fin hq]))
    · exact mO 2 19
    · exact e20 wA (oO 3 16)
    · exact e21 wA (oO 3 16)
    · exact mO 4 20
    · exact mO 5 21
  intro B4 a4 W4 (S4 : Sta w 26 [] [(7, iV (agP p A D))] _ _ _)
  refine wp_stmt_seq [.val (iV (agP p A D)), .val (iV (agP p A D))] [] [.inl 1] follows S4 rfl (by kernel_rfl) ?_ ?_
  · refine ⟨⟨trivial, ?_⟩, ?_⟩
    · exact mS 0 7
    · exact mO 0 22
  intro B5 a5 W5 (S5 : Sta w 26 [] [(4, iV (agP p A D))] _ _ _)
  refine wp_ret ?_
  refine inBlkR ?_
  refine thenR ?_
  exact end_one S5 rfl (res_tmp S5 0 4 rfl)
set_option maxHeartbeats 400000 in
theorem ag_n (w : World) (b : Nat) (hb : b < 18446744073709551616) (p : Int) (hp : plc b = some p) (hq : ¬ Fin p) (g : p < 0) (A : Int) (D k1 k2 : Nat) (r : Value) (hr : Has (fun _ => False) w (Rv A ((D : Nat) : Int) k1 k2) r) (hD : D ≠ 0) (b1 : k1 ≤ 8388608) (b2 : k2 ≤ 8388608) :
    Calls Tryz.prog 59 #[(.float .f64 b), r] w (Gives (IS (.int .i64 (-1))) w) := by
  refine calls_sta (sl := [(0, (Is (.float .f64 b))), (1, (PR (Zv A k1) (Zv (((D : Nat) : Int)) k2)))]) Tryz.func59 rfl Tryz.ntmps59 (by simp) (args_cons rfl (is_has _) (args_cons rfl (hr) args_nil)) ?_
  intro a0 S0
  refine wp_stmt_seq [.new (.box 29 (PR (Zv A k1) (Zv (((D : Nat) : Int)) k2))), .val (iV 0)] [.inl 0] [.inr 0] follows S0 rfl (by kernel_rfl) ?_ ?_
  · refine ⟨⟨trivial, ?_⟩, ?_⟩
    · exact owe_box rfl wA rfl (oS 1 1) rfl (fun ρ w h => box_rat (shp_pr shp_zv shp_zv) ρ _ _ w h)
    · exact mC
  intro B1 a1 W1 (S1 : Sta w 26 [(3, (.box 29 (PR (Zv A k1) (Zv (((D : Nat) : Int)) k2))))] [(0, Is (.float .f64 b))] _ _ _)
  refine wp_stmt_seq [.val (Is (.float .f64 b)), .val ((TWO (RN 0 1) (IS (.bool false))) w.heap.size), .val ((TWO (RN 0 1) (IS (.bool false))) w.heap.size), .val ((RN 0 1) w.heap.size), kF, .new (.box 29 zR), .put (.inr 5) (.box 29 ((RN 0 1) w.heap.size)), kF] [.inr 0, .inl 5] [.inl 7, .inr 0] follows S1 rfl (by kernel_rfl) ?_ ?_
  · repeat' refine And.intro ?_ ?_
    · trivial
    · exact mS 0 0
    · exact cc1 wA (qO 0 10 rfl) (fresh_two (fresh_rn _ _) (fresh_is _)) (pur_is (fun w => exact_not w b hb (fun p2 h2 => by rw [hp] at h2; obtain rfl := Option.some.inj h2; exact hq)))
    · exact mO 1 11
    · exact e20 wA (oO 2 9)
    · exact e21 wA (oO 2 9)
    · exact owe_new rfl wA rfl rfl (fun ρ w => alloc_rat ρ _ w)
    · exact owe_put 5 rfl wA rfl (by kernel_rfl) rfl (oO 3 12) (stores_of strct_rat shp_r0 (shp_pr shp_zn shp_zn)) rfl
    · exact mO 4 13
  intro B2 a2 W2 (S2 : Sta w 26 [(3, (.box 29 (PR (Zv A k1) (Zv (((D : Nat) : Int)) k2)))), (5, (.box 29 ((RN 0 1) w.heap.size)))] [(6, bF), (0, Is (.float .f64 b))] _ _ _)
  refine wp_seq ?_
  refine wp_block ?_
  refine wp_stmt_seq [kF, kF] [.inr 0, .inr 1] [.inl 1, .inr 1] follows S2 rfl (by kernel_rfl) ?_ ?_
  · refine ⟨⟨trivial, ?_⟩, ?_⟩
    · exact mS 0 6
    · exact mO 0 15
  intro B3 a3 W3 (S3 : Sta w 26 [(3, (.box 29 (PR (Zv A k1) (Zv (((D : Nat) : Int)) k2)))), (5, (.box 29 ((RN 0 1) w.heap.size)))] [(14, bF), (0, Is (.float .f64 b))] _ _ _)
  refine wp_cond_false (S3.bool 0 14 rfl) ?_
  refine wp_stmt_seq [.val (Is (.float .f64 b)), kT, kT] [] [.inl 2] follows S3 rfl (by kernel_rfl) ?_ ?_
  · refine ⟨⟨⟨trivial, ?_⟩, ?_⟩, ?_⟩
    · exact mS 1 0
    · exact owe_fcmp rfl wA rfl ((oO 0 24).imp (fl_is hb)) ((opnd_const _).imp (fl_is (by decide))) (by rw [hp]; exact lt_t g) rfl
    · exact mO 1 25
  intro B4 a4 W4 (S4 : Sta w 26 [] [(23, bT)] _ _ _)
  refine wp_cond_true (S4.bool 0 23 rfl) ?_
  refine wp_stmt_seq [.val (iV (-1))] [] [.inl 0] follows S4 rfl (by kernel_rfl) ?_ ?_
  · refine ⟨trivial, ?_⟩
    · exact mC
  intro B5 a5 W5 (S5 : Sta w 26 [] [(4, iV (-1))] _ _ _)
  refine wp_ret ?_
  refine inBlkR ?_
  refine thenR ?_
  exact end_one S5 rfl (res_tmp S5 0 4 rfl)
set_option maxHeartbeats 400000 in
theorem ag_p (w : World) (b : Nat) (hb : b < 18446744073709551616) (p : Int) (hp : plc b = some p) (hq : ¬ Fin p) (g : 0 ≤ p) (A : Int) (D k1 k2 : Nat) (r : Value) (hr : Has (fun _ => False) w (Rv A ((D : Nat) : Int) k1 k2) r) (hD : D ≠ 0) (b1 : k1 ≤ 8388608) (b2 : k2 ≤ 8388608) :
    Calls Tryz.prog 59 #[(.float .f64 b), r] w (Gives (IS (.int .i64 1)) w) := by
  refine calls_sta (sl := [(0, (Is (.float .f64 b))), (1, (PR (Zv A k1) (Zv (((D : Nat) : Int)) k2)))]) Tryz.func59 rfl Tryz.ntmps59 (by simp) (args_cons rfl (is_has _) (args_cons rfl (hr) args_nil)) ?_
  intro a0 S0
  refine wp_stmt_seq [.new (.box 29 (PR (Zv A k1) (Zv (((D : Nat) : Int)) k2))), .val (iV 0)] [.inl 0] [.inr 0] follows S0 rfl (by kernel_rfl) ?_ ?_
  · refine ⟨⟨trivial, ?_⟩, ?_⟩
    · exact owe_box rfl wA rfl (oS 1 1) rfl (fun ρ w h => box_rat (shp_pr shp_zv shp_zv) ρ _ _ w h)
    · exact mC
  intro B1 a1 W1 (S1 : Sta w 26 [(3, (.box 29 (PR (Zv A k1) (Zv (((D : Nat) : Int)) k2))))] [(0, Is (.float .f64 b))] _ _ _)
  refine wp_stmt_seq [.val (Is (.float .f64 b)), .val ((TWO (RN 0 1) (IS (.bool false))) w.heap.size), .val ((TWO (RN 0 1) (IS (.bool false))) w.heap.size), .val ((RN 0 1) w.heap.size), kF, .new (.box 29 zR), .put (.inr 5) (.box 29 ((RN 0 1) w.heap.size)), kF] [.inr 0, .inl 5] [.inl 7, .inr 0] follows S1 rfl (by kernel_rfl) ?_ ?_
  · repeat' refine And.intro ?_ ?_
    · trivial
    · exact mS 0 0
    · exact cc1 wA (qO 0 10 rfl) (fresh_two (fresh_rn _ _) (fresh_is _)) (pur_is (fun w => exact_not w b hb (fun p2 h2 => by rw [hp] at h2; obtain rfl := Option.some.inj h2; exact hq)))
    · exact mO 1 11
    · exact e20 wA (oO 2 9)
    · exact e21 wA (oO 2 9)
    · exact owe_new rfl wA rfl rfl (fun ρ w => alloc_rat ρ _ w)
    · exact owe_put 5 rfl wA rfl (by kernel_rfl) rfl (oO 3 12) (stores_of strct_rat shp_r0 (shp_pr shp_zn shp_zn)) rfl
    · exact mO 4 13
  intro B2 a2 W2 (S2 : Sta w 26 [(3, (.box 29 (PR (Zv A k1) (Zv (((D : Nat) : Int)) k2)))), (5, (.box 29 ((RN 0 1) w.heap.size)))] [(6, bF), (0, Is (.float .f64 b))] _ _ _)
  refine wp_seq ?_
  refine wp_block ?_
  refine wp_stmt_seq [kF, kF] [.inr 0, .inr 1] [.inl 1, .inr 1] follows S2 rfl (by kernel_rfl) ?_ ?_
  · refine ⟨⟨trivial, ?_⟩, ?_⟩
    · exact mS 0 6
    · exact mO 0 15
  intro B3 a3 W3 (S3 : Sta w 26 [(3, (.box 29 (PR (Zv A k1) (Zv (((D : Nat) : Int)) k2)))), (5, (.box 29 ((RN 0 1) w.heap.size)))] [(14, bF), (0, Is (.float .f64 b))] _ _ _)
  refine wp_cond_false (S3.bool 0 14 rfl) ?_
  refine wp_stmt_seq [.val (Is (.float .f64 b)), kF, kF] [] [.inl 2] follows S3 rfl (by kernel_rfl) ?_ ?_
  · refine ⟨⟨⟨trivial, ?_⟩, ?_⟩, ?_⟩
    · exact mS 1 0
    · exact owe_fcmp rfl wA rfl ((oO 0 24).imp (fl_is hb)) ((opnd_const _).imp (fl_is (by decide))) (by rw [hp]; exact lt_f (by omega)) rfl
    · exact mO 1 25
  intro B4 a4 W4 (S4 : Sta w 26 [] [(23, bF)] _ _ _)
  refine wp_cond_false (S4.bool 0 23 rfl) ?_
  refine wp_skip ?_
  refine inBlkN ?_
  refine thenN ?_
  refine wp_stmt_seq [.val (iV 1)] [] [.inl 0] follows S4 rfl (by kernel_rfl) ?_ ?_
  · refine ⟨trivial, ?_⟩
    · exact mC
  intro B5 a5 W5 (S5 : Sta w 26 [] [(4, iV 1)] _ _ _)
  refine wp_ret ?_
  exact end_one S5 rfl (res_tmp S5 0 4 rfl)

theorem h_against {b : Nat} (hb : b < 18446744073709551616) {p : Int} (hp : plc b = some p) {A : Int} {D k1 k2 : Nat} (hD : D ≠ 0) (b1 : k1 ≤ 8388608) (b2 : k2 ≤ 8388608) : ∀ w u v, Is (.float .f64 b) u w → Rv A ((D : Nat) : Int) k1 k2 v w → Calls Tryz.prog 59 #[u, v] w (Gives (IS (.int .i64 (agP p A D))) w) := fun w u v e h => by
  obtain rfl : u = _ := e
  by_cases hq : Fin p
  · exact ag_f w b hb p hp hq A D k1 k2 v (rv_has h) hD b1 b2
  · by_cases g : p < 0
    · rw [← ag_neg hq g]; exact ag_n w b hb p hp hq g A D k1 k2 v (rv_has h) hD b1 b2
    · rw [← ag_pos hq (by omega)]; exact ag_p w b hb p hp hq (by omega) A D k1 k2 v (rv_has h) hD b1 b2
set_option maxHeartbeats 400000 in
theorem imay_t (w : World) (A : Int) (D k1 k2 : Nat) (r : Value) (hr : Has (fun _ => False) w (Rv A ((D : Nat) : Int) k1 k2) r) (hD : D ≠ 0) (b1 : k1 ≤ 8388608) (b2 : k2 ≤ 8388608) :
    Calls Tryz.prog 58 #[r] w (Gives (IS (.bool true)) w) := by
  refine calls_sta (sl := [(0, (PR (Zv A k1) (Zv (((D : Nat) : Int)) k2)))]) Tryz.func58 rfl Tryz.ntmps58 (by simp) (args_cons rfl (hr) args_nil) ?_
  intro a0 S0
  refine wp_stmt_seq [.new (.box 29 (PR (Zv A k1) (Zv (((D : Nat) : Int)) k2))), kF] [.inl 0] [] follows S0 rfl (by kernel_rfl) ?_ ?_
  · refine ⟨⟨trivial, ?_⟩, ?_⟩
    · exact owe_box rfl wA rfl (oS 0 0) rfl (fun ρ w h => box_rat (shp_pr shp_zv shp_zv) ρ _ _ w h)
    · exact mC
  intro B1 a1 W1 (S1 : Sta w 7 [(1, (.box 29 (PR (Zv A k1) (Zv (((D : Nat) : Int)) k2))))] [] _ _ _)
  refine wp_stmt_seq [.val (Part a1 1 2), .val (Zv (((D : Nat) : Int)) k2), .val (Is (.int .i64 (((D : Nat) : Int)).sign)), kT, kT] [] [.inl 4] follows S1 rfl (by kernel_rfl) ?_ ?_
  · refine ⟨⟨⟨⟨⟨trivial, ?_⟩, ?_⟩, ?_⟩, ?_⟩, ?_⟩
    · exact owe_part rfl wA rfl (k := 0) rfl (by kernel_rfl) rfl (fun ρ w b h => part_rat1 ρ _ _ w b 0 h)
    · exact owe_pload rfl wA rfl (oO 0 3) (k := 0) rfl (by kernel_rfl) rfl (fun ρ w b u h1 h2 h3 => pload_den ρ _ _ w b u h1 h2 h3)
    · exact cc1 wA (qO 1 4 rfl) (fresh_is _) (fun w u h1 => g_zsgn (by omega) w u ((fun _ _ h => h) _ _ h1))
    · exact b_gtr_int_t wA (oO 2 5) (opnd_const _) (h := sgn_pos hD)
    · exact mO 3 6
  intro B2 a2 W2 (S2 : Sta w 7 [] [(2, bT)] _ _ _)
  refine wp_ret ?_
  exact end_one S2 rfl (res_tmp S2 0 2 rfl)
set_option maxHeartbeats 400000 in
theorem imay_f (w : World) (A D : Int) (k1 k2 : Nat) (r : Value) (hr : Has (fun _ => False) w (Rv A D k1 k2) r) (b1 : k1 ≤ 8388608) (b2 : k2 ≤ 8388608) (hD : D ≤ 0) :
    Calls Tryz.prog 58 #[r] w (Gives (IS (.bool false)) w) := by
  refine calls_sta (sl := [(0, (PR (Zv A k1) (Zv D k2)))]) Tryz.func58 rfl Tryz.ntmps58 (by simp) (args_cons rfl (hr) args_nil) ?_
  intro a0 S0
  refine wp_stmt_seq [.new (.box 29 (PR (Zv A k1) (Zv D k2))), kF] [.inl 0] [] follows S0 rfl (by kernel_rfl) ?_ ?_
  · refine ⟨⟨trivial, ?_⟩, ?_⟩
    · exact owe_box rfl wA rfl (oS 0 0) rfl (fun ρ w h => box_rat (shp_pr shp_zv shp_zv) ρ _ _ w h)
    · exact mC
  intro B1 a1 W1 (S1 : Sta w 7 [(1, (.box 29 (PR (Zv A k1) (Zv D k2))))] [] _ _ _)
  refine wp_stmt_seq [.val (Part a1 1 2), .val (Zv D k2), .val (iV ((D).sign)), kF, kF] [] [.inl 4] follows S1 rfl (by kernel_rfl) ?_ ?_
  · refine ⟨⟨⟨⟨⟨trivial, ?_⟩, ?_⟩, ?_⟩, ?_⟩, ?_⟩
    · exact owe_part rfl wA rfl (k := 0) rfl (by kernel_rfl) rfl (fun ρ w b h => part_rat1 ρ _ _ w b 0 h)
    · exact owe_pload rfl wA rfl (oO 0 3) (k := 0) rfl (by kernel_rfl) rfl (fun ρ w b u h1 h2 h3 => pload_den ρ _ _ w b u h1 h2 h3)
    · exact cc1 wA (qO 1 4 rfl) (fresh_is _) (fun w u h1 => g_zsgn (by omega) w u ((fun _ _ h => h) _ _ h1))
    · exact b_gtr_int_f wA (oO 2 5) (opnd_const _) (h := sgn_not hD)
    · exact mO 3 6
  intro B2 a2 W2 (S2 : Sta w 7 [] [(2, bF)] _ _ _)
  refine wp_ret ?_
  exact end_one S2 rfl (res_tmp S2 0 2 rfl)
set_option maxHeartbeats 400000 in
theorem ihold_f (w : World) (x y : Nat) (hx : x < 18446744073709551616) (hy : y < 18446744073709551616) (h : okI x y = false) (A D : Int) (k1 k2 : Nat) (r : Value) (hr : Has (fun _ => False) w (Rv A D k1 k2) r) (b1 : k1 ≤ 8388608) (b2 : k2 ≤ 8388608) :
    Calls Tryz.prog 28 #[(.agg #[.float .f64 x, .float .f64 y]), r] w (Gives (TWO (IS (.bool false)) (IS (.int .i64 90))) w) := by
  refine calls_sta (sl := [(0, (SF [(Is (.float .f64 x)), (Is (.float .f64 y))])), (1, (PR (Zv A k1) (Zv D k2)))]) Tryz.func28 rfl Tryz.ntmps28 (by simp) (args_cons rfl (ix_has) (args_cons rfl (hr) args_nil)) ?_
  intro a0 S0
  refine wp_stmt_seq [.new (.box 38 (SF [(Is (.float .f64 x)), (Is (.float .f64 y))])), .new (.box 29 (PR (Zv A k1) (Zv D k2))), kF, .val (iV 0)] [.inl 0, .inl 1] [] follows S0 rfl (by kernel_rfl) ?_ ?_
  · refine ⟨⟨⟨⟨trivial, ?_⟩, ?_⟩, ?_⟩, ?_⟩
    · exact owe_box rfl wA rfl (oS 0 0) rfl (fun ρ w h => box_ival shp_iv ρ _ _ w h)
    · exact owe_box rfl wA rfl (oS 1 1) rfl (fun ρ w h => box_rat (shp_pr shp_zv shp_zv) ρ _ _ w h)
    · exact mC
    · exact mC
  intro B1 a1 W1 (S1 : Sta w 27 [(2, (.box 38 (SF [(Is (.float .f64 x)), (Is (.float .f64 y))]))), (3, (.box 29 (PR (Zv A k1) (Zv D k2))))] [] _ _ _)
  refine wp_seq ?_
  refine wp_stmt_seq [.val (SF [(Is (.float .f64 x)), (Is (.float .f64 y))]), .val (iV 90), .val (iV 90)] [.inr 0, .inr 1] [.inl 2] follows S1 rfl (by kernel_rfl) ?_ ?_
  · refine ⟨⟨⟨trivial, ?_⟩, ?_⟩, ?_⟩
    · exact lod 0 wA (loads_of strct_ival shp_iv)
    · exact cc1 wA (qO 0 7 rfl) (fresh_is _) (ix1 (fun w => ivalid_f w x y hx hy h))
    · exact mO 1 8
  intro B2 a2 W2 (S2 : Sta w 27 [(2, (.box 38 (SF [(Is (.float .f64 x)), (Is (.float .f64 y))]))), (3, (.box 29 (PR (Zv A k1) (Zv D k2))))] [(6, iV 90)] _ _ _)
  refine wp_stmt_seq [.val (iV 90), kT] [.inr 0, .inr 1] [.inl 1, .inr 0] follows S2 rfl (by kernel_rfl) ?_ ?_
  · refine ⟨⟨trivial, ?_⟩, ?_⟩
    · exact mS 0 6
    · exact b_neq_errno_t wA (oO 0 9) (opnd_const _) (h := by decide)
  intro B3 a3 W3 (S3 : Sta w 27 [(2, (.box 38 (SF [(Is (.float .f64 x)), (Is (.float .f64 y))]))), (3, (.box 29 (PR (Zv A k1) (Zv D k2))))] [(10, bT), (6, iV 90)] _ _ _)
  refine wp_cond_true (S3.bool 0 10 rfl) ?_
  refine wp_stmt_seq [.val (iV 90), kF, .val (iV 90)] [.inr 0] [.inl 1, .inl 2] follows S3 rfl (by kernel_rfl) ?_ ?_
  · refine ⟨⟨⟨trivial, ?_⟩, ?_⟩, ?_⟩
    · exact mS 1 6
    · exact mC
    · exact mO 0 11
  intro B4 a4 W4 (S4 : Sta w 27 [(2, (.box 38 (SF [(Is (.float .f64 x)), (Is (.float .f64 y))])))] [(4, bF), (5, iV 90)] _ _ _)
  refine wp_ret ?_
  refine thenR ?_
  exact end_two S4 rfl (res_tmp S4 0 4 rfl) (res_tmp S4 1 5 rfl)
set_option maxHeartbeats 400000 in
theorem ihold_r (w : World) (x y : Nat) (hx : x < 18446744073709551616) (hy : y < 18446744073709551616) (h : okI x y = true) (A D : Int) (k1 k2 : Nat) (r : Value) (hr : Has (fun _ => False) w (Rv A D k1 k2) r) (b1 : k1 ≤ 8388608) (b2 : k2 ≤ 8388608) (hD : D ≤ 0) :
    Calls Tryz.prog 28 #[(.agg #[.float .f64 x, .float .f64 y]), r] w (Gives (TWO (IS (.bool false)) (IS (.int .i64 30))) w) := by
  refine calls_sta (sl := [(0, (SF [(Is (.float .f64 x)), (Is (.float .f64 y))])), (1, (PR (Zv A k1) (Zv D k2)))]) Tryz.func28 rfl Tryz.ntmps28 (by simp) (args_cons rfl (ix_has) (args_cons rfl (hr) args_nil)) ?_
  intro a0 S0
  refine wp_stmt_seq [.new (.box 38 (SF [(Is (.float .f64 x)), (Is (.float .f64 y))])), .new (.box 29 (PR (Zv A k1) (Zv D k2))), kF, .val (iV 0)] [.inl 0, .inl 1] [] follows S0 rfl (by kernel_rfl) ?_ ?_
  · refine ⟨⟨⟨⟨trivial, ?_⟩, ?_⟩, ?_⟩, ?_⟩
    · exact owe_box rfl wA rfl (oS 0 0) rfl (fun ρ w h => box_ival shp_iv ρ _ _ w h)
    · exact owe_box rfl wA rfl (oS 1 1) rfl (fun ρ w h => box_rat (shp_pr shp_zv shp_zv) ρ _ _ w h)
    · exact mC
    · exact mC
  intro B1 a1 W1 (S1 : Sta w 27 [(2, (.box 38 (SF [(Is (.float .f64 x)), (Is (.float .f64 y))]))), (3, (.box 29 (PR (Zv A k1) (Zv D k2))))] [] _ _ _)
  refine wp_seq ?_
  refine wp_stmt_seq [.val (SF [(Is (.float .f64 x)), (Is (.float .f64 y))]), .val (iV 0), .val (iV 0)] [.inr 0, .inr 1] [.inl 2] follows S1 rfl (by kernel_rfl) ?_ ?_
  · refine ⟨⟨⟨trivial, ?_⟩, ?_⟩, ?_⟩
    · exact lod 0 wA (loads_of strct_ival shp_iv)
    · exact cc1 wA (qO 0 7 rfl) (fresh_is _) (ix1 (fun w => ivalid_t w x y hx hy h))
    · exact mO 1 8
  intro B2 a2 W2 (S2 : Sta w 27 [(2, (.box 38 (SF [(Is (.float .f64 x)), (Is (.float .f64 y))]))), (3, (.box 29 (PR (Zv A k1) (Zv D k2))))] [(6, iV 0)] _ _ _)
  refine wp_stmt_seq [.val (iV 0), kF] [.inr 0, .inr 1] [.inl 1, .inr 0] follows S2 rfl (by kernel_rfl) ?_ ?_
  · refine ⟨⟨trivial, ?_⟩, ?_⟩
    · exact mS 0 6
    · exact b_neq_errno_f wA (oO 0 9) (opnd_const _) (h := by decide)
  intro B3 a3 W3 (S3 : Sta w 27 [(2, (.box 38 (SF [(Is (.float .f64 x)), (Is (.float .f64 y))]))), (3, (.box 29 (PR (Zv A k1) (Zv D k2))))] [(10, bF), (6, iV 0)] _ _ _)
  refine wp_cond_false (S3.bool 0 10 rfl) ?_
  refine wp_skip ?_
  refine thenN ?_
  refine wp_seq ?_
  refine wp_stmt_seq [.val (PR (Zv A k1) (Zv D k2)), kF, kT] [.inr 0, .inr 1] [.inl 2] follows S3 rfl (by kernel_rfl) ?_ ?_
  · refine ⟨⟨⟨trivial, ?_⟩, ?_⟩, ?_⟩
    · exact lod 1 wA (loads_of strct_rat (shp_pr shp_zv shp_zv))
    · exact cc1 wA (qO 0 12 rfl) (fresh_is _) (fun w u h1 => imay_f w A D k1 k2 u (rv_has h1) b1 b2 hD)
    · exact b_not wA (oO 1 13)
  intro B4 a4 W4 (S4 : Sta w 27 [(2, (.box 38 (SF [(Is (.float .f64 x)), (Is (.float .f64 y))]))), (3, (.box 29 (PR (Zv A k1) (Zv D k2))))] [(14, bT)] _ _ _)
  refine wp_cond_true (S4.bool 0 14 rfl) ?_
  refine wp_stmt_seq [kF, .val (iV 30)] [.inr 0] [.inl 0, .inl 1] follows S4 rfl (by kernel_rfl) ?_ ?_
  · refine ⟨⟨trivial, ?_⟩, ?_⟩
    · exact mC
    · exact mC
  intro B5 a5 W5 (S5 : Sta w 27 [(2, (.box 38 (SF [(Is (.float .f64 x)), (Is (.float .f64 y))])))] [(4, bF), (5, iV 30)] _ _ _)
  refine wp_ret ?_
  refine thenR ?_
  exact end_two S5 rfl (res_tmp S5 0 4 rfl) (res_tmp S5 1 5 rfl)
set_option maxHeartbeats 400000 in
theorem ihold_a (w : World) (x y : Nat) (hx : x < 18446744073709551616) (hy : y < 18446744073709551616) (h : okI x y = true) (px py : Int) (hpx : plc x = some px) (hpy : plc y = some py) (A : Int) (D k1 k2 : Nat) (r : Value) (hr : Has (fun _ => False) w (Rv A ((D : Nat) : Int) k1 k2) r) (hD : D ≠ 0) (b1 : k1 ≤ 8388608) (b2 : k2 ≤ 8388608) (g : ¬ agP px A D ≤ 0) :
    Calls Tryz.prog 28 #[(.agg #[.float .f64 x, .float .f64 y]), r] w (Gives (TWO (IS (.bool false)) (IS (.int .i64 0))) w) := by
  refine calls_sta (sl := [(0, (SF [(Is (.float .f64 x)), (Is (.float .f64 y))])), (1, (PR (Zv A k1) (Zv (((D : Nat) : Int)) k2)))]) Tryz.func28 rfl Tryz.ntmps28 (by simp) (args_cons rfl (ix_has) (args_cons rfl (hr) args_nil)) ?_
  intro a0 S0
  refine wp_stmt_seq [.new (.box 38 (SF [(Is (.float .f64 x)), (Is (.float .f64 y))])), .new (.box 29 (PR (Zv A k1) (Zv (((D : Nat) : Int)) k2))), kF, .val (iV 0)] [.inl 0, .inl 1] [] follows S0 rfl (by kernel_rfl) ?_ ?_
  · refine ⟨⟨⟨⟨trivial, ?_⟩, ?_⟩, ?_⟩, ?_⟩
    · exact owe_box rfl wA rfl (oS 0 0) rfl (fun ρ w h => box_ival shp_iv ρ _ _ w h)
    · exact owe_box rfl wA rfl (oS 1 1) rfl (fun ρ w h => box_rat (shp_pr shp_zv shp_zv) ρ _ _ w h)
    · exact mC
    · exact mC
  intro B1 a1 W1 (S1 : Sta w 27 [(2, (.box 38 (SF [(Is (.float .f64 x)), (Is (.float .f64 y))]))), (3, (.box 29 (PR (Zv A k1) (Zv (((D : Nat) : Int)) k2))))] [] _ _ _)
  refine wp_seq ?_
  refine wp_stmt_seq [.val (SF [(Is (.float .f64 x)), (Is (.float .f64 y))]), .val (iV 0), .val (iV 0)] [.inr 0, .inr 1] [.inl 2] follows S1 rfl (by kernel_rfl) ?_ ?_
  · refine ⟨⟨⟨trivial, ?_⟩, ?_⟩, ?_⟩
    · exact lod 0 wA (loads_of strct_ival shp_iv)
    · exact cc1 wA (qO 0 7 rfl) (fresh_is _) (ix1 (fun w => ivalid_t w x y hx hy h))
    · exact mO 1 8
  intro B2 a2 W2 (S2 : Sta w 27 [(2, (.box 38 (SF [(Is (.float .f64 x)), (Is (.float .f64 y))]))), (3, (.box 29 (PR (Zv A k1) (Zv (((D : Nat) : Int)) k2))))] [(6, iV 0)] _ _ _)
  refine wp_stmt_seq [.val (iV 0), kF] [.inr 0, .inr 1] [.inl 1, .inr 0] follows S2 rfl (by kernel_rfl) ?_ ?_
  · refine ⟨⟨trivial, ?_⟩, ?_⟩
    · exact mS 0 6
    · exact b_neq_errno_f wA (oO 0 9) (opnd_const _) (h := by decide)
  intro B3 a3 W3 (S3 : Sta w 27 [(2, (.box 38 (SF [(Is (.float .f64 x)), (Is (.float .f64 y))]))), (3, (.box 29 (PR (Zv A k1) (Zv (((D : Nat) : Int)) k2))))] [(10, bF), (6, iV 0)] _ _ _)
  refine wp_cond_false (S3.bool 0 10 rfl) ?_
  refine wp_skip ?_
  refine thenN ?_
  refine wp_seq ?_
  refine wp_stmt_seq [.val (PR (Zv A k1) (Zv (((D : Nat) : Int)) k2)), kT, kF] [.inr 0, .inr 1] [.inl 2] follows S3 rfl (by kernel_rfl) ?_ ?_
  · refine ⟨⟨⟨trivial, ?_⟩, ?_⟩, ?_⟩
    · exact lod 1 wA (loads_of strct_rat (shp_pr shp_zv shp_zv))
    · exact cc1 wA (qO 0 12 rfl) (fresh_is _) (fun w u h1 => imay_t w A D k1 k2 u (rv_has h1) hD b1 b2)
    · exact b_not wA (oO 1 13)
  intro B4 a4 W4 (S4 : Sta w 27 [(2, (.box 38 (SF [(Is (.float .f64 x)), (Is (.float .f64 y))]))), (3, (.box 29 (PR (Zv A k1) (Zv (((D : Nat) : Int)) k2))))] [(14, bF)] _ _ _)
  refine wp_cond_false (S4.bool 0 14 rfl) ?_
  refine wp_skip ?_
  refine thenN ?_
  refine wp_stmt_seq [.val (Part a4 2 0), .val (Is (.float .f64 x)), .val (PR (Zv A k1) (Zv (((D : Nat) : Int)) k2)), .val (iV (agP px A D)), kF, kF, .off, .off, .off, .off, .off, kF, kF, .val (iV 0)] [.inr 0] [.inl 12, .inl 13] follows S4 rfl (by kernel_rfl) ?_ ?_
  · repeat' refine And.intro ?_ ?_
    · trivial
    · exact owe_part rfl wA rfl (k := 0) rfl (by kernel_rfl) rfl (fun ρ w b h => part_ival0 ρ _ _ w b 0 h)
    · exact owe_pload rfl wA rfl (oO 0 15) (k := 0) rfl (by kernel_rfl) rfl (fun ρ w b u h1 h2 h3 => ploadI rfl load1_f64 ρ _ _ w b u h1 h2 h3)
    · exact lod 1 wA (loads_of strct_rat (shp_pr shp_zv shp_zv))
    · exact cc2 wA (qO 1 16 rfl) (qO 2 17 rfl) (fresh_is _) (h_against hx hpx hD b1 b2)
    · exact b_leq_int_f wA (oO 3 18) (opnd_const _)
    · exact mO 4 19
    · exact oF 5 20
    · exact oF 5 20
    · exact oF 5 20
    · exact oF 5 20
    · exact oF 5 20
    · exact pF wA (oO 5 20) (opnd_const _)
    · exact mO 11 26
    · exact mC
  intro B5 a5 W5 (S5 : Sta w 27 [(2, (.box 38 (SF [(Is (.float .f64 x)), (Is (.float .f64 y))])))] [(4, bF), (5, iV 0)] _ _ _)
  refine wp_ret ?_
  exact end_two S5 rfl (res_tmp S5 0 4 rfl) (res_tmp S5 1 5 rfl)
set_option maxHeartbeats 400000 in
theorem ihold_b (w : World) (x y : Nat) (hx : x < 18446744073709551616) (hy : y < 18446744073709551616) (h : okI x y = true) (px py : Int) (hpx : plc x = some px) (hpy : plc y = some py) (A : Int) (D k1 k2 : Nat) (r : Value) (hr : Has (fun _ => False) w (Rv A ((D : Nat) : Int) k1 k2) r) (hD : D ≠ 0) (b1 : k1 ≤ 8388608) (b2 : k2 ≤ 8388608) (g : agP px A D ≤ 0) :
    Calls Tryz.prog 28 #[(.agg #[.float .f64 x, .float .f64 y]), r] w (Gives (TWO (IS (.bool (decide (0 ≤ agP py A D)))) (IS (.int .i64 0))) w) := by
  refine calls_sta (sl := [(0, (SF [(Is (.float .f64 x)), (Is (.float .f64 y))])), (1, (PR (Zv A k1) (Zv (((D : Nat) : Int)) k2)))]) Tryz.func28 rfl Tryz.ntmps28 (by simp) (args_cons rfl (ix_has) (args_cons rfl (hr) args_nil)) ?_
  intro a0 S0
  refine wp_stmt_seq [.new (.box 38 (SF [(Is (.float .f64 x)), (Is (.float .f64 y))])), .new (.box 29 (PR (Zv A k1) (Zv (((D : Nat) : Int)) k2))), kF, .val (iV 0)] [.inl 0, .inl 1] [] follows S0 rfl (by kernel_rfl) ?_ ?_
  · refine ⟨⟨⟨⟨trivial, ?_⟩, ?_⟩, ?_⟩, ?_⟩
    · exact owe_box rfl wA rfl (oS 0 0) rfl (fun ρ w h => box_ival shp_iv ρ _ _ w h)
    · exact owe_box rfl wA rfl (oS 1 1) rfl (fun ρ w h => box_rat (shp_pr shp_zv shp_zv) ρ _ _ w h)
    · exact mC
    · exact mC
  intro B1 a1 W1 (S1 : Sta w 27 [(2, (.box 38 (SF [(Is (.float .f64 x)), (Is (.float .f64 y))]))), (3, (.box 29 (PR (Zv A k1) (Zv (((D : Nat) : Int)) k2))))] [] _ _ _)
  refine wp_seq ?_
  refine wp_stmt_seq [.val (SF [(Is (.float .f64 x)), (Is (.float .f64 y))]), .val (iV 0), .val (iV 0)] [.inr 0, .inr 1] [.inl 2] follows S1 rfl (by kernel_rfl) ?_ ?_
  · refine ⟨⟨⟨trivial, ?_⟩, ?_⟩, ?_⟩
    · exact lod 0 wA (loads_of strct_ival shp_iv)
    · exact cc1 wA (qO 0 7 rfl) (fresh_is _) (ix1 (fun w => ivalid_t w x y hx hy h))
    · exact mO 1 8
  intro B2 a2 W2 (S2 : Sta w 27 [(2, (.box 38 (SF [(Is (.float .f64 x)), (Is (.float .f64 y))]))), (3, (.box 29 (PR (Zv A k1) (Zv (((D : Nat) : Int)) k2))))] [(6, iV 0)] _ _ _)
  refine wp_stmt_seq [.val (iV 0), kF] [.inr 0, .inr 1] [.inl 1, .inr 0] follows S2 rfl (by kernel_rfl) ?_ ?_
  · refine ⟨⟨trivial, ?_⟩, ?_⟩
    · exact mS 0 6
    · exact b_neq_errno_f wA (oO 0 9) (opnd_const _) (h := by decide)
  intro B3 a3 W3 (S3 : Sta w 27 [(2, (.box 38 (SF [(Is (.float .f64 x)), (Is (.float .f64 y))]))), (3, (.box 29 (PR (Zv A k1) (Zv (((D : Nat) : Int)) k2))))] [(10, bF), (6, iV 0)] _ _ _)
  refine wp_cond_false (S3.bool 0 10 rfl) ?_
  refine wp_skip ?_
  refine thenN ?_
  refine wp_seq ?_
  refine wp_stmt_seq [.val (PR (Zv A k1) (Zv (((D : Nat) : Int)) k2)), kT, kF] [.inr 0, .inr 1] [.inl 2] follows S3 rfl (by kernel_rfl) ?_ ?_
  · refine ⟨⟨⟨trivial, ?_⟩, ?_⟩, ?_⟩
    · exact lod 1 wA (loads_of strct_rat (shp_pr shp_zv shp_zv))
    · exact cc1 wA (qO 0 12 rfl) (fresh_is _) (fun w u h1 => imay_t w A D k1 k2 u (rv_has h1) hD b1 b2)
    · exact b_not wA (oO 1 13)
  intro B4 a4 W4 (S4 : Sta w 27 [(2, (.box 38 (SF [(Is (.float .f64 x)), (Is (.float .f64 y))]))), (3, (.box 29 (PR (Zv A k1) (Zv (((D : Nat) : Int)) k2))))] [(14, bF)] _ _ _)
  refine wp_cond_false (S4.bool 0 14 rfl) ?_
  refine wp_skip ?_
  refine thenN ?_
  refine wp_stmt_seq [.val (Part a4 2 0), .val (Is (.float .f64 x)), .val (PR (Zv A k1) (Zv (((D : Nat) : Int)) k2)), .val (iV (agP px A D)), kT, kT, .val (Part a4 2 1), .val (Is (.float .f64 y)), .val (PR (Zv A k1) (Zv (((D : Nat) : Int)) k2)), .val (iV (agP py A D)), .val (Is (.bool (decide (0 ≤ agP py A D)))), .val (Is (.bool (decide (0 ≤ agP py A D)))), .val (Is (.bool (decide (0 ≤ agP py A D)))), .val (iV 0)] [.inr 0] [.inl 12, .inl 13] follows S4 rfl (by kernel_rfl) ?_ ?_
  · repeat' refine And.intro ?_ ?_
    · trivial
    · exact owe_part rfl wA rfl (k := 0) rfl (by kernel_rfl) rfl (fun ρ w b h => part_ival0 ρ _ _ w b 0 h)
    · exact owe_pload rfl wA rfl (oO 0 15) (k := 0) rfl (by kernel_rfl) rfl (fun ρ w b u h1 h2 h3 => ploadI rfl load1_f64 ρ _ _ w b u h1 h2 h3)
    · exact lod 1 wA (loads_of strct_rat (shp_pr shp_zv shp_zv))
    · exact cc2 wA (qO 1 16 rfl) (qO 2 17 rfl) (fresh_is _) (h_against hx hpx hD b1 b2)
    · exact b_leq_int_t wA (oO 3 18) (opnd_const _) (h := g)
    · exact mO 4 19
    · exact owe_part rfl (wI 5 20) rfl (k := 0) rfl (by kernel_rfl) rfl (fun ρ w b h => part_ival1 ρ _ _ w b 0 h)
    · exact owe_pload rfl (wI 5 20) rfl (oO 6 21) (k := 0) rfl (by kernel_rfl) rfl (fun ρ w b u h1 h2 h3 => ploadI rfl load1_f64 ρ _ _ w b u h1 h2 h3)
    · exact lod 1 (wI 5 20) (loads_of strct_rat (shp_pr shp_zv shp_zv))
    · exact cc2 (wI 5 20) (qO 7 22 rfl) (qO 8 23 rfl) (fresh_is _) (h_against hy hpy hD b1 b2)
    · exact owe_bin rfl (wI 5 20) rfl (oO 9 24) (opnd_const _) rfl (fun ρ w h1 h2 => by exact run_geq_int_d ρ _ _ _ w _ _ h1 h2)
    · exact pT wA (oO 5 20) (oO 10 25)
    · exact mO 11 26
    · exact mC
  intro B5 a5 W5 (S5 : Sta w 27 [(2, (.box 38 (SF [(Is (.float .f64 x)), (Is (.float .f64 y))])))] [(4, Is (.bool (decide (0 ≤ agP py A D)))), (5, iV 0)] _ _ _)
  refine wp_ret ?_
  exact end_two S5 rfl (res_tmp S5 0 4 rfl) (res_tmp S5 1 5 rfl)

theorem h_holds {x y : Nat} (hx : x < 18446744073709551616) (hy : y < 18446744073709551616) (h : okI x y = true) {px py : Int} (hpx : plc x = some px) (hpy : plc y = some py) {A : Int} {D k1 k2 : Nat} (hD : D ≠ 0) (b1 : k1 ≤ 8388608) (b2 : k2 ≤ 8388608) : ∀ w u v, SF [Is (.float .f64 x), Is (.float .f64 y)] u w → Rv A ((D : Nat) : Int) k1 k2 v w → Calls Tryz.prog 28 #[u, v] w (Gives (TWO (IS (.bool (hoB px py A D))) (IS (.int .i64 0))) w) := fun w u v e h1 => by
  rw [ix_eq e]
  unfold hoB
  by_cases g : agP px A D ≤ 0
  · rw [if_pos g]; exact ihold_b w x y hx hy h px py hpx hpy A D k1 k2 v (rv_has h1) hD b1 b2 g
  · rw [if_neg g]; exact ihold_a w x y hx hy h px py hpx hpy A D k1 k2 v (rv_has h1) hD b1 b2 g
theorem g_rrcmp {A N : Int} {D M k1 k2 k3 k4 : Nat} (hD : D ≠ 0) (hM : M ≠ 0) (b1 : k1 ≤ 8388608) (b2 : k2 ≤ 8388608) (b3 : k3 ≤ 8388608) (b4 : k4 ≤ 8388608) : ∀ w u v, Rv A (D : Int) k1 k2 u w → Rv N (M : Int) k3 k4 v w → Calls Tryz.prog 61 #[u, v] w (Gives (IS (.int .i64 (A * (M : Int) - N * (D : Int)).sign)) w) := by
  rintro w u v ⟨x0, x1, y0, y1, rfl, ⟨s, p, n, c, xs, ea, h, rfl, hn⟩, ⟨t, q, m, d, ys, eb, h', eD, hm⟩⟩ ⟨z0, z1, u0, u1, rfl, ⟨s', p', n', c', xs', ea', h2, rfl, hn'⟩, ⟨t', q', m', d', ys', eb', h2', eM, hm'⟩⟩
  simp at ea eb ea' eb'
  obtain ⟨rfl, rfl⟩ := ea
  obtain ⟨rfl, rfl⟩ := eb
  obtain ⟨rfl, rfl⟩ := ea'
  obtain ⟨rfl, rfl⟩ := eb'
  obtain ⟨rfl, rfl⟩ := zv_pos eD hD
  obtain ⟨rfl, rfl⟩ := zv_pos eM hM
  refine (rrcmp_c w s p n c xs q m d ys s' p' n' c' xs' q' m' d' ys' h h' h2 h2' hD hM (by omega) (by omega) (by omega) (by omega)).mono ?_
  rintro e w' ⟨rfl, hb⟩
  exact ⟨_, rfl, hb, rfl⟩
set_option maxHeartbeats 400000 in
theorem rhold_f (w : World) (x y : Nat) (hx : x < 18446744073709551616) (hy : y < 18446744073709551616) (px py : Int) (hpx : plc x = some px) (hpy : plc y = some py) (A : Int) (D k1 k2 : Nat) (r : Value) (hr : Has (fun _ => False) w (Rv A ((D : Nat) : Int) k1 k2) r) (hD : D ≠ 0) (b1 : k1 ≤ 8388608) (b2 : k2 ≤ 8388608) (f1 : Fin px) (g : 0 < agP px A D) :
    Calls Tryz.prog 31 #[(.agg #[.float .f64 x, .float .f64 y]), r] w (Gives (IS (.bool false)) w) := by
  refine calls_sta (sl := [(0, (SF [(Is (.float .f64 x)), (Is (.float .f64 y))])), (1, (PR (Zv A k1) (Zv (((D : Nat) : Int)) k2)))]) Tryz.func31 rfl Tryz.ntmps31 (by simp) (args_cons rfl (ix_has) (args_cons rfl (hr) args_nil)) ?_
  intro a0 S0
  refine wp_stmt_seq [.new (.box 38 (SF [(Is (.float .f64 x)), (Is (.float .f64 y))])), .new (.box 29 (PR (Zv A k1) (Zv (((D : Nat) : Int)) k2))), kF] [.inl 0, .inl 1] [] follows S0 rfl (by kernel_rfl) ?_ ?_
  · refine ⟨⟨⟨trivial, ?_⟩, ?_⟩, ?_⟩
    · exact owe_box rfl wA rfl (oS 0 0) rfl (fun ρ w h => box_ival shp_iv ρ _ _ w h)
    · exact owe_box rfl wA rfl (oS 1 1) rfl (fun ρ w h => box_rat (shp_pr shp_zv shp_zv) ρ _ _ w h)
    · exact mC
  intro B1 a1 W1 (S1 : Sta w 53 [(2, (.box 38 (SF [(Is (.float .f64 x)), (Is (.float .f64 y))]))), (3, (.box 29 (PR (Zv A k1) (Zv (((D : Nat) : Int)) k2))))] [] _ _ _)
  refine wp_stmt_seq [.val (Part a1 2 0), .val (Is (.float .f64 x)), .val ((TWO (RN (nR (vp px) uF) (dR (vp px) uF)) (IS (.bool true))) w.heap.size), .val ((TWO (RN (nR (vp px) uF) (dR (vp px) uF)) (IS (.bool true))) w.heap.size), .val ((RN (nR (vp px) uF) (dR (vp px) uF)) w.heap.size), kT, .new (.box 29 zR), .put (.inr 6) (.box 29 ((RN (nR (vp px) uF) (dR (vp px) uF)) w.heap.size)), kT] [.inr 0, .inr 1, .inl 6] [.inl 8] follows S1 rfl (by kernel_rfl) ?_ ?_
  · repeat' refine And.intro ?_ ?_
    · trivial
    · exact owe_part rfl wA rfl (k := 0) rfl (by kernel_rfl) rfl (fun ρ w b h => part_ival0 ρ _ _ w b 0 h)
    · exact owe_pload rfl wA rfl (oO 0 9) (k := 0) rfl (by kernel_rfl) rfl (fun ρ w b u h1 h2 h3 => ploadI rfl load1_f64 ρ _ _ w b u h1 h2 h3)
    · exact cc1 wA (qO 1 10 rfl) (fresh_two (fresh_rn _ _) (fresh_is _)) (pur_is (fun w => rexact_fin w x hx px hpx f1))
    · exact mO 2 11
    · exact e20 wA (oO 3 8)
    · exact e21 wA (oO 3 8)
    · exact owe_new rfl wA rfl rfl (fun ρ w => alloc_rat ρ _ w)
    · exact owe_put 6 rfl wA rfl (by kernel_rfl) rfl (oO 4 12) (stores_of strct_rat shp_r0 (shp_pr shp_zn shp_zn)) rfl
    · exact mO 5 13
  intro B2 a2 W2 (S2 : Sta w 53 [(2, (.box 38 (SF [(Is (.float .f64 x)), (Is (.float .f64 y))]))), (3, (.box 29 (PR (Zv A k1) (Zv (((D : Nat) : Int)) k2)))), (5, (.box 29 ((RN (nR (vp px) uF) (dR (vp px) uF)) w.heap.size)))] [(6, bT)] _ _ _)
  refine wp_seq ?_
  refine wp_stmt_seq [kT, kT, .val ((RN (nR (vp px) uF) (dR (vp px) uF)) w.heap.size), .val (PR (Zv A k1) (Zv (((D : Nat) : Int)) k2)), .val (iV (agP px A D)), kT, kT, kT, .off, .off, .val (Is (undef)), .off, .off, .off, .off, kT] [.inr 0, .inr 1] [.inl 15] follows S2 rfl (by kernel_rfl) ?_ ?_
  · repeat' refine And.intro ?_ ?_
    · trivial
    · exact mS 0 6
    · exact mO 0 14
    · exact lod 2 (wI 1 15) (loads_of strct_rat (shp_pr shp_zn shp_zn))
    · exact lod 1 (wI 1 15) (loads_of strct_rat (shp_pr shp_zv shp_zv))
    · exact cc2 (wI 1 15) (qO 2 16 rfl) (qO 3 17 rfl) (fresh_is _) (fun w u0 u1 h0 h1 => Gives.cast ((fun w u v h1 h2 => g_rrcmp (dR_ne uF_no) hD (by omega) (by omega) (by omega) (by omega) w u v ((rn_rv (exn_len f1) (exd_len px)) _ _ h1) ((pr_imp (fun _ _ h => h) (fun _ _ h => h)) _ _ h2)) w u0 u1 h0 h1) (by rw [ag_fin f1]))
    · exact b_gtr_int_t (wI 1 15) (oO 4 18) (opnd_const _) (h := g)
    · exact pT wA (oO 1 15) (oO 5 19)
    · exact mO 6 20
    · exact oF 7 21
    · exact oF 7 21
    · exact owe_offv 7 21 rfl rfl rfl (by kernel_rfl) rfl (by decide)
    · exact owe_offu 10 24 rfl rfl rfl (by kernel_rfl) rfl
    · exact owe_offu 10 24 rfl rfl rfl (by kernel_rfl) rfl
    · exact owe_offu 10 24 rfl rfl rfl (by kernel_rfl) rfl
    · exact oF 7 21
    · exact pT wA (oO 7 21) (opnd_const _)
  intro B3 a3 W3 (S3 : Sta w 53 [(2, (.box 38 (SF [(Is (.float .f64 x)), (Is (.float .f64 y))]))), (3, (.box 29 (PR (Zv A k1) (Zv (((D : Nat) : Int)) k2))))] [(29, bT)] _ _ _)
  refine wp_cond_true (S3.bool 0 29 rfl) ?_
  refine wp_stmt_seq [kF] [.inr 0] [.inl 0] follows S3 rfl (by kernel_rfl) ?_ ?_
  · refine ⟨trivial, ?_⟩
    · exact mC
  intro B4 a4 W4 (S4 : Sta w 53 [(2, (.box 38 (SF [(Is (.float .f64 x)), (Is (.float .f64 y))])))] [(4, bF)] _ _ _)
  refine wp_ret ?_
  refine thenR ?_
  exact end_one S4 rfl (res_tmp S4 0 4 rfl)
set_option maxHeartbeats 400000 in
theorem rhold_i (w : World) (x y : Nat) (hx : x < 18446744073709551616) (hy : y < 18446744073709551616) (px py : Int) (hpx : plc x = some px) (hpy : plc y = some py) (A : Int) (D k1 k2 : Nat) (r : Value) (hr : Has (fun _ => False) w (Rv A ((D : Nat) : Int) k1 k2) r) (hD : D ≠ 0) (b1 : k1 ≤ 8388608) (b2 : k2 ≤ 8388608) (f1 : ¬ Fin px) (g : 0 < px) :
    Calls Tryz.prog 31 #[(.agg #[.float .f64 x, .float .f64 y]), r] w (Gives (IS (.bool false)) w) := by
  refine calls_sta (sl := [(0, (SF [(Is (.float .f64 x)), (Is (.float .f64 y))])), (1, (PR (Zv A k1) (Zv (((D : Nat) : Int)) k2)))]) Tryz.func31 rfl Tryz.ntmps31 (by simp) (args_cons rfl (ix_has) (args_cons rfl (hr) args_nil)) ?_
  intro a0 S0
  refine wp_stmt_seq [.new (.box 38 (SF [(Is (.float .f64 x)), (Is (.float .f64 y))])), .new (.box 29 (PR (Zv A k1) (Zv (((D : Nat) : Int)) k2))), kF] [.inl 0, .inl 1] [] follows S0 rfl (by kernel_rfl) ?_ ?_
  · refine ⟨⟨⟨trivial, ?_⟩, ?_⟩, ?_⟩
    · exact owe_box rfl wA rfl (oS 0 0) rfl (fun ρ w h => box_ival shp_iv ρ _ _ w h)
    · exact owe_box rfl wA rfl (oS 1 1) rfl (fun ρ w h => box_rat (shp_pr shp_zv shp_zv) ρ _ _ w h)
    · exact mC
  intro B1 a1 W1 (S1 : Sta w 53 [(2, (.box 38 (SF [(Is (.float .f64 x)), (Is (.float .f64 y))]))), (3, (.box 29 (PR (Zv A k1) (Zv (((D : Nat) : Int)) k2))))] [] _ _ _)
  refine wp_stmt_seq [.val (Part a1 2 0), .val (Is (.float .f64 x)), .val ((TWO (RN 0 1) (IS (.bool false))) w.heap.size), .val ((TWO (RN 0 1) (IS (.bool false))) w.heap.size), .val ((RN 0 1) w.heap.size), kF, .new (.box 29 zR), .put (.inr 6) (.box 29 ((RN 0 1) w.heap.size)), kF] [.inr 0, .inr 1, .inl 6] [.inl 8] follows S1 rfl (by kernel_rfl) ?_ ?_
  · repeat' refine And.intro ?_ ?_
    · trivial
    · exact owe_part rfl wA rfl (k := 0) rfl (by kernel_rfl) rfl (fun ρ w b h => part_ival0 ρ _ _ w b 0 h)
    · exact owe_pload rfl wA rfl (oO 0 9) (k := 0) rfl (by kernel_rfl) rfl (fun ρ w b u h1 h2 h3 => ploadI rfl load1_f64 ρ _ _ w b u h1 h2 h3)
    · exact cc1 wA (qO 1 10 rfl) (fresh_two (fresh_rn _ _) (fresh_is _)) (pur_is (fun w => rexact_not w x hx (fun p2 h2 => by rw [hpx] at h2; obtain rfl := Option.some.inj h2; exact f1)))
    · exact mO 2 11
    · exact e20 wA (oO 3 8)
    · exact e21 wA (oO 3 8)
    · exact owe_new rfl wA rfl rfl (fun ρ w => alloc_rat ρ _ w)
    · exact owe_put 6 rfl wA rfl (by kernel_rfl) rfl (oO 4 12) (stores_of strct_rat shp_r0 (shp_pr shp_zn shp_zn)) rfl
    · exact mO 5 13
  intro B2 a2 W2 (S2 : Sta w 53 [(2, (.box 38 (SF [(Is (.float .f64 x)), (Is (.float .f64 y))]))), (3, (.box 29 (PR (Zv A k1) (Zv (((D : Nat) : Int)) k2)))), (5, (.box 29 ((RN 0 1) w.heap.size)))] [(6, bF)] _ _ _)
  refine wp_seq ?_
  refine wp_stmt_seq [kF, kF, .off, .off, .off, .off, kF, kF, kF, kT, kT, .val (Part a2 2 0), .val (Is (.float .f64 x)), kT, kT, kT] [.inr 0, .inr 1] [.inl 15] follows S2 rfl (by kernel_rfl) ?_ ?_
  · repeat' refine And.intro ?_ ?_
    · trivial
    · exact mS 0 6
    · exact mO 0 14
    · exact oF 1 15
    · exact oF 1 15
    · exact oF 1 15
    · exact oF 1 15
    · exact pF wA (oO 1 15) (opnd_const _)
    · exact mO 6 20
    · exact mW (wI 7 21) (oS 0 6)
    · exact b_not (wI 7 21) (oO 8 22)
    · exact mW (wI 7 21) (oO 9 23)
    · exact owe_part rfl (wI 10 24) rfl (k := 0) rfl (by kernel_rfl) rfl (fun ρ w b h => part_ival0 ρ _ _ w b 0 h)
    · exact owe_pload rfl (wI 10 24) rfl (oO 11 25) (k := 0) rfl (by kernel_rfl) rfl (fun ρ w b u h1 h2 h3 => ploadI rfl load1_f64 ρ _ _ w b u h1 h2 h3)
    · exact owe_fcmp rfl (wI 10 24) rfl ((oO 12 26).imp (fl_is hx)) ((opnd_const _).imp (fl_is (by decide))) (by rw [hpx]; exact gt_t g) rfl
    · exact pT (wI 7 21) (oO 10 24) (oO 13 27)
    · exact pF wA (oO 7 21) (oO 14 28)
  intro B3 a3 W3 (S3 : Sta w 53 [(2, (.box 38 (SF [(Is (.float .f64 x)), (Is (.float .f64 y))]))), (3, (.box 29 (PR (Zv A k1) (Zv (((D : Nat) : Int)) k2))))] [(29, bT)] _ _ _)
  refine wp_cond_true (S3.bool 0 29 rfl) ?_
  refine wp_stmt_seq [kF] [.inr 0] [.inl 0] follows S3 rfl (by kernel_rfl) ?_ ?_
  · refine ⟨trivial, ?_⟩
    · exact mC
  intro B4 a4 W4 (S4 : Sta w 53 [(2, (.box 38 (SF [(Is (.float .f64 x)), (Is (.float .f64 y))])))] [(4, bF)] _ _ _)
  refine wp_ret ?_
  refine thenR ?_
  exact end_one S4 rfl (res_tmp S4 0 4 rfl)
set_option maxHeartbeats 400000 in
theorem rhold_ff (w : World) (x y : Nat) (hx : x < 18446744073709551616) (hy : y < 18446744073709551616) (px py : Int) (hpx : plc x = some px) (hpy : plc y = some py) (A : Int) (D k1 k2 : Nat) (r : Value) (hr : Has (fun _ => False) w (Rv A ((D : Nat) : Int) k1 k2) r) (hD : D ≠ 0) (b1 : k1 ≤ 8388608) (b2 : k2 ≤ 8388608) (f1 : Fin px) (g : agP px A D ≤ 0) (f2 : Fin py) (g2 : agP py A D < 0) :
    Calls Tryz.prog 31 #[(.agg #[.float .f64 x, .float .f64 y]), r] w (Gives (IS (.bool false)) w) := by
  refine calls_sta (sl := [(0, (SF [(Is (.float .f64 x)), (Is (.float .f64 y))])), (1, (PR (Zv A k1) (Zv (((D : Nat) : Int)) k2)))]) Tryz.func31 rfl Tryz.ntmps31 (by simp) (args_cons rfl (ix_has) (args_cons rfl (hr) args_nil)) ?_
  intro a0 S0
  refine wp_stmt_seq [.new (.box 38 (SF [(Is (.float .f64 x)), (Is (.float .f64 y))])), .new (.box 29 (PR (Zv A k1) (Zv (((D : Nat) : Int)) k2))), kF] [.inl 0, .inl 1] [] follows S0 rfl (by kernel_rfl) ?_ ?_
  · refine ⟨⟨⟨trivial, ?_⟩, ?_⟩, ?_⟩
    · exact owe_box rfl wA rfl (oS 0 0) rfl (fun ρ w h => box_ival shp_iv ρ _ _ w h)
    · exact owe_box rfl wA rfl (oS 1 1) rfl (fun ρ w h => box_rat (shp_pr shp_zv shp_zv) ρ _ _ w h)
    · exact mC
  intro B1 a1 W1 (S1 : Sta w 53 [(2, (.box 38 (SF [(Is (.float .f64 x)), (Is (.float .f64 y))]))), (3, (.box 29 (PR (Zv A k1) (Zv (((D : Nat) : Int)) k2))))] [] _ _ _)
  refine wp_stmt_seq [.val (Part a1 2 0), .val (Is (.float .f64 x)), .val ((TWO (RN (nR (vp px) uF) (dR (vp px) uF)) (IS (.bool true))) w.heap.size), .val ((TWO (RN (nR (vp px) uF) (dR (vp px) uF)) (IS (.bool true))) w.heap.size), .val ((RN (nR (vp px) uF) (dR (vp px) uF)) w.heap.size), kT, .new (.box 29 zR), .put (.inr 6) (.box 29 ((RN (nR (vp px) uF) (dR (vp px) uF)) w.heap.size)), kT] [.inr 0, .inr 1, .inl 6] [.inl 8] follows S1 rfl (by kernel_rfl) ?_ ?_
  · repeat' refine And.intro ?_ ?_
    · trivial
    · exact owe_part rfl wA rfl (k := 0) rfl (by kernel_rfl) rfl (fun ρ w b h => part_ival0 ρ _ _ w b 0 h)
    · exact owe_pload rfl wA rfl (oO 0 9) (k := 0) rfl (by kernel_rfl) rfl (fun ρ w b u h1 h2 h3 => ploadI rfl load1_f64 ρ _ _ w b u h1 h2 h3)
    · exact cc1 wA (qO 1 10 rfl) (fresh_two (fresh_rn _ _) (fresh_is _)) (pur_is (fun w => rexact_fin w x hx px hpx f1))
    · exact mO 2 11
    · exact e20 wA (oO 3 8)
    · exact e21 wA (oO 3 8)
    · exact owe_new rfl wA rfl rfl (fun ρ w => alloc_rat ρ _ w)
    · exact owe_put 6 rfl wA rfl (by kernel_rfl) rfl (oO 4 12) (stores_of strct_rat shp_r0 (shp_pr shp_zn shp_zn)) rfl
    · exact mO 5 13
  intro B2 a2 W2 (S2 : Sta w 53 [(2, (.box 38 (SF [(Is (.float .f64 x)), (Is (.float .f64 y))]))), (3, (.box 29 (PR (Zv A k1) (Zv (((D : Nat) : Int)) k2)))), (5, (.box 29 ((RN (nR (vp px) uF) (dR (vp px) uF)) w.heap.size)))] [(6, bT)] _ _ _)
  refine wp_seq ?_
  refine wp_stmt_seq [kT, kT, .val ((RN (nR (vp px) uF) (dR (vp px) uF)) w.heap.size), .val (PR (Zv A k1) (Zv (((D : Nat) : Int)) k2)), .val (iV (agP px A D)), kF, kF, kF, kT, kF, kF, .off, .off, .off, kF, kF] [.inr 0, .inr 1] [.inl 15] follows S2 rfl (by kernel_rfl) ?_ ?_
  · repeat' refine And.intro ?_ ?_
    · trivial
    · exact mS 0 6
    · exact mO 0 14
    · exact lod 2 (wI 1 15) (loads_of strct_rat (shp_pr shp_zn shp_zn))
    · exact lod 1 (wI 1 15) (loads_of strct_rat (shp_pr shp_zv shp_zv))
    · exact cc2 (wI 1 15) (qO 2 16 rfl) (qO 3 17 rfl) (fresh_is _) (fun w u0 u1 h0 h1 => Gives.cast ((fun w u v h1 h2 => g_rrcmp (dR_ne uF_no) hD (by omega) (by omega) (by omega) (by omega) w u v ((rn_rv (exn_len f1) (exd_len px)) _ _ h1) ((pr_imp (fun _ _ h => h) (fun _ _ h => h)) _ _ h2)) w u0 u1 h0 h1) (by rw [ag_fin f1]))
    · exact b_gtr_int_f (wI 1 15) (oO 4 18) (opnd_const _) (h := g)
    · exact pT wA (oO 1 15) (oO 5 19)
    · exact mO 6 20
    · exact mW (wI 7 21) (oS 0 6)
    · exact b_not (wI 7 21) (oO 8 22)
    · exact mW (wI 7 21) (oO 9 23)
    · exact oF 10 24
    · exact oF 10 24
    · exact oF 10 24
    · exact pF (wI 7 21) (oO 10 24) (opnd_const _)
    · exact pF wA (oO 7 21) (oO 14 28)
  intro B3 a3 W3 (S3 : Sta w 53 [(2, (.box 38 (SF [(Is (.float .f64 x)), (Is (.float .f64 y))]))), (3, (.box 29 (PR (Zv A k1) (Zv (((D : Nat) : Int)) k2))))] [(29, bF)] _ _ _)
  refine wp_cond_false (S3.bool 0 29 rfl) ?_
  refine wp_skip ?_
  refine thenN ?_
  refine wp_stmt_seq [.val (Part a3 2 1), .val (Is (.float .f64 y)), .val ((TWO (RN (nR (vp py) uF) (dR (vp py) uF)) (IS (.bool true))) w.heap.size), .val ((TWO (RN (nR (vp py) uF) (dR (vp py) uF)) (IS (.bool true))) w.heap.size), .val ((RN (nR (vp py) uF) (dR (vp py) uF)) w.heap.size), kT, .new (.box 29 zR), .put (.inr 6) (.box 29 ((RN (nR (vp py) uF) (dR (vp py) uF)) w.heap.size)), kT] [.inr 0, .inr 1, .inl 6] [.inl 8] follows S3 rfl (by kernel_rfl) ?_ ?_
  · repeat' refine And.intro ?_ ?_
    · trivial
    · exact owe_part rfl wA rfl (k := 0) rfl (by kernel_rfl) rfl (fun ρ w b h => part_ival1 ρ _ _ w b 0 h)
    · exact owe_pload rfl wA rfl (oO 0 31) (k := 0) rfl (by kernel_rfl) rfl (fun ρ w b u h1 h2 h3 => ploadI rfl load1_f64 ρ _ _ w b u h1 h2 h3)
    · exact cc1 wA (qO 1 32 rfl) (fresh_two (fresh_rn _ _) (fresh_is _)) (pur_is (fun w => rexact_fin w y hy py hpy f2))
    · exact mO 2 33
    · exact e20 wA (oO 3 30)
    · exact e21 wA (oO 3 30)
    · exact owe_new rfl wA rfl rfl (fun ρ w => alloc_rat ρ _ w)
    · exact owe_put 6 rfl wA rfl (by kernel_rfl) rfl (oO 4 34) (stores_of strct_rat shp_r0 (shp_pr shp_zn shp_zn)) rfl
    · exact mO 5 35
  intro B4 a4 W4 (S4 : Sta w 53 [(2, (.box 38 (SF [(Is (.float .f64 x)), (Is (.float .f64 y))]))), (3, (.box 29 (PR (Zv A k1) (Zv (((D : Nat) : Int)) k2)))), (7, (.box 29 ((RN (nR (vp py) uF) (dR (vp py) uF)) w.heap.size)))] [(6, bT)] _ _ _)
  refine wp_stmt_seq [kT, kT, .val (PR (Zv A k1) (Zv (((D : Nat) : Int)) k2)), .val ((RN (nR (vp py) uF) (dR (vp py) uF)) w.heap.size), .val (iV (-agP py A D)), kT, kT, kT, .off, .off, .val (Is (undef)), .off, .off, .off, .off, kT, kF, kF] [.inr 0] [.inl 17] follows S4 rfl (by kernel_rfl) ?_ ?_
  · repeat' refine And.intro ?_ ?_
    · trivial
    · exact mS 0 6
    · exact mO 0 36
    · exact lod 1 (wI 1 37) (loads_of strct_rat (shp_pr shp_zv shp_zv))
    · exact lod 2 (wI 1 37) (loads_of strct_rat (shp_pr shp_zn shp_zn))
    · exact cc2 (wI 1 37) (qO 2 38 rfl) (qO 3 39 rfl) (fresh_is _) (fun w u0 u1 h0 h1 => Gives.cast ((fun w u v h1 h2 => g_rrcmp hD (dR_ne uF_no) (by omega) (by omega) (by omega) (by omega) w u v ((pr_imp (fun _ _ h => h) (fun _ _ h => h)) _ _ h1) ((rn_rv (exn_len f2) (exd_len py)) _ _ h2)) w u0 u1 h0 h1) (by rw [ag_fin' f2]))
    · exact b_gtr_int_t (wI 1 37) (oO 4 40) (opnd_const _)
    · exact pT wA (oO 1 37) (oO 5 41)
    · exact mO 6 42
    · exact oF 7 43
    · exact oF 7 43
    · exact owe_offv 7 43 rfl rfl rfl (by kernel_rfl) rfl (by decide)
    · exact owe_offu 10 46 rfl rfl rfl (by kernel_rfl) rfl
    · exact owe_offu 10 46 rfl rfl rfl (by kernel_rfl) rfl
    · exact owe_offu 10 46 rfl rfl rfl (by kernel_rfl) rfl
    · exact oF 7 43
    · exact pT wA (oO 7 43) (opnd_const _)
    · exact b_not wA (oO 15 51)
    · exact mO 16 52
  intro B5 a5 W5 (S5 : Sta w 53 [(2, (.box 38 (SF [(Is (.float .f64 x)), (Is (.float .f64 y))])))] [(4, bF)] _ _ _)
  refine wp_ret ?_
  exact end_one S5 rfl (res_tmp S5 0 4 rfl)
set_option maxHeartbeats 400000 in
theorem rhold_fg (w : World) (x y : Nat) (hx : x < 18446744073709551616) (hy : y < 18446744073709551616) (px py : Int) (hpx : plc x = some px) (hpy : plc y = some py) (A : Int) (D k1 k2 : Nat) (r : Value) (hr : Has (fun _ => False) w (Rv A ((D : Nat) : Int) k1 k2) r) (hD : D ≠ 0) (b1 : k1 ≤ 8388608) (b2 : k2 ≤ 8388608) (f1 : Fin px) (g : agP px A D ≤ 0) (f2 : Fin py) (g2 : 0 ≤ agP py A D) :
    Calls Tryz.prog 31 #[(.agg #[.float .f64 x, .float .f64 y]), r] w (Gives (IS (.bool true)) w) := by
  refine calls_sta (sl := [(0, (SF [(Is (.float .f64 x)), (Is (.float .f64 y))])), (1, (PR (Zv A k1) (Zv (((D : Nat) : Int)) k2)))]) Tryz.func31 rfl Tryz.ntmps31 (by simp) (args_cons rfl (ix_has) (args_cons rfl (hr) args_nil)) ?_
  intro a0 S0
  refine wp_stmt_seq [.new (.box 38 (SF [(Is (.float .f64 x)), (Is (.float .f64 y))])), .new (.box 29 (PR (Zv A k1) (Zv (((D : Nat) : Int)) k2))), kF] [.inl 0, .inl 1] [] follows S0 rfl (by kernel_rfl) ?_ ?_
  · refine ⟨⟨⟨trivial, ?_⟩, ?_⟩, ?_⟩
    · exact owe_box rfl wA rfl (oS 0 0) rfl (fun ρ w h => box_ival shp_iv ρ _ _ w h)
    · exact owe_box rfl wA rfl (oS 1 1) rfl (fun ρ w h => box_rat (shp_pr shp_zv shp_zv) ρ _ _ w h)
    · exact mC
  intro B1 a1 W1 (S1 : Sta w 53 [(2, (.box 38 (SF [(Is (.float .f64 x)), (Is (.float .f64 y))]))), (3, (.box 29 (PR (Zv A k1) (Zv (((D : Nat) : Int)) k2))))] [] _ _ _)
  refine wp_stmt_seq [.val (Part a1 2 0), .val (Is (.float .f64 x)), .val ((TWO (RN (nR (vp px) uF) (dR (vp px) uF)) (IS (.bool true))) w.heap.size), .val ((TWO (RN (nR (vp px) uF) (dR (vp px) uF)) (IS (.bool true))) w.heap.size), .val ((RN (nR (vp px) uF) (dR (vp px) uF)) w.heap.size), kT, .new (.box 29 zR), .put (.inr 6) (.box 29 ((RN (nR (vp px) uF) (dR (vp px) uF)) w.heap.size)), kT] [.inr 0, .inr 1, .inl 6] [.inl 8] follows S1 rfl (by kernel_rfl) ?_ ?_
  · repeat' refine And.intro ?_ ?_
    · trivial
    · exact owe_part rfl wA rfl (k := 0) rfl (by kernel_rfl) rfl (fun ρ w b h => part_ival0 ρ _ _ w b 0 h)
    · exact owe_pload rfl wA rfl (oO 0 9) (k := 0) rfl (by kernel_rfl) rfl (fun ρ w b u h1 h2 h3 => ploadI rfl load1_f64 ρ _ _ w b u h1 h2 h3)
    · exact cc1 wA (qO 1 10 rfl) (fresh_two (fresh_rn _ _) (fresh_is _)) (pur_is (fun w => rexact_fin w x hx px hpx f1))
    · exact mO 2 11
    · exact e20 wA (oO 3 8)
    · exact e21 wA (oO 3 8)
    · exact owe_new rfl wA rfl rfl (fun ρ w => alloc_rat ρ _ w)
    · exact owe_put 6 rfl wA rfl (by kernel_rfl) rfl (oO 4 12) (stores_of strct_rat shp_r0 (shp_pr shp_zn shp_zn)) rfl
    · exact mO 5 13
  intro B2 a2 W2 (S2 : Sta w 53 [(2, (.box 38 (SF [(Is (.float .f64 x)), (Is (.float .f64 y))]))), (3, (.box 29 (PR (Zv A k1) (Zv (((D : Nat) : Int)) k2)))), (5, (.box 29 ((RN (nR (vp px) uF) (dR (vp px) uF)) w.heap.size)))] [(6, bT)] _ _ _)
  refine wp_seq ?_
  refine wp_stmt_seq [kT, kT, .val ((RN (nR (vp px) uF) (dR (vp px) uF)) w.heap.size), .val (PR (Zv A k1) (Zv (((D : Nat) : Int)) k2)), .val (iV (agP px A D)), kF, kF, kF, kT, kF, kF, .off, .off, .off, kF, kF] [.inr 0, .inr 1] [.inl 15] follows S2 rfl (by kernel_rfl) ?_ ?_
  · repeat' refine And.intro ?_ ?_
    · trivial
    · exact mS 0 6
    · exact mO 0 14
    · exact lod 2 (wI 1 15) (loads_of strct_rat (shp_pr shp_zn shp_zn))
    · exact lod 1 (wI 1 15) (loads_of strct_rat (shp_pr shp_zv shp_zv))
    · exact cc2 (wI 1 15) (qO 2 16 rfl) (qO 3 17 rfl) (fresh_is _) (fun w u0 u1 h0 h1 => Gives.cast ((fun w u v h1 h2 => g_rrcmp (dR_ne uF_no) hD (by omega) (by omega) (by omega) (by omega) w u v ((rn_rv (exn_len f1) (exd_len px)) _ _ h1) ((pr_imp (fun _ _ h => h) (fun _ _ h => h)) _ _ h2)) w u0 u1 h0 h1) (by rw [ag_fin f1]))
    · exact b_gtr_int_f (wI 1 15) (oO 4 18) (opnd_const _) (h := g)
    · exact pT wA (oO 1 15) (oO 5 19)
    · exact mO 6 20
    · exact mW (wI 7 21) (oS 0 6)
    · exact b_not (wI 7 21) (oO 8 22)
    · exact mW (wI 7 21) (oO 9 23)
    · exact oF 10 24
    · exact oF 10 24
    · exact oF 10 24
    · exact pF (wI 7 21) (oO 10 24) (opnd_const _)
    · exact pF wA (oO 7 21) (oO 14 28)
  intro B3 a3 W3 (S3 : Sta w 53 [(2, (.box 38 (SF [(Is (.float .f64 x)), (Is (.float .f64 y))]))), (3, (.box 29 (PR (Zv A k1) (Zv (((D : Nat) : Int)) k2))))] [(29, bF)] _ _ _)
  refine wp_cond_false (S3.bool 0 29 rfl) ?_
  refine wp_skip ?_
  refine thenN ?_
  refine wp_stmt_seq [.val (Part a3 2 1), .val (Is (.float .f64 y)), .val ((TWO (RN (nR (vp py) uF) (dR (vp py) uF)) (IS (.bool true))) w.heap.size), .val ((TWO (RN (nR (vp py) uF) (dR (vp py) uF)) (IS (.bool true))) w.heap.size), .val ((RN (nR (vp py) uF) (dR (vp py) uF)) w.heap.size), kT, .new (.box 29 zR), .put (.inr 6) (.box 29 ((RN (nR (vp py) uF) (dR (vp py) uF)) w.heap.size)), kT] [.inr 0, .inr 1, .inl 6] [.inl 8] follows S3 rfl (by kernel_rfl) ?_ ?_
  · repeat' refine And.intro ?_ ?_
    · trivial
    · exact owe_part rfl wA rfl (k := 0) rfl (by kernel_rfl) rfl (fun ρ w b h => part_ival1 ρ _ _ w b 0 h)
    · exact owe_pload rfl wA rfl (oO 0 31) (k := 0) rfl (by kernel_rfl) rfl (fun ρ w b u h1 h2 h3 => ploadI rfl load1_f64 ρ _ _ w b u h1 h2 h3)
    · exact cc1 wA (qO 1 32 rfl) (fresh_two (fresh_rn _ _) (fresh_is _)) (pur_is (fun w => rexact_fin w y hy py hpy f2))
    · exact mO 2 33
    · exact e20 wA (oO 3 30)
    · exact e21 wA (oO 3 30)
    · exact owe_new rfl wA rfl rfl (fun ρ w => alloc_rat ρ _ w)
    · exact owe_put 6 rfl wA rfl (by kernel_rfl) rfl (oO 4 34) (stores_of strct_rat shp_r0 (shp_pr shp_zn shp_zn)) rfl
    · exact mO 5 35
  intro B4 a4 W4 (S4 : Sta w 53 [(2, (.box 38 (SF [(Is (.float .f64 x)), (Is (.float .f64 y))]))), (3, (.box 29 (PR (Zv A k1) (Zv (((D : Nat) : Int)) k2)))), (7, (.box 29 ((RN (nR (vp py) uF) (dR (vp py) uF)) w.heap.size)))] [(6, bT)] _ _ _)
  refine wp_stmt_seq [kT, kT, .val (PR (Zv A k1) (Zv (((D : Nat) : Int)) k2)), .val ((RN (nR (vp py) uF) (dR (vp py) uF)) w.heap.size), .val (iV (-agP py A D)), kF, kF, kF, kT, kF, kF, .off, .off, .off, kF, kF, kT, kT] [.inr 0] [.inl 17] follows S4 rfl (by kernel_rfl) ?_ ?_
  · repeat' refine And.intro ?_ ?_
    · trivial
    · exact mS 0 6
    · exact mO 0 36
    · exact lod 1 (wI 1 37) (loads_of strct_rat (shp_pr shp_zv shp_zv))
    · exact lod 2 (wI 1 37) (loads_of strct_rat (shp_pr shp_zn shp_zn))
    · exact cc2 (wI 1 37) (qO 2 38 rfl) (qO 3 39 rfl) (fresh_is _) (fun w u0 u1 h0 h1 => Gives.cast ((fun w u v h1 h2 => g_rrcmp hD (dR_ne uF_no) (by omega) (by omega) (by omega) (by omega) w u v ((pr_imp (fun _ _ h => h) (fun _ _ h => h)) _ _ h1) ((rn_rv (exn_len f2) (exd_len py)) _ _ h2)) w u0 u1 h0 h1) (by rw [ag_fin' f2]))
    · exact b_gtr_int_f (wI 1 37) (oO 4 40) (opnd_const _)
    · exact pT wA (oO 1 37) (oO 5 41)
    · exact mO 6 42
    · exact mW (wI 7 43) (oS 0 6)
    · exact b_not (wI 7 43) (oO 8 44)
    · exact mW (wI 7 43) (oO 9 45)
    · exact oF 10 46
    · exact oF 10 46
    · exact oF 10 46
    · exact pF (wI 7 43) (oO 10 46) (opnd_const _)
    · exact pF wA (oO 7 43) (oO 14 50)
    · exact b_not wA (oO 15 51)
    · exact mO 16 52
  intro B5 a5 W5 (S5 : Sta w 53 [(2, (.box 38 (SF [(Is (.float .f64 x)), (Is (.float .f64 y))])))] [(4, bT)] _ _ _)
  refine wp_ret ?_
  exact end_one S5 rfl (res_tmp S5 0 4 rfl)
set_option maxHeartbeats 400000 in
theorem rhold_fi (w : World) (x y : Nat) (hx : x < 18446744073709551616) (hy : y < 18446744073709551616) (px py : Int) (hpx : plc x = some px) (hpy : plc y = some py) (A : Int) (D k1 k2 : Nat) (r : Value) (hr : Has (fun _ => False) w (Rv A ((D : Nat) : Int) k1 k2) r) (hD : D ≠ 0) (b1 : k1 ≤ 8388608) (b2 : k2 ≤ 8388608) (f1 : Fin px) (g : agP px A D ≤ 0) (f2 : ¬ Fin py) (g2 : py < 0) :
    Calls Tryz.prog 31 #[(.agg #[.float .f64 x, .float .f64 y]), r] w (Gives (IS (.bool false)) w) := by
  refine calls_sta (sl := [(0, (SF [(Is (.float .f64 x)), (Is (.float .f64 y))])), (1, (PR (Zv A k1) (Zv (((D : Nat) : Int)) k2)))]) Tryz.func31 rfl Tryz.ntmps31 (by simp) (args_cons rfl (ix_has) (args_cons rfl (hr) args_nil)) ?_
  intro a0 S0
  refine wp_stmt_seq [.new (.box 38 (SF [(Is (.float .f64 x)), (Is (.float .f64 y))])), .new (.box 29 (PR (Zv A k1) (Zv (((D : Nat) : Int)) k2))), kF] [.inl 0, .inl 1] [] follows S0 rfl (by kernel_rfl) ?_ ?_
  · refine ⟨⟨⟨trivial, ?_⟩, ?_⟩, ?_⟩
    · exact owe_box rfl wA rfl (oS 0 0) rfl (fun ρ w h => box_ival shp_iv ρ _ _ w h)
    · exact owe_box rfl wA rfl (oS 1 1) rfl (fun ρ w h => box_rat (shp_pr shp_zv shp_zv) ρ _ _ w h)
    · exact mC
  intro B1 a1 W1 (S1 : Sta w 53 [(2, (.box 38 (SF [(Is (.float .f64 x)), (Is (.float .f64 y))]))), (3, (.box 29 (PR (Zv A k1) (Zv (((D : Nat) : Int)) k2))))] [] _ _ _)
  refine wp_stmt_seq [.val (Part a1 2 0), .val (Is (.float .f64 x)), .val ((TWO (RN (nR (vp px) uF) (dR (vp px) uF)) (IS (.bool true))) w.heap.size), .val ((TWO (RN (nR (vp px) uF) (dR (vp px) uF)) (IS (.bool true))) w.heap.size), .val ((RN (nR (vp px) uF) (dR (vp px) uF)) w.heap.size), kT, .new (.box 29 zR), .put (.inr 6) (.box 29 ((RN (nR (vp px) uF) (dR (vp px) uF)) w.heap.size)), kT] [.inr 0, .inr 1, .inl 6] [.inl 8] follows S1 rfl (by kernel_rfl) ?_ ?_
  · repeat' refine And.intro ?_ ?_
    · trivial
    · exact owe_part rfl wA rfl (k := 0) rfl (by kernel_rfl) rfl (fun ρ w b h => part_ival0 ρ _ _ w b 0 h)
    · exact owe_pload rfl wA rfl (oO 0 9) (k := 0) rfl (by kernel_rfl) rfl (fun ρ w b u h1 h2 h3 => ploadI rfl load1_f64 ρ _ _ w b u h1 h2 h3)
    · exact cc1 wA (qO 1 10 rfl) (fresh_two (fresh_rn _ _) (fresh_is _)) (pur_is (fun w => rexact_fin w x hx px hpx f1))
    · exact mO 2 11
    · exact e20 wA (oO 3 8)
    · exact e21 wA (oO 3 8)
    · exact owe_new rfl wA rfl rfl (fun ρ w => alloc_rat ρ _ w)
    · exact owe_put 6 rfl wA rfl (by kernel_rfl) rfl (oO 4 12) (stores_of strct_rat shp_r0 (shp_pr shp_zn shp_zn)) rfl
    · exact mO 5 13
  intro B2 a2 W2 (S2 : Sta w 53 [(2, (.box 38 (SF [(Is (.float .f64 x)), (Is (.float .f64 y))]))), (3, (.box 29 (PR (Zv A k1) (Zv (((D : Nat) : Int)) k2)))), (5, (.box 29 ((RN (nR (vp px) uF) (dR (vp px) uF)) w.heap.size)))] [(6, bT)] _ _ _)
  refine wp_seq ?_
  refine wp_stmt_seq [kT, kT, .val ((RN (nR (vp px) uF) (dR (vp px) uF)) w.heap.size), .val (PR (Zv A k1) (Zv (((D : Nat) : Int)) k2)), .val (iV (agP px A D)), kF, kF, kF, kT, kF, kF, .off, .off, .off, kF, kF] [.inr 0, .inr 1] [.inl 15] follows S2 rfl (by kernel_rfl) ?_ ?_
  · repeat' refine And.intro ?_ ?_
    · trivial
    · exact mS 0 6
    · exact mO 0 14
    · exact lod 2 (wI 1 15) (loads_of strct_rat (shp_pr shp_zn shp_zn))
    · exact lod 1 (wI 1 15) (loads_of strct_rat (shp_pr shp_zv shp_zv))
    · exact cc2 (wI 1 15) (qO 2 16 rfl) (qO 3 17 rfl) (fresh_is _) (fun w u0 u1 h0 h1 => Gives.cast ((fun w u v h1 h2 => g_rrcmp (dR_ne uF_no) hD (by omega) (by omega) (by omega) (by omega) w u v ((rn_rv (exn_len f1) (exd_len px)) _ _ h1) ((pr_imp (fun _ _ h => h) (fun _ _ h => h)) _ _ h2)) w u0 u1 h0 h1) (by rw [ag_fin f1]))
    · exact b_gtr_int_f (wI 1 15) (oO 4 18) (opnd_const _) (h := g)
    · exact pT wA (oO 1 15) (oO 5 19)
    · exact mO 6 20
    · exact mW (wI 7 21) (oS 0 6)
    · exact b_not (wI 7 21) (oO 8 22)
    · exact mW (wI 7 21) (oO 9 23)
    · exact oF 10 24
    · exact oF 10 24
    · exact oF 10 24
    · exact pF (wI 7 21) (oO 10 24) (opnd_const _)
    · exact pF wA (oO 7 21) (oO 14 28)
  intro B3 a3 W3 (S3 : Sta w 53 [(2, (.box 38 (SF [(Is (.float .f64 x)), (Is (.float .f64 y))]))), (3, (.box 29 (PR (Zv A k1) (Zv (((D : Nat) : Int)) k2))))] [(29, bF)] _ _ _)
  refine wp_cond_false (S3.bool 0 29 rfl) ?_
  refine wp_skip ?_
  refine thenN ?_
  refine wp_stmt_seq [.val (Part a3 2 1), .val (Is (.float .f64 y)), .val ((TWO (RN 0 1) (IS (.bool false))) w.heap.size), .val ((TWO (RN 0 1) (IS (.bool false))) w.heap.size), .val ((RN 0 1) w.heap.size), kF, .new (.box 29 zR), .put (.inr 6) (.box 29 ((RN 0 1) w.heap.size)), kF] [.inr 0, .inr 1, .inl 6] [.inl 8] follows S3 rfl (by kernel_rfl) ?_ ?_
  · repeat' refine And.intro ?_ ?_
    · trivial
    · exact owe_part rfl wA rfl (k := 0) rfl (by kernel_rfl) rfl (fun ρ w b h => part_ival1 ρ _ _ w b 0 h)
    · exact owe_pload rfl wA rfl (oO 0 31) (k := 0) rfl (by kernel_rfl) rfl (fun ρ w b u h1 h2 h3 => ploadI rfl load1_f64 ρ _ _ w b u h1 h2 h3)
    · exact cc1 wA (qO 1 32 rfl) (fresh_two (fresh_rn _ _) (fresh_is _)) (pur_is (fun w => rexact_not w y hy (fun p2 h2 => by rw [hpy] at h2; obtain rfl := Option.some.inj h2; exact f2)))
    · exact mO 2 33
    · exact e20 wA (oO 3 30)
    · exact e21 wA (oO 3 30)
    · exact owe_new rfl wA rfl rfl (fun ρ w => alloc_rat ρ _ w)
    · exact owe_put 6 rfl wA rfl (by kernel_rfl) rfl (oO 4 34) (stores_of strct_rat shp_r0 (shp_pr shp_zn shp_zn)) rfl
    · exact mO 5 35
  intro B4 a4 W4 (S4 : Sta w 53 [(2, (.box 38 (SF [(Is (.float .f64 x)), (Is (.float .f64 y))]))), (3, (.box 29 (PR (Zv A k1) (Zv (((D : Nat) : Int)) k2)))), (7, (.box 29 ((RN 0 1) w.heap.size)))] [(6, bF)] _ _ _)
  refine wp_stmt_seq [kF, kF, .off, .off, .off, .off, kF, kF, kF, kT, kT, .val (Part a4 2 1), .val (Is (.float .f64 y)), kT, kT, kT, kF, kF] [.inr 0] [.inl 17] follows S4 rfl (by kernel_rfl) ?_ ?_
  · repeat' refine And.intro ?_ ?_
    · trivial
    · exact mS 0 6
    · exact mO 0 36
    · exact oF 1 37
    · exact oF 1 37
    · exact oF 1 37
    · exact oF 1 37
    · exact pF wA (oO 1 37) (opnd_const _)
    · exact mO 6 42
    · exact mW (wI 7 43) (oS 0 6)
    · exact b_not (wI 7 43) (oO 8 44)
    · exact mW (wI 7 43) (oO 9 45)
    · exact owe_part rfl (wI 10 46) rfl (k := 0) rfl (by kernel_rfl) rfl (fun ρ w b h => part_ival1 ρ _ _ w b 0 h)
    · exact owe_pload rfl (wI 10 46) rfl (oO 11 47) (k := 0) rfl (by kernel_rfl) rfl (fun ρ w b u h1 h2 h3 => ploadI rfl load1_f64 ρ _ _ w b u h1 h2 h3)
    · exact owe_fcmp rfl (wI 10 46) rfl ((oO 12 48).imp (fl_is hy)) ((opnd_const _).imp (fl_is (by decide))) (by rw [hpy]; exact lt_t g2) rfl
    · exact pT (wI 7 43) (oO 10 46) (oO 13 49)
    · exact pF wA (oO 7 43) (oO 14 50)
    · exact b_not wA (oO 15 51)
    · exact mO 16 52
  intro B5 a5 W5 (S5 : Sta w 53 [(2, (.box 38 (SF [(Is (.float .f64 x)), (Is (.float .f64 y))])))] [(4, bF)] _ _ _)
  refine wp_ret ?_
  exact end_one S5 rfl (res_tmp S5 0 4 rfl)
set_option maxHeartbeats 400000 in
theorem rhold_fj (w : World) (x y : Nat) (hx : x < 18446744073709551616) (hy : y < 18446744073709551616) (px py : Int) (hpx : plc x = some px) (hpy : plc y = some py) (A : Int) (D k1 k2 : Nat) (r : Value) (hr : Has (fun _ => False) w (Rv A ((D : Nat) : Int) k1 k2) r) (hD : D ≠ 0) (b1 : k1 ≤ 8388608) (b2 : k2 ≤ 8388608) (f1 : Fin px) (g : agP px A D ≤ 0) (f2 : ¬ Fin py) (g2 : 0 ≤ py) :
    Calls Tryz.prog 31 #[(.agg #[.float .f64 x, .float .f64 y]), r] w (Gives (IS (.bool true)) w) := by
  refine calls_sta (sl := [(0, (SF [(Is (.float .f64 x)), (Is (.float .f64 y))])), (1, (PR (Zv A k1) (Zv (((D : Nat) : Int)) k2)))]) Tryz.func31 rfl Tryz.ntmps31 (by simp) (args_cons rfl (ix_has) (args_cons rfl (hr) args_nil)) ?_
  intro a0 S0
  refine wp_stmt_seq [.new (.box 38 (SF [(Is (.float .f64 x)), (Is (.float .f64 y))])), .new (.box 29 (PR (Zv A k1) (Zv (((D : Nat) : Int)) k2))), kF] [.inl 0, .inl 1] [] follows S0 rfl (by kernel_rfl) ?_ ?_
  · refine ⟨⟨⟨trivial, ?_⟩, ?_⟩, ?_⟩
    · exact owe_box rfl wA rfl (oS 0 0) rfl (fun ρ w h => box_ival shp_iv ρ _ _ w h)
    · exact owe_box rfl wA rfl (oS 1 1) rfl (fun ρ w h => box_rat (shp_pr shp_zv shp_zv) ρ _ _ w h)
    · exact mC
  intro B1 a1 W1 (S1 : Sta w 53 [(2, (.box 38 (SF [(Is (.float .f64 x)), (Is (.float .f64 y))]))), (3, (.box 29 (PR (Zv A k1) (Zv (((D : Nat) : Int)) k2))))] [] _ _ _)
  refine wp_stmt_seq [.val (Part a1 2 0), .val (Is (.float .f64 x)), .val ((TWO (RN (nR (vp px) uF) (dR (vp px) uF)) (IS (.bool true))) w.heap.size), .val ((TWO (RN (nR (vp px) uF) (dR (vp px) uF)) (IS (.bool true))) w.heap.size), .val ((RN (nR (vp px) uF) (dR (vp px) uF)) w.heap.size), kT, .new (.box 29 zR), .put (.inr 6) (.box 29 ((RN (nR (vp px) uF) (dR (vp px) uF)) w.heap.size)), kT] [.inr 0, .inr 1, .inl 6] [.inl 8] follows S1 rfl (by kernel_rfl) ?_ ?_
  · repeat' refine And.intro ?_ ?_
    · trivial
    · exact owe_part rfl wA rfl (k := 0) rfl (by kernel_rfl) rfl (fun ρ w b h => part_ival0 ρ _ _ w b 0 h)
    · exact owe_pload rfl wA rfl (oO 0 9) (k := 0) rfl (by kernel_rfl) rfl (fun ρ w b u h1 h2 h3 => ploadI rfl load1_f64 ρ _ _ w b u h1 h2 h3)
    · exact cc1 wA (qO 1 10 rfl) (fresh_two (fresh_rn _ _) (fresh_is _)) (pur_is (fun w => rexact_fin w x hx px hpx f1))
    · exact mO 2 11
    · exact e20 wA (oO 3 8)
    · exact e21 wA (oO 3 8)
    · exact owe_new rfl wA rfl rfl (fun ρ w => alloc_rat ρ _ w)
    · exact owe_put 6 rfl wA rfl (by kernel_rfl) rfl (oO 4 12) (stores_of strct_rat shp_r0 (shp_pr shp_zn shp_zn)) rfl
    · exact mO 5 13
  intro B2 a2 W2 (S2 : Sta w 53 [(2, (.box 38 (SF [(Is (.float .f64 x)), (Is (.float .f64 y))]))), (3, (.box 29 (PR (Zv A k1) (Zv (((D : Nat) : Int)) k2)))), (5, (.box 29 ((RN (nR (vp px) uF) (dR (vp px) uF)) w.heap.size)))] [(6, bT)] _ _ _)
  refine wp_seq ?_
  refine wp_stmt_seq [kT, kT, .val ((RN (nR (vp px) uF) (dR (vp px) uF)) w.heap.size), .val (PR (Zv A k1) (Zv (((D : Nat) : Int)) k2)), .val (iV (agP px A D)), kF, kF, kF, kT, kF, kF, .off, .off, .off, kF, kF] [.inr 0, .inr 1] [.inl 15] follows S2 rfl (by kernel_rfl) ?_ ?_
  · repeat' refine And.intro ?_ ?_
    · trivial
    · exact mS 0 6
    · exact mO 0 14
    · exact lod 2 (wI 1 15) (loads_of strct_rat (shp_pr shp_zn shp_zn))
    · exact lod 1 (wI 1 15) (loads_of strct_rat (shp_pr shp_zv shp_zv))
    · exact cc2 (wI 1 15) (qO 2 16 rfl) (qO 3 17 rfl) (fresh_is _) (fun w u0 u1 h0 h1 => Gives.cast ((fun w u v h1 h2 => g_rrcmp (dR_ne uF_no) hD (by omega) (by omega) (by omega) (by omega) w u v ((rn_rv (exn_len f1) (exd_len px)) _ _ h1) ((pr_imp (fun _ _ h => h) (fun _ _ h => h)) _ _ h2)) w u0 u1 h0 h1) (by rw [ag_fin f1]))
    · exact b_gtr_int_f (wI 1 15) (oO 4 18) (opnd_const _) (h := g)
    · exact pT wA (oO 1 15) (oO 5 19)
    · exact mO 6 20
    · exact mW (wI 7 21) (oS 0 6)
    · exact b_not (wI 7 21) (oO 8 22)
    · exact mW (wI 7 21) (oO 9 23)
    · exact oF 10 24
    · exact oF 10 24
    · exact oF 10 24
    · exact pF (wI 7 21) (oO 10 24) (opnd_const _)
    · exact pF wA (oO 7 21) (oO 14 28)
  intro B3 a3 W3 (S3 : Sta w 53 [(2, (.box 38 (SF [(Is (.float .f64 x)), (Is (.float .f64 y))]))), (3, (.box 29 (PR (Zv A k1) (Zv (((D : Nat) : Int)) k2))))] [(29, bF)] _ _ _)
  refine wp_cond_false (S3.bool 0 29 rfl) ?_
  refine wp_skip ?_
  refine thenN ?_
  refine wp_stmt_seq [.val (Part a3 2 1), .val (Is (.float .f64 y)), .val ((TWO (RN 0 1) (IS (.bool false))) w.heap.size), .val ((TWO (RN 0 1) (IS (.bool false))) w.heap.size), .val ((RN 0 1) w.heap.size), kF, .new (.box 29 zR), .put (.inr 6) (.box 29 ((RN 0 1) w.heap.size)), kF] [.inr 0, .inr 1, .inl 6] [.inl 8] follows S3 rfl (by kernel_rfl) ?_ ?_
  · repeat' refine And.intro ?_ ?_
    · trivial
    · exact owe_part rfl wA rfl (k := 0) rfl (by kernel_rfl) rfl (fun ρ w b h => part_ival1 ρ _ _ w b 0 h)
    · exact owe_pload rfl wA rfl (oO 0 31) (k := 0) rfl (by kernel_rfl) rfl (fun ρ w b u h1 h2 h3 => ploadI rfl load1_f64 ρ _ _ w b u h1 h2 h3)
    · exact cc1 wA (qO 1 32 rfl) (fresh_two (fresh_rn _ _) (fresh_is _)) (pur_is (fun w => rexact_not w y hy (fun p2 h2 => by rw [hpy] at h2; obtain rfl := Option.some.inj h2; exact f2)))
    · exact mO 2 33
    · exact e20 wA (oO 3 30)
    · exact e21 wA (oO 3 30)
    · exact owe_new rfl wA rfl rfl (fun ρ w => alloc_rat ρ _ w)
    · exact owe_put 6 rfl wA rfl (by kernel_rfl) rfl (oO 4 34) (stores_of strct_rat shp_r0 (shp_pr shp_zn shp_zn)) rfl
    · exact mO 5 35
  intro B4 a4 W4 (S4 : Sta w 53 [(2, (.box 38 (SF [(Is (.float .f64 x)), (Is (.float .f64 y))]))), (3, (.box 29 (PR (Zv A k1) (Zv (((D : Nat) : Int)) k2)))), (7, (.box 29 ((RN 0 1) w.heap.size)))] [(6, bF)] _ _ _)
  refine wp_stmt_seq [kF, kF, .off, .off, .off, .off, kF, kF, kF, kT, kT, .val (Part a4 2 1), .val (Is (.float .f64 y)), kF, kF, kF, kT, kT] [.inr 0] [.inl 17] follows S4 rfl (by kernel_rfl) ?_ ?_
  · repeat' refine And.intro ?_ ?_
    · trivial
    · exact mS 0 6
    · exact mO 0 36
    · exact oF 1 37
    · exact oF 1 37
    · exact oF 1 37
    · exact oF 1 37
    · exact pF wA (oO 1 37) (opnd_const _)
    · exact mO 6 42
    · exact mW (wI 7 43) (oS 0 6)
    · exact b_not (wI 7 43) (oO 8 44)
    · exact mW (wI 7 43) (oO 9 45)
    · exact owe_part rfl (wI 10 46) rfl (k := 0) rfl (by kernel_rfl) rfl (fun ρ w b h => part_ival1 ρ _ _ w b 0 h)
    · exact owe_pload rfl (wI 10 46) rfl (oO 11 47) (k := 0) rfl (by kernel_rfl) rfl (fun ρ w b u h1 h2 h3 => ploadI rfl load1_f64 ρ _ _ w b u h1 h2 h3)
    · exact owe_fcmp rfl (wI 10 46) rfl ((oO 12 48).imp (fl_is hy)) ((opnd_const _).imp (fl_is (by decide))) (by rw [hpy]; exact lt_f (by omega)) rfl
    · exact pT (wI 7 43) (oO 10 46) (oO 13 49)
    · exact pF wA (oO 7 43) (oO 14 50)
    · exact b_not wA (oO 15 51)
    · exact mO 16 52
  intro B5 a5 W5 (S5 : Sta w 53 [(2, (.box 38 (SF [(Is (.float .f64 x)), (Is (.float .f64 y))])))] [(4, bT)] _ _ _)
  refine wp_ret ?_
  exact end_one S5 rfl (res_tmp S5 0 4 rfl)
set_option maxHeartbeats 400000 in
theorem rhold_if (w : World) (x y : Nat) (hx : x < 18446744073709551616) (hy : y < 18446744073709551616) (px py : Int) (hpx : plc x = some px) (hpy : plc y = some py) (A : Int) (D k1 k2 : Nat) (r : Value) (hr : Has (fun _ => False) w (Rv A ((D : Nat) : Int) k1 k2) r) (hD : D ≠ 0) (b1 : k1 ≤ 8388608) (b2 : k2 ≤ 8388608) (f1 : ¬ Fin px) (g : px ≤ 0) (f2 : Fin py) (g2 : agP py A D < 0) :
    Calls Tryz.prog 31 #[(.agg #[.float .f64 x, .float .f64 y]), r] w (Gives (IS (.bool false)) w) := by
  refine calls_sta (sl := [(0, (SF [(Is (.float .f64 x)), (Is (.float .f64 y))])), (1, (PR (Zv A k1) (Zv (((D : Nat) : Int)) k2)))]) Tryz.func31 rfl Tryz.ntmps31 (by simp) (args_cons rfl (ix_has) (args_cons rfl (hr) args_nil)) ?_
  intro a0 S0
  refine wp_stmt_seq [.new (.box 38 (SF [(Is (.float .f64 x)), (Is (.float .f64 y))])), .new (.box 29 (PR (Zv A k1) (Zv (((D : Nat) : Int)) k2))), kF] [.inl 0, .inl 1] [] follows S0 rfl (by kernel_rfl) ?_ ?_
  · refine ⟨⟨⟨trivial, ?_⟩, ?_⟩, ?_⟩
    · exact owe_box rfl wA rfl (oS 0 0) rfl (fun ρ w h => box_ival shp_iv ρ _ _ w h)
    · exact owe_box rfl wA rfl (oS 1 1) rfl (fun ρ w h => box_rat (shp_pr shp_zv shp_zv) ρ _ _ w h)
    · exact mC
  intro B1 a1 W1 (S1 : Sta w 53 [(2, (.box 38 (SF [(Is (.float .f64 x)), (Is (.float .f64 y))]))), (3, (.box 29 (PR (Zv A k1) (Zv (((D : Nat) : Int)) k2))))] [] _ _ _)
  refine wp_stmt_seq [.val (Part a1 2 0), .val (Is (.float .f64 x)), .val ((TWO (RN 0 1) (IS (.bool false))) w.heap.size), .val ((TWO (RN 0 1) (IS (.bool false))) w.heap.size), .val ((RN 0 1) w.heap.size), kF, .new (.box 29 zR), .put (.inr 6) (.box 29 ((RN 0 1) w.heap.size)), kF] [.inr 0, .inr 1, .inl 6] [.inl 8] follows S1 rfl (by kernel_rfl) ?_ ?_
  · repeat' refine And.intro ?_ ?_
    · trivial
    · exact owe_part rfl wA rfl (k := 0) rfl (by kernel_rfl) rfl (fun ρ w b h => part_ival0 ρ _ _ w b 0 h)
    · exact owe_pload rfl wA rfl (oO 0 9) (k := 0) rfl (by kernel_rfl) rfl (fun ρ w b u h1 h2 h3 => ploadI rfl load1_f64 ρ _ _ w b u h1 h2 h3)
    · exact cc1 wA (qO 1 10 rfl) (fresh_two (fresh_rn _ _) (fresh_is _)) (pur_is (fun w => rexact_not w x hx (fun p2 h2 => by rw [hpx] at h2; obtain rfl := Option.some.inj h2; exact f1)))
    · exact mO 2 11
    · exact e20 wA (oO 3 8)
    · exact e21 wA (oO 3 8)
    · exact owe_new rfl wA rfl rfl (fun ρ w => alloc_rat ρ _ w)
    · exact owe_put 6 rfl wA rfl (by kernel_rfl) rfl (oO 4 12) (stores_of strct_rat shp_r0 (shp_pr shp_zn shp_zn)) rfl
    · exact mO 5 13
  intro B2 a2 W2 (S2 : Sta w 53 [(2, (.box 38 (SF [(Is (.float .f64 x)), (Is (.float .f64 y))]))), (3, (.box 29 (PR (Zv A k1) (Zv (((D : Nat) : Int)) k2)))), (5, (.box 29 ((RN 0 1) w.heap.size)))] [(6, bF)] _ _ _)
  refine wp_seq ?_
  refine wp_stmt_seq [kF, kF, .off, .off, .off, .off, kF, kF, kF, kT, kT, .val (Part a2 2 0), .val (Is (.float .f64 x)), kF, kF, kF] [.inr 0, .inr 1] [.inl 15] follows S2 rfl (by kernel_rfl) ?_ ?_
  · repeat' refine And.intro ?_ ?_
    · trivial
    · exact mS 0 6
    · exact mO 0 14
    · exact oF 1 15
    · exact oF 1 15
    · exact oF 1 15
    · exact oF 1 15
    · exact pF wA (oO 1 15) (opnd_const _)
    · exact mO 6 20
    · exact mW (wI 7 21) (oS 0 6)
    · exact b_not (wI 7 21) (oO 8 22)
    · exact mW (wI 7 21) (oO 9 23)
    · exact owe_part rfl (wI 10 24) rfl (k := 0) rfl (by kernel_rfl) rfl (fun ρ w b h => part_ival0 ρ _ _ w b 0 h)
    · exact owe_pload rfl (wI 10 24) rfl (oO 11 25) (k := 0) rfl (by kernel_rfl) rfl (fun ρ w b u h1 h2 h3 => ploadI rfl load1_f64 ρ _ _ w b u h1 h2 h3)
    · exact owe_fcmp rfl (wI 10 24) rfl ((oO 12 26).imp (fl_is hx)) ((opnd_const _).imp (fl_is (by decide))) (by rw [hpx]; exact gt_f (by omega)) rfl
    · exact pT (wI 7 21) (oO 10 24) (oO 13 27)
    · exact pF wA (oO 7 21) (oO 14 28)
  intro B3 a3 W3 (S3 : Sta w 53 [(2, (.box 38 (SF [(Is (.float .f64 x)), (Is (.float .f64 y))]))), (3, (.box 29 (PR (Zv A k1) (Zv (((D : Nat) : Int)) k2))))] [(29, bF)] _ _ _)
  refine wp_cond_false (S3.bool 0 29 rfl) ?_
  refine wp_skip ?_
  refine thenN ?_
  refine wp_stmt_seq [.val (Part a3 2 1), .val (Is (.float .f64 y)), .val ((TWO (RN (nR (vp py) uF) (dR (vp py) uF)) (IS (.bool true))) w.heap.size), .val ((TWO (RN (nR (vp py) uF) (dR (vp py) uF)) (IS (.bool true))) w.heap.size), .val ((RN (nR (vp py) uF) (dR (vp py) uF)) w.heap.size), kT, .new (.box 29 zR), .put (.inr 6) (.box 29 ((RN (nR (vp py) uF) (dR (vp py) uF)) w.heap.size)), kT] [.inr 0, .inr 1, .inl 6] [.inl 8] follows S3 rfl (by kernel_rfl) ?_ ?_
  · repeat' refine And.intro ?_ ?_
    · trivial
    · exact owe_part rfl wA rfl (k := 0) rfl (by kernel_rfl) rfl (fun ρ w b h => part_ival1 ρ _ _ w b 0 h)
    · exact owe_pload rfl wA rfl (oO 0 31) (k := 0) rfl (by kernel_rfl) rfl (fun ρ w b u h1 h2 h3 => ploadI rfl load1_f64 ρ _ _ w b u h1 h2 h3)
    · exact cc1 wA (qO 1 32 rfl) (fresh_two (fresh_rn _ _) (fresh_is _)) (pur_is (fun w => rexact_fin w y hy py hpy f2))
    · exact mO 2 33
    · exact e20 wA (oO 3 30)
    · exact e21 wA (oO 3 30)
    · exact owe_new rfl wA rfl rfl (fun ρ w => alloc_rat ρ _ w)
    · exact owe_put 6 rfl wA rfl (by kernel_rfl) rfl (oO 4 34) (stores_of strct_rat shp_r0 (shp_pr shp_zn shp_zn)) rfl
    · exact mO 5 35
  intro B4 a4 W4 (S4 : Sta w 53 [(2, (.box 38 (SF [(Is (.float .f64 x)), (Is (.float .f64 y))]))), (3, (.box 29 (PR (Zv A k1) (Zv (((D : Nat) : Int)) k2)))), (7, (.box 29 ((RN (nR (vp py) uF) (dR (vp py) uF)) w.heap.size)))] [(6, bT)] _ _ _)
  refine wp_stmt_seq [kT, kT, .val (PR (Zv A k1) (Zv (((D : Nat) : Int)) k2)), .val ((RN (nR (vp py) uF) (dR (vp py) uF)) w.heap.size), .val (iV (-agP py A D)), kT, kT, kT, .off, .off, .val (Is (undef)), .off, .off, .off, .off, kT, kF, kF] [.inr 0] [.inl 17] follows S4 rfl (by kernel_rfl) ?_ ?_
  · repeat' refine And.intro ?_ ?_
    · trivial
    · exact mS 0 6
    · exact mO 0 36
    · exact lod 1 (wI 1 37) (loads_of strct_rat (shp_pr shp_zv shp_zv))
    · exact lod 2 (wI 1 37) (loads_of strct_rat (shp_pr shp_zn shp_zn))
    · exact cc2 (wI 1 37) (qO 2 38 rfl) (qO 3 39 rfl) (fresh_is _) (fun w u0 u1 h0 h1 => Gives.cast ((fun w u v h1 h2 => g_rrcmp hD (dR_ne uF_no) (by omega) (by omega) (by omega) (by omega) w u v ((pr_imp (fun _ _ h => h) (fun _ _ h => h)) _ _ h1) ((rn_rv (exn_len f2) (exd_len py)) _ _ h2)) w u0 u1 h0 h1) (by rw [ag_fin' f2]))
    · exact b_gtr_int_t (wI 1 37) (oO 4 40) (opnd_const _)
    · exact pT wA (oO 1 37) (oO 5 41)
    · exact mO 6 42
    · exact oF 7 43
    · exact oF 7 43
    · exact owe_offv 7 43 rfl rfl rfl (by kernel_rfl) rfl (by decide)
    · exact owe_offu 10 46 rfl rfl rfl (by kernel_rfl) rfl
    · exact owe_offu 10 46 rfl rfl rfl (by kernel_rfl) rfl
    · exact owe_offu 10 46 rfl rfl rfl (by kernel_rfl) rfl
    · exact oF 7 43
    · exact pT wA (oO 7 43) (opnd_const _)
    · exact b_not wA (oO 15 51)
    · exact mO 16 52
  intro B5 a5 W5 (S5 : Sta w 53 [(2, (.box 38 (SF [(Is (.float .f64 x)), (Is (.float .f64 y))])))] [(4, bF)] _ _ _)
  refine wp_ret ?_
  exact end_one S5 rfl (res_tmp S5 0 4 rfl)
set_option maxHeartbeats 400000 in
theorem rhold_ig (w : World) (x y : Nat) (hx : x < 18446744073709551616) (hy : y < 18446744073709551616) (px py : Int) (hpx : plc x = some px) (hpy : plc y = some py) (A : Int) (D k1 k2 : Nat) (r : Value) (hr : Has (fun _ => False) w (Rv A ((D : Nat) : Int) k1 k2) r) (hD : D ≠ 0) (b1 : k1 ≤ 8388608) (b2 : k2 ≤ 8388608) (f1 : ¬ Fin px) (g : px ≤ 0) (f2 : Fin py) (g2 : 0 ≤ agP py A D) :
    Calls Tryz.prog 31 #[(.agg #[.float .f64 x, .float .f64 y]), r] w (Gives (IS (.bool true)) w) := by
  refine calls_sta (sl := [(0, (SF [(Is (.float .f64 x)), (Is (.float .f64 y))])), (1, (PR (Zv A k1) (Zv (((D : Nat) : Int)) k2)))]) Tryz.func31 rfl Tryz.ntmps31 (by simp) (args_cons rfl (ix_has) (args_cons rfl (hr) args_nil)) ?_
  intro a0 S0
  refine wp_stmt_seq [.new (.box 38 (SF [(Is (.float .f64 x)), (Is (.float .f64 y))])), .new (.box 29 (PR (Zv A k1) (Zv (((D : Nat) : Int)) k2))), kF] [.inl 0, .inl 1] [] follows S0 rfl (by kernel_rfl) ?_ ?_
  · refine ⟨⟨⟨trivial, ?_⟩, ?_⟩, ?_⟩
    · exact owe_box rfl wA rfl (oS 0 0) rfl (fun ρ w h => box_ival shp_iv ρ _ _ w h)
    · exact owe_box rfl wA rfl (oS 1 1) rfl (fun ρ w h => box_rat (shp_pr shp_zv shp_zv) ρ _ _ w h)
    · exact mC
  intro B1 a1 W1 (S1 : Sta w 53 [(2, (.box 38 (SF [(Is (.float .f64 x)), (Is (.float .f64 y))]))), (3, (.box 29 (PR (Zv A k1) (Zv (((D : Nat) : Int)) k2))))] [] _ _ _)
  refine wp_stmt_seq [.val (Part a1 2 0), .val (Is (.float .f64 x)), .val ((TWO (RN 0 1) (IS (.bool false))) w.heap.size), .val ((TWO (RN 0 1) (IS (.bool false))) w.heap.size), .val ((RN 0 1) w.heap.size), kF, .new (.box 29 zR), .put (.inr 6) (.box 29 ((RN 0 1) w.heap.size)), kF] [.inr 0, .inr 1, .inl 6] [.inl 8] follows S1 rfl (by kernel_rfl) ?_ ?_
  · repeat' refine And.intro ?_ ?_
    · trivial
    · exact owe_part rfl wA rfl (k := 0) rfl (by kernel_rfl) rfl (fun ρ w b h => part_ival0 ρ _ _ w b 0 h)
    · exact owe_pload rfl wA rfl (oO 0 9) (k := 0) rfl (by kernel_rfl) rfl (fun ρ w b u h1 h2 h3 => ploadI rfl load1_f64 ρ _ _ w b u h1 h2 h3)
    · exact cc1 wA (qO 1 10 rfl) (fresh_two (fresh_rn _ _) (fresh_is _)) (pur_is (fun w => rexact_not w x hx (fun p2 h2 => by rw [hpx] at h2; obtain rfl := Option.some.inj h2; exact f1)))
    · exact mO 2 11
    · exact e20 wA (oO 3 8)
    · exact e21 wA (oO 3 8)
    · exact owe_new rfl wA rfl rfl (fun ρ w => alloc_rat ρ _ w)
    · exact owe_put 6 rfl wA rfl (by kernel_rfl) rfl (oO 4 12) (stores_of strct_rat shp_r0 (shp_pr shp_zn shp_zn)) rfl
    · exact mO 5 13
  intro B2 a2 W2 (S2 : Sta w 53 [(2, (.box 38 (SF [(Is (.float .f64 x)), (Is (.float .f64 y))]))), (3, (.box 29 (PR (Zv A k1) (Zv (((D : Nat) : Int)) k2)))), (5, (.box 29 ((RN 0 1) w.heap.size)))] [(6, bF)] _ _ _)
  refine wp_seq ?_
  refine wp_stmt_seq [kF, kF, .off, .off, .off, .off, kF, kF, kF, kT, kT, .val (Part a2 2 0), .val (Is (.float .f64 x)), kF, kF, kF] [.inr 0, .inr 1] [.inl 15] follows S2 rfl (by kernel_rfl) ?_ ?_
  · repeat' refine And.intro ?_ ?_
    · trivial
    · exact mS 0 6
    · exact mO 0 14
    · exact oF 1 15
    · exact oF 1 15
    · exact oF 1 15
    · exact oF 1 15
    · exact pF wA (oO 1 15) (opnd_const _)
    · exact mO 6 20
    · exact mW (wI 7 21) (oS 0 6)
    · exact b_not (wI 7 21) (oO 8 22)
    · exact mW (wI 7 21) (oO 9 23)
    · exact owe_part rfl (wI 10 24) rfl (k := 0) rfl (by kernel_rfl) rfl (fun ρ w b h => part_ival0 ρ _ _ w b 0 h)
    · exact owe_pload rfl (wI 10 24) rfl (oO 11 25) (k := 0) rfl (by kernel_rfl) rfl (fun ρ w b u h1 h2 h3 => ploadI rfl load1_f64 ρ _ _ w b u h1 h2 h3)
    · exact owe_fcmp rfl (wI 10 24) rfl ((oO 12 26).imp (fl_is hx)) ((opnd_const _).imp (fl_is (by decide))) (by rw [hpx]; exact gt_f (by omega)) rfl
    · exact pT (wI 7 21) (oO 10 24) (oO 13 27)
    · exact pF wA (oO 7 21) (oO 14 28)
  intro B3 a3 W3 (S3 : Sta w 53 [(2, (.box 38 (SF [(Is (.float .f64 x)), (Is (.float .f64 y))]))), (3, (.box 29 (PR (Zv A k1) (Zv (((D : Nat) : Int)) k2))))] [(29, bF)] _ _ _)
  refine wp_cond_false (S3.bool 0 29 rfl) ?_
  refine wp_skip ?_
  refine thenN ?_
  refine wp_stmt_seq [.val (Part a3 2 1), .val (Is (.float .f64 y)), .val ((TWO (RN (nR (vp py) uF) (dR (vp py) uF)) (IS (.bool true))) w.heap.size), .val ((TWO (RN (nR (vp py) uF) (dR (vp py) uF)) (IS (.bool true))) w.heap.size), .val ((RN (nR (vp py) uF) (dR (vp py) uF)) w.heap.size), kT, .new (.box 29 zR), .put (.inr 6) (.box 29 ((RN (nR (vp py) uF) (dR (vp py) uF)) w.heap.size)), kT] [.inr 0, .inr 1, .inl 6] [.inl 8] follows S3 rfl (by kernel_rfl) ?_ ?_
  · repeat' refine And.intro ?_ ?_
    · trivial
    · exact owe_part rfl wA rfl (k := 0) rfl (by kernel_rfl) rfl (fun ρ w b h => part_ival1 ρ _ _ w b 0 h)
    · exact owe_pload rfl wA rfl (oO 0 31) (k := 0) rfl (by kernel_rfl) rfl (fun ρ w b u h1 h2 h3 => ploadI rfl load1_f64 ρ _ _ w b u h1 h2 h3)
    · exact cc1 wA (qO 1 32 rfl) (fresh_two (fresh_rn _ _) (fresh_is _)) (pur_is (fun w => rexact_fin w y hy py hpy f2))
    · exact mO 2 33
    · exact e20 wA (oO 3 30)
    · exact e21 wA (oO 3 30)
    · exact owe_new rfl wA rfl rfl (fun ρ w => alloc_rat ρ _ w)
    · exact owe_put 6 rfl wA rfl (by kernel_rfl) rfl (oO 4 34) (stores_of strct_rat shp_r0 (shp_pr shp_zn shp_zn)) rfl
    · exact mO 5 35
  intro B4 a4 W4 (S4 : Sta w 53 [(2, (.box 38 (SF [(Is (.float .f64 x)), (Is (.float .f64 y))]))), (3, (.box 29 (PR (Zv A k1) (Zv (((D : Nat) : Int)) k2)))), (7, (.box 29 ((RN (nR (vp py) uF) (dR (vp py) uF)) w.heap.size)))] [(6, bT)] _ _ _)
  refine wp_stmt_seq [kT, kT, .val (PR (Zv A k1) (Zv (((D : Nat) : Int)) k2)), .val ((RN (nR (vp py) uF) (dR (vp py) uF)) w.heap.size), .val (iV (-agP py A D)), kF, kF, kF, kT, kF, kF, .off, .off, .off, kF, kF, kT, kT] [.inr 0] [.inl 17] follows S4 rfl (by kernel_rfl) ?_ ?_
  · repeat' refine And.intro ?_ ?_
    · trivial
    · exact mS 0 6
    · exact mO 0 36
    · exact lod 1 (wI 1 37) (loads_of strct_rat (shp_pr shp_zv shp_zv))
    · exact lod 2 (wI 1 37) (loads_of strct_rat (shp_pr shp_zn shp_zn))
    · exact cc2 (wI 1 37) (qO 2 38 rfl) (qO 3 39 rfl) (fresh_is _) (fun w u0 u1 h0 h1 => Gives.cast ((fun w u v h1 h2 => g_rrcmp hD (dR_ne uF_no) (by omega) (by omega) (by omega) (by omega) w u v ((pr_imp (fun _ _ h => h) (fun _ _ h => h)) _ _ h1) ((rn_rv (exn_len f2) (exd_len py)) _ _ h2)) w u0 u1 h0 h1) (by rw [ag_fin' f2]))
    · exact b_gtr_int_f (wI 1 37) (oO 4 40) (opnd_const _)
    · exact pT wA (oO 1 37) (oO 5 41)
    · exact mO 6 42
    · exact mW (wI 7 43) (oS 0 6)
    · exact b_not (wI 7 43) (oO 8 44)
    · exact mW (wI 7 43) (oO 9 45)
    · exact oF 10 46
    · exact oF 10 46
    · exact oF 10 46
    · exact pF (wI 7 43) (oO 10 46) (opnd_const _)
    · exact pF wA (oO 7 43) (oO 14 50)
    · exact b_not wA (oO 15 51)
    · exact mO 16 52
  intro B5 a5 W5 (S5 : Sta w 53 [(2, (.box 38 (SF [(Is (.float .f64 x)), (Is (.float .f64 y))])))] [(4, bT)] _ _ _)
  refine wp_ret ?_
  exact end_one S5 rfl (res_tmp S5 0 4 rfl)
set_option maxHeartbeats 400000 in
theorem rhold_ii (w : World) (x y : Nat) (hx : x < 18446744073709551616) (hy : y < 18446744073709551616) (px py : Int) (hpx : plc x = some px) (hpy : plc y = some py) (A : Int) (D k1 k2 : Nat) (r : Value) (hr : Has (fun _ => False) w (Rv A ((D : Nat) : Int) k1 k2) r) (hD : D ≠ 0) (b1 : k1 ≤ 8388608) (b2 : k2 ≤ 8388608) (f1 : ¬ Fin px) (g : px ≤ 0) (f2 : ¬ Fin py) (g2 : py < 0) :
    Calls Tryz.prog 31 #[(.agg #[.float .f64 x, .float .f64 y]), r] w (Gives (IS (.bool false)) w) := by
  refine calls_sta (sl := [(0, (SF [(Is (.float .f64 x)), (Is (.float .f64 y))])), (1, (PR (Zv A k1) (Zv (((D : Nat) : Int)) k2)))]) Tryz.func31 rfl Tryz.ntmps31 (by simp) (args_cons rfl (ix_has) (args_cons rfl (hr) args_nil)) ?_
  intro a0 S0
  refine wp_stmt_seq [.new (.box 38 (SF [(Is (.float .f64 x)), (Is (.float .f64 y))])), .new (.box 29 (PR (Zv A k1) (Zv (((D : Nat) : Int)) k2))), kF] [.inl 0, .inl 1] [] follows S0 rfl (by kernel_rfl) ?_ ?_
  · refine ⟨⟨⟨trivial, ?_⟩, ?_⟩, ?_⟩
    · exact owe_box rfl wA rfl (oS 0 0) rfl (fun ρ w h => box_ival shp_iv ρ _ _ w h)
    · exact owe_box rfl wA rfl (oS 1 1) rfl (fun ρ w h => box_rat (shp_pr shp_zv shp_zv) ρ _ _ w h)
    · exact mC
  intro B1 a1 W1 (S1 : Sta w 53 [(2, (.box 38 (SF [(Is (.float .f64 x)), (Is (.float .f64 y))]))), (3, (.box 29 (PR (Zv A k1) (Zv (((D : Nat) : Int)) k2))))] [] _ _ _)
  refine wp_stmt_seq [.val (Part a1 2 0), .val (Is (.float .f64 x)), .val ((TWO (RN 0 1) (IS (.bool false))) w.heap.size), .val ((TWO (RN 0 1) (IS (.bool false))) w.heap.size), .val ((RN 0 1) w.heap.size), kF, .new (.box 29 zR), .put (.inr 6) (.box 29 ((RN 0 1) w.heap.size)), kF] [.inr 0, .inr 1, .inl 6] [.inl 8] follows S1 rfl (by kernel_rfl) ?_ ?_
  · repeat' refine And.intro ?_ ?_
    · trivial
    · exact owe_part rfl wA rfl (k := 0) rfl (by kernel_rfl) rfl (fun ρ w b h => part_ival0 ρ _ _ w b 0 h)
    · exact owe_pload rfl wA rfl (oO 0 9) (k := 0) rfl (by kernel_rfl) rfl (fun ρ w b u h1 h2 h3 => ploadI rfl load1_f64 ρ _ _ w b u h1 h2 h3)
    · exact cc1 wA (qO 1 10 rfl) (fresh_two (fresh_rn _ _) (fresh_is _)) (pur_is (fun w => rexact_not w x hx (fun p2 h2 => by rw [hpx] at h2; obtain rfl := Option.some.inj h2; exact f1)))
    · exact mO 2 11
    · exact e20 wA (oO 3 8)
    · exact e21 wA (oO 3 8)
    · exact owe_new rfl wA rfl rfl (fun ρ w => alloc_rat ρ _ w)
    · exact owe_put 6 rfl wA rfl (by kernel_rfl) rfl (oO 4 12) (stores_of strct_rat shp_r0 (shp_pr shp_zn shp_zn)) rfl
    · exact mO 5 13
  intro B2 a2 W2 (S2 : Sta w 53 [(2, (.box 38 (SF [(Is (.float .f64 x)), (Is (.float .f64 y))]))), (3, (.box 29 (PR (Zv A k1) (Zv (((D : Nat) : Int)) k2)))), (5, (.box 29 ((RN 0 1) w.heap.size)))] [(6, bF)] _ _ _)
  refine wp_seq ?_
  refine wp_stmt_seq [kF, kF, .off, .off, .off, .off, kF, kF, kF, kT, kT, .val (Part a2 2 0), .val (Is (.float .f64 x)), kF, kF, kF] [.inr 0, .inr 1] [.inl 15] follows S2 rfl (by kernel_rfl) ?_ ?_
  · repeat' refine And.intro ?_ ?_
    · trivial
    · exact mS 0 6
    · exact mO 0 14
    · exact oF 1 15
    · exact oF 1 15
    · exact oF 1 15
    · exact oF 1 15
    · exact pF wA (oO 1 15) (opnd_const _)
    · exact mO 6 20
    · exact mW (wI 7 21) (oS 0 6)
    · exact b_not (wI 7 21) (oO 8 22)
    · exact mW (wI 7 21) (oO 9 23)
    · exact owe_part rfl (wI 10 24) rfl (k := 0) rfl (by kernel_rfl) rfl (fun ρ w b h => part_ival0 ρ _ _ w b 0 h)
    · exact owe_pload rfl (wI 10 24) rfl (oO 11 25) (k := 0) rfl (by kernel_rfl) rfl (fun ρ w b u h1 h2 h3 => ploadI rfl load1_f64 ρ _ _ w b u h1 h2 h3)
    · exact owe_fcmp rfl (wI 10 24) rfl ((oO 12 26).imp (fl_is hx)) ((opnd_const _).imp (fl_is (by decide))) (by rw [hpx]; exact gt_f (by omega)) rfl
    · exact pT (wI 7 21) (oO 10 24) (oO 13 27)
    · exact pF wA (oO 7 21) (oO 14 28)
  intro B3 a3 W3 (S3 : Sta w 53 [(2, (.box 38 (SF [(Is (.float .f64 x)), (Is (.float .f64 y))]))), (3, (.box 29 (PR (Zv A k1) (Zv (((D : Nat) : Int)) k2))))] [(29, bF)] _ _ _)
  refine wp_cond_false (S3.bool 0 29 rfl) ?_
  refine wp_skip ?_
  refine thenN ?_
  refine wp_stmt_seq [.val (Part a3 2 1), .val (Is (.float .f64 y)), .val ((TWO (RN 0 1) (IS (.bool false))) w.heap.size), .val ((TWO (RN 0 1) (IS (.bool false))) w.heap.size), .val ((RN 0 1) w.heap.size), kF, .new (.box 29 zR), .put (.inr 6) (.box 29 ((RN 0 1) w.heap.size)), kF] [.inr 0, .inr 1, .inl 6] [.inl 8] follows S3 rfl (by kernel_rfl) ?_ ?_
  · repeat' refine And.intro ?_ ?_
    · trivial
    · exact owe_part rfl wA rfl (k := 0) rfl (by kernel_rfl) rfl (fun ρ w b h => part_ival1 ρ _ _ w b 0 h)
    · exact owe_pload rfl wA rfl (oO 0 31) (k := 0) rfl (by kernel_rfl) rfl (fun ρ w b u h1 h2 h3 => ploadI rfl load1_f64 ρ _ _ w b u h1 h2 h3)
    · exact cc1 wA (qO 1 32 rfl) (fresh_two (fresh_rn _ _) (fresh_is _)) (pur_is (fun w => rexact_not w y hy (fun p2 h2 => by rw [hpy] at h2; obtain rfl := Option.some.inj h2; exact f2)))
    · exact mO 2 33
    · exact e20 wA (oO 3 30)
    · exact e21 wA (oO 3 30)
    · exact owe_new rfl wA rfl rfl (fun ρ w => alloc_rat ρ _ w)
    · exact owe_put 6 rfl wA rfl (by kernel_rfl) rfl (oO 4 34) (stores_of strct_rat shp_r0 (shp_pr shp_zn shp_zn)) rfl
    · exact mO 5 35
  intro B4 a4 W4 (S4 : Sta w 53 [(2, (.box 38 (SF [(Is (.float .f64 x)), (Is (.float .f64 y))]))), (3, (.box 29 (PR (Zv A k1) (Zv (((D : Nat) : Int)) k2)))), (7, (.box 29 ((RN 0 1) w.heap.size)))] [(6, bF)] _ _ _)
  refine wp_stmt_seq [kF, kF, .off, .off, .off, .off, kF, kF, kF, kT, kT, .val (Part a4 2 1), .val (Is (.float .f64 y)), kT, kT, kT, kF, kF] [.inr 0] [.inl 17] follows S4 rfl (by kernel_rfl) ?_ ?_
  · repeat' refine And.intro ?_ ?_
    · trivial
    · exact mS 0 6
    · exact mO 0 36
    · exact oF 1 37
    · exact oF 1 37
    · exact oF 1 37
    · exact oF 1 37
    · exact pF wA (oO 1 37) (opnd_const _)
    · exact mO 6 42
    · exact mW (wI 7 43) (oS 0 6)
    · exact b_not (wI 7 43) (oO 8 44)
    · exact mW (wI 7 43) (oO 9 45)
    · exact owe_part rfl (wI 10 46) rfl (k := 0) rfl (by kernel_rfl) rfl (fun ρ w b h => part_ival1 ρ _ _ w b 0 h)
    · exact owe_pload rfl (wI 10 46) rfl (oO 11 47) (k := 0) rfl (by kernel_rfl) rfl (fun ρ w b u h1 h2 h3 => ploadI rfl load1_f64 ρ _ _ w b u h1 h2 h3)
    · exact owe_fcmp rfl (wI 10 46) rfl ((oO 12 48).imp (fl_is hy)) ((opnd_const _).imp (fl_is (by decide))) (by rw [hpy]; exact lt_t g2) rfl
    · exact pT (wI 7 43) (oO 10 46) (oO 13 49)
    · exact pF wA (oO 7 43) (oO 14 50)
    · exact b_not wA (oO 15 51)
    · exact mO 16 52
  intro B5 a5 W5 (S5 : Sta w 53 [(2, (.box 38 (SF [(Is (.float .f64 x)), (Is (.float .f64 y))])))] [(4, bF)] _ _ _)
  refine wp_ret ?_
  exact end_one S5 rfl (res_tmp S5 0 4 rfl)
set_option maxHeartbeats 400000 in
theorem rhold_ij (w : World) (x y : Nat) (hx : x < 18446744073709551616) (hy : y < 18446744073709551616) (px py : Int) (hpx : plc x = some px) (hpy : plc y = some py) (A : Int) (D k1 k2 : Nat) (r : Value) (hr : Has (fun _ => False) w (Rv A ((D : Nat) : Int) k1 k2) r) (hD : D ≠ 0) (b1 : k1 ≤ 8388608) (b2 : k2 ≤ 8388608) (f1 : ¬ Fin px) (g : px ≤ 0) (f2 : ¬ Fin py) (g2 : 0 ≤ py) :
    Calls Tryz.prog 31 #[(.agg #[.float .f64 x, .float .f64 y]), r] w (Gives (IS (.bool true)) w) := by
  refine calls_sta (sl := [(0, (SF [(Is (.float .f64 x)), (Is (.float .f64 y))])), (1, (PR (Zv A k1) (Zv (((D : Nat) : Int)) k2)))]) Tryz.func31 rfl Tryz.ntmps31 (by simp) (args_cons rfl (ix_has) (args_cons rfl (hr) args_nil)) ?_
  intro a0 S0
  refine wp_stmt_seq [.new (.box 38 (SF [(Is (.float .f64 x)), (Is (.float .f64 y))])), .new (.box 29 (PR (Zv A k1) (Zv (((D : Nat) : Int)) k2))), kF] [.inl 0, .inl 1] [] follows S0 rfl (by kernel_rfl) ?_ ?_
  · refine ⟨⟨⟨trivial, ?_⟩, ?_⟩, ?_⟩
    · exact owe_box rfl wA rfl (oS 0 0) rfl (fun ρ w h => box_ival shp_iv ρ _ _ w h)
    · exact owe_box rfl wA rfl (oS 1 1) rfl (fun ρ w h => box_rat (shp_pr shp_zv shp_zv) ρ _ _ w h)
    · exact mC
  intro B1 a1 W1 (S1 : Sta w 53 [(2, (.box 38 (SF [(Is (.float .f64 x)), (Is (.float .f64 y))]))), (3, (.box 29 (PR (Zv A k1) (Zv (((D : Nat) : Int)) k2))))] [] _ _ _)
  refine wp_stmt_seq [.val (Part a1 2 0), .val (Is (.float .f64 x)), .val ((TWO (RN 0 1) (IS (.bool false))) w.heap.size), .val ((TWO (RN 0 1) (IS (.bool false))) w.heap.size), .val ((RN 0 1) w.heap.size), kF, .new (.box 29 zR), .put (.inr 6) (.box 29 ((RN 0 1) w.heap.size)), kF] [.inr 0, .inr 1, .inl 6] [.inl 8] follows S1 rfl (by kernel_rfl) ?_ ?_
  · repeat' refine And.intro ?_ ?_
    · trivial
    · exact owe_part rfl wA rfl (k := 0) rfl (by kernel_rfl) rfl (fun ρ w b h => part_ival0 ρ _ _ w b 0 h)
    · exact owe_pload rfl wA rfl (oO 0 9) (k := 0) rfl (by kernel_rfl) rfl (fun ρ w b u h1 h2 h3 => ploadI rfl load1_f64 ρ _ _ w b u h1 h2 h3)
    · exact cc1 wA (qO 1 10 rfl) (fresh_two (fresh_rn _ _) (fresh_is _)) (pur_is (fun w => rexact_not w x hx (fun p2 h2 => by rw [hpx] at h2; obtain rfl := Option.some.inj h2; exact f1)))
    · exact mO 2 11
    · exact e20 wA (oO 3 8)
    · exact e21 wA (oO 3 8)
    · exact owe_new rfl wA rfl rfl (fun ρ w => alloc_rat ρ _ w)
    · exact owe_put 6 rfl wA rfl (by kernel_rfl) rfl (oO 4 12) (stores_of strct_rat shp_r0 (shp_pr shp_zn shp_zn)) rfl
    · exact mO 5 13
  intro B2 a2 W2 (S2 : Sta w 53 [(2, (.box 38 (SF [(Is (.float .f64 x)), (Is (.float .f64 y))]))), (3, (.box 29 (PR (Zv A k1) (Zv (((D : Nat) : Int)) k2)))), (5, (.box 29 ((RN 0 1) w.heap.size)))] [(6, bF)] _ _ _)
  refine wp_seq ?_
  refine wp_stmt_seq [kF, kF, .off, .off, .off, .off, kF, kF, kF, kT, kT, .val (Part a2 2 0), .val (Is (.float .f64 x)), kF, kF, kF] [.inr 0, .inr 1] [.inl 15] follows S2 rfl (by kernel_rfl) ?_ ?_
  · repeat' refine And.intro ?_ ?_
    · trivial
    · exact mS 0 6
    · exact mO 0 14
    · exact oF 1 15
    · exact oF 1 15
    · exact oF 1 15
    · exact oF 1 15
    · exact pF wA (oO 1 15) (opnd_const _)
    · exact mO 6 20
    · exact mW (wI 7 21) (oS 0 6)
    · exact b_not (wI 7 21) (oO 8 22)
    · exact mW (wI 7 21) (oO 9 23)
    · exact owe_part rfl (wI 10 24) rfl (k := 0) rfl (by kernel_rfl) rfl (fun ρ w b h => part_ival0 ρ _ _ w b 0 h)
    · exact owe_pload rfl (wI 10 24) rfl (oO 11 25) (k := 0) rfl (by kernel_rfl) rfl (fun ρ w b u h1 h2 h3 => ploadI rfl load1_f64 ρ _ _ w b u h1 h2 h3)
    · exact owe_fcmp rfl (wI 10 24) rfl ((oO 12 26).imp (fl_is hx)) ((opnd_const _).imp (fl_is (by decide))) (by rw [hpx]; exact gt_f (by omega)) rfl
    · exact pT (wI 7 21) (oO 10 24) (oO 13 27)
    · exact pF wA (oO 7 21) (oO 14 28)
  intro B3 a3 W3 (S3 : Sta w 53 [(2, (.box 38 (SF [(Is (.float .f64 x)), (Is (.float .f64 y))]))), (3, (.box 29 (PR (Zv A k1) (Zv (((D : Nat) : Int)) k2))))] [(29, bF)] _ _ _)
  refine wp_cond_false (S3.bool 0 29 rfl) ?_
  refine wp_skip ?_
  refine thenN ?_
  refine wp_stmt_seq [.val (Part a3 2 1), .val (Is (.float .f64 y)), .val ((TWO (RN 0 1) (IS (.bool false))) w.heap.size), .val ((TWO (RN 0 1) (IS (.bool false))) w.heap.size), .val ((RN 0 1) w.heap.size), kF, .new (.box 29 zR), .put (.inr 6) (.box 29 ((RN 0 1) w.heap.size)), kF] [.inr 0, .inr 1, .inl 6] [.inl 8] follows S3 rfl (by kernel_rfl) ?_ ?_
  · repeat' refine And.intro ?_ ?_
    · trivial
    · exact owe_part rfl wA rfl (k := 0) rfl (by kernel_rfl) rfl (fun ρ w b h => part_ival1 ρ _ _ w b 0 h)
    · exact owe_pload rfl wA rfl (oO 0 31) (k := 0) rfl (by kernel_rfl) rfl (fun ρ w b u h1 h2 h3 => ploadI rfl load1_f64 ρ _ _ w b u h1 h2 h3)
    · exact cc1 wA (qO 1 32 rfl) (fresh_two (fresh_rn _ _) (fresh_is _)) (pur_is (fun w => rexact_not w y hy (fun p2 h2 => by rw [hpy] at h2; obtain rfl := Option.some.inj h2; exact f2)))
    · exact mO 2 33
    · exact e20 wA (oO 3 30)
    · exact e21 wA (oO 3 30)
    · exact owe_new rfl wA rfl rfl (fun ρ w => alloc_rat ρ _ w)
    · exact owe_put 6 rfl wA rfl (by kernel_rfl) rfl (oO 4 34) (stores_of strct_rat shp_r0 (shp_pr shp_zn shp_zn)) rfl
    · exact mO 5 35
  intro B4 a4 W4 (S4 : Sta w 53 [(2, (.box 38 (SF [(Is (.float .f64 x)), (Is (.float .f64 y))]))), (3, (.box 29 (PR (Zv A k1) (Zv (((D : Nat) : Int)) k2)))), (7, (.box 29 ((RN 0 1) w.heap.size)))] [(6, bF)] _ _ _)
  refine wp_stmt_seq [kF, kF, .off, .off, .off, .off, kF, kF, kF, kT, kT, .val (Part a4 2 1), .val (Is (.float .f64 y)), kF, kF, kF, kT, kT] [.inr 0] [.inl 17] follows S4 rfl (by kernel_rfl) ?_ ?_
  · repeat' refine And.intro ?_ ?_
    · trivial
    · exact mS 0 6
    · exact mO 0 36
    · exact oF 1 37
    · exact oF 1 37
    · exact oF 1 37
    · exact oF 1 37
    · exact pF wA (oO 1 37) (opnd_const _)
    · exact mO 6 42
    · exact mW (wI 7 43) (oS 0 6)
    · exact b_not (wI 7 43) (oO 8 44)
    · exact mW (wI 7 43) (oO 9 45)
    · exact owe_part rfl (wI 10 46) rfl (k := 0) rfl (by kernel_rfl) rfl (fun ρ w b h => part_ival1 ρ _ _ w b 0 h)
    · exact owe_pload rfl (wI 10 46) rfl (oO 11 47) (k := 0) rfl (by kernel_rfl) rfl (fun ρ w b u h1 h2 h3 => ploadI rfl load1_f64 ρ _ _ w b u h1 h2 h3)
    · exact owe_fcmp rfl (wI 10 46) rfl ((oO 12 48).imp (fl_is hy)) ((opnd_const _).imp (fl_is (by decide))) (by rw [hpy]; exact lt_f (by omega)) rfl
    · exact pT (wI 7 43) (oO 10 46) (oO 13 49)
    · exact pF wA (oO 7 43) (oO 14 50)
    · exact b_not wA (oO 15 51)
    · exact mO 16 52
  intro B5 a5 W5 (S5 : Sta w 53 [(2, (.box 38 (SF [(Is (.float .f64 x)), (Is (.float .f64 y))])))] [(4, bT)] _ _ _)
  refine wp_ret ?_
  exact end_one S5 rfl (res_tmp S5 0 4 rfl)

theorem h_rholds {x y : Nat} (hx : x < 18446744073709551616) (hy : y < 18446744073709551616) {px py : Int} (hpx : plc x = some px) (hpy : plc y = some py) {A : Int} {D k1 k2 : Nat} (hD : D ≠ 0) (b1 : k1 ≤ 8388608) (b2 : k2 ≤ 8388608) : ∀ w u v, SF [Is (.float .f64 x), Is (.float .f64 y)] u w → Rv A ((D : Nat) : Int) k1 k2 v w → Calls Tryz.prog 31 #[u, v] w (Gives (IS (.bool (hoB px py A D))) w) := fun w u v e h1 => by
  rw [ix_eq e]
  have hr := rv_has h1
  unfold hoB
  have low : ∀ (P : Prop), (Fin px → agP px A D ≤ 0 → P) → (¬ Fin px → px ≤ 0 → P) → agP px A D ≤ 0 → P := fun P k1 k2 g => by
    by_cases f : Fin px
    · exact k1 f g
    · refine k2 f ?_
      apply Classical.byContradiction
      intro hc
      rw [← ag_pos f (by omega)] at g
      omega
  by_cases g : agP px A D ≤ 0
  · rw [if_pos g]
    by_cases f2 : Fin py
    · by_cases g2 : 0 ≤ agP py A D
      · rw [decide_eq_true g2]
        exact low _ (fun f1 g => rhold_fg w x y hx hy px py hpx hpy A D k1 k2 v hr hD b1 b2 f1 g f2 g2) (fun f1 g => rhold_ig w x y hx hy px py hpx hpy A D k1 k2 v hr hD b1 b2 f1 g f2 g2) g
      · rw [decide_eq_false g2]
        exact low _ (fun f1 g => rhold_ff w x y hx hy px py hpx hpy A D k1 k2 v hr hD b1 b2 f1 g f2 (by omega)) (fun f1 g => rhold_if w x y hx hy px py hpx hpy A D k1 k2 v hr hD b1 b2 f1 g f2 (by omega)) g
    · by_cases g2 : 0 ≤ py
      · rw [← ag_pos f2 g2, decide_eq_true (by decide)]
        exact low _ (fun f1 g => rhold_fj w x y hx hy px py hpx hpy A D k1 k2 v hr hD b1 b2 f1 g f2 g2) (fun f1 g => rhold_ij w x y hx hy px py hpx hpy A D k1 k2 v hr hD b1 b2 f1 g f2 g2) g
      · rw [← ag_neg f2 (by omega), decide_eq_false (by decide)]
        exact low _ (fun f1 g => rhold_fi w x y hx hy px py hpx hpy A D k1 k2 v hr hD b1 b2 f1 g f2 (by omega)) (fun f1 g => rhold_ii w x y hx hy px py hpx hpy A D k1 k2 v hr hD b1 b2 f1 g f2 (by omega)) g
  · rw [if_neg g]
    by_cases f1 : Fin px
    · exact rhold_f w x y hx hy px py hpx hpy A D k1 k2 v hr hD b1 b2 f1 (by omega)
    · refine rhold_i w x y hx hy px py hpx hpy A D k1 k2 v hr hD b1 b2 f1 ?_
      apply Classical.byContradiction
      intro hc
      by_cases h0 : px < 0
      · rw [← ag_neg f1 h0] at g; omega
      · exact f1 (by unfold Fin; omega)
theorem h_rval {A D : Int} {k1 k2 : Nat} (b1 : k1 ≤ 8388608) (b2 : k2 ≤ 8388608) {t : Bool} (ht : decide (0 < D.sign) = t) : ∀ w u, Rv A D k1 k2 u w → Calls Tryz.prog 30 #[u] w (Gives (IS (.bool t)) w) := by
  rw [← ht]; exact g_rvalid b1 b2
end Go.Proofs.YtgalppimdmjdcaaGreat
