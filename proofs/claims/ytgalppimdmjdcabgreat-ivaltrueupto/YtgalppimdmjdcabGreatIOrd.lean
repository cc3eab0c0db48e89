/-
  Orders of intervals, and what they hold; IvalOrders.
-/
import Derived.Test.YtgalppimdmjdcabGreatFOrd
import Derived.Test.YtgalppimdmjdcabGreatIStep
import Derived.Test.YtgalppimdmjdcabGreatJoins
namespace Go.Proofs.YtgalppimdmjdcabGreat
open Go Go.RowKit Nt
set_option linter.unusedSimpArgs false
set_option linter.unusedVariables false
set_option maxRecDepth 20000

theorem sgn_pos {D : Nat} (h : D ≠ 0) : 0 < ((D : Nat) : Int).sign := by rw [Int.sign_eq_one_of_pos (by omega)]; decide
theorem sgn_not {D : Int} (h : D ≤ 0) : D.sign ≤ 0 := by
  rcases Int.lt_or_eq_of_le h with h | rfl
  · rw [Int.sign_eq_neg_one_of_neg h]; decide
  · decide

theorem eq_ff {p q r s : Int} (h : ¬ (p = q ∧ r = s)) : (ordP (some p) (some q) == some .eq && ordP (some r) (some s) == some .eq) = false := by
  by_cases h1 : p = q
  · rw [eq_f (fun h2 => h ⟨h1, h2⟩), Bool.and_false]
  · rw [eq_f h1, Bool.false_and]
set_option maxHeartbeats 400000 in
theorem icmp_L (w : World) (x y x1 y1 : Nat) (hx : x < 18446744073709551616) (hy : y < 18446744073709551616) (hx1 : x1 < 18446744073709551616) (hy1 : y1 < 18446744073709551616) (h : okI x y = true) (h' : okI x1 y1 = true) (px py qx qy : Int) (hpx : plc x = some px) (hpy : plc y = some py) (hqx : plc x1 = some qx) (hqy : plc y1 = some qy) (g1 : py < qx) :
    Calls Tryz.prog 12 #[(.agg #[.float .f64 x, .float .f64 y]), (.agg #[.float .f64 x1, .float .f64 y1])] w (Gives (THREE (IS (.int .i64 (-1))) (IS (.bool true)) (IS (.int .i64 0))) w) := by
  refine calls_sta (sl := [(0, (SF [(Is (.float .f64 x)), (Is (.float .f64 y))])), (1, (SF [(Is (.float .f64 x1)), (Is (.float .f64 y1))]))]) Tryz.func12 rfl Tryz.ntmps12 (by simp) (args_cons rfl (ix_has) (args_cons rfl (ix_has) args_nil)) ?_
  intro a0 S0
  refine wp_stmt_seq [.new (.box 24 (SF [(Is (.float .f64 x)), (Is (.float .f64 y))])), .new (.box 24 (SF [(Is (.float .f64 x1)), (Is (.float .f64 y1))])), .val (iV 0), kF, .val (iV 0)] [.inl 0, .inl 1] [] follows S0 rfl (by kernel_rfl) ?_ ?_
  · refine ⟨⟨⟨⟨⟨trivial, ?_⟩, ?_⟩, ?_⟩, ?_⟩, ?_⟩
    · exact owe_box rfl wA rfl (oS 0 0) rfl (fun ρ w h => box_ival shp_iv ρ _ _ w h)
    · exact owe_box rfl wA rfl (oS 1 1) rfl (fun ρ w h => box_ival shp_iv ρ _ _ w h)
    · exact mC
    · exact mC
    · exact mC
  intro B1 a1 W1 (S1 : Sta w 42 [(2, (.box 24 (SF [(Is (.float .f64 x)), (Is (.float .f64 y))]))), (3, (.box 24 (SF [(Is (.float .f64 x1)), (Is (.float .f64 y1))])))] [] _ _ _)
  refine wp_seq ?_
  refine wp_stmt_seq [.val (SF [(Is (.float .f64 x)), (Is (.float .f64 y))]), .val (SF [(Is (.float .f64 x1)), (Is (.float .f64 y1))]), .val (iV 0), .val (iV 0)] [.inr 0, .inr 1] [.inl 3] follows S1 rfl (by kernel_rfl) ?_ ?_
  · refine ⟨⟨⟨⟨trivial, ?_⟩, ?_⟩, ?_⟩, ?_⟩
    · exact lod 0 wA (loads_of strct_ival shp_iv)
    · exact lod 1 wA (loads_of strct_ival shp_iv)
    · exact cc2 wA (qO 0 8 rfl) (qO 1 9 rfl) (fresh_is _) (ix2 (fun w => ivalid2_tt w x y x1 y1 hx hy hx1 hy1 h h'))
    · exact mO 2 10
  intro B2 a2 W2 (S2 : Sta w 42 [(2, (.box 24 (SF [(Is (.float .f64 x)), (Is (.float .f64 y))]))), (3, (.box 24 (SF [(Is (.float .f64 x1)), (Is (.float .f64 y1))])))] [(7, iV 0)] _ _ _)
  refine wp_stmt_seq [.val (iV 0), kF] [.inr 0, .inr 1] [.inl 1, .inr 0] follows S2 rfl (by kernel_rfl) ?_ ?_
  · refine ⟨⟨trivial, ?_⟩, ?_⟩
    · exact mS 0 7
    · exact b_neq_errno_f wA (oO 0 11) (opnd_const _) (h := by decide)
  intro B3 a3 W3 (S3 : Sta w 42 [(2, (.box 24 (SF [(Is (.float .f64 x)), (Is (.float .f64 y))]))), (3, (.box 24 (SF [(Is (.float .f64 x1)), (Is (.float .f64 y1))])))] [(12, bF), (7, iV 0)] _ _ _)
  refine wp_cond_false (S3.bool 0 12 rfl) ?_
  refine wp_skip ?_
  refine thenN ?_
  refine wp_seq ?_
  refine wp_block ?_
  refine wp_stmt_seq [.val (Part a3 2 1), .val (Is (.float .f64 y)), .val (Part a3 3 0), .val (Is (.float .f64 x1)), kT, kT] [.inr 0, .inr 1] [.inl 5] follows S3 rfl (by kernel_rfl) ?_ ?_
  · refine ⟨⟨⟨⟨⟨⟨trivial, ?_⟩, ?_⟩, ?_⟩, ?_⟩, ?_⟩, ?_⟩
    · exact owe_part rfl wA rfl (k := 0) rfl (by kernel_rfl) rfl (fun ρ w b h => part_ival1 ρ _ _ w b 0 h)
    · exact owe_pload rfl wA rfl (oO 0 15) (k := 0) rfl (by kernel_rfl) rfl (fun ρ w b u h1 h2 h3 => ploadI rfl load1_f64 ρ _ _ w b u h1 h2 h3)
    · exact owe_part rfl wA rfl (k := 1) rfl (by kernel_rfl) rfl (fun ρ w b h => part_ival0 ρ _ _ w b 0 h)
    · exact owe_pload rfl wA rfl (oO 2 17) (k := 1) rfl (by kernel_rfl) rfl (fun ρ w b u h1 h2 h3 => ploadI rfl load1_f64 ρ _ _ w b u h1 h2 h3)
    · exact owe_fcmp rfl wA rfl ((oO 1 16).imp (fl_is hy)) ((oO 3 18).imp (fl_is hx1)) (by rw [hpy, hqx]; exact lt_t g1) rfl
    · exact mO 4 19
  intro B4 a4 W4 (S4 : Sta w 42 [(2, (.box 24 (SF [(Is (.float .f64 x)), (Is (.float .f64 y))]))), (3, (.box 24 (SF [(Is (.float .f64 x1)), (Is (.float .f64 y1))])))] [(14, bT)] _ _ _)
  refine wp_cond_true (S4.bool 0 14 rfl) ?_
  refine wp_stmt_seq [.val (iV (-1)), kT, .val (iV 0)] [.inr 0, .inr 1] [.inl 0, .inl 1, .inl 2] follows S4 rfl (by kernel_rfl) ?_ ?_
  · refine ⟨⟨⟨trivial, ?_⟩, ?_⟩, ?_⟩
    · exact mC
    · exact mC
    · exact mC
  intro B5 a5 W5 (S5 : Sta w 42 [(2, (.box 24 (SF [(Is (.float .f64 x)), (Is (.float .f64 y))]))), (3, (.box 24 (SF [(Is (.float .f64 x1)), (Is (.float .f64 y1))])))] [(4, iV (-1)), (5, bT), (6, iV 0)] _ _ _)
  refine wp_ret ?_
  refine inBlkR ?_
  refine thenR ?_
  exact end_three S5 rfl (res_tmp S5 0 4 rfl) (res_tmp S5 1 5 rfl) (res_tmp S5 2 6 rfl)
set_option maxHeartbeats 400000 in
theorem icmp_G (w : World) (x y x1 y1 : Nat) (hx : x < 18446744073709551616) (hy : y < 18446744073709551616) (hx1 : x1 < 18446744073709551616) (hy1 : y1 < 18446744073709551616) (h : okI x y = true) (h' : okI x1 y1 = true) (px py qx qy : Int) (hpx : plc x = some px) (hpy : plc y = some py) (hqx : plc x1 = some qx) (hqy : plc y1 = some qy) (g1 : ¬ py < qx) (g2 : qy < px) :
    Calls Tryz.prog 12 #[(.agg #[.float .f64 x, .float .f64 y]), (.agg #[.float .f64 x1, .float .f64 y1])] w (Gives (THREE (IS (.int .i64 1)) (IS (.bool true)) (IS (.int .i64 0))) w) := by
  refine calls_sta (sl := [(0, (SF [(Is (.float .f64 x)), (Is (.float .f64 y))])), (1, (SF [(Is (.float .f64 x1)), (Is (.float .f64 y1))]))]) Tryz.func12 rfl Tryz.ntmps12 (by simp) (args_cons rfl (ix_has) (args_cons rfl (ix_has) args_nil)) ?_
  intro a0 S0
  refine wp_stmt_seq [.new (.box 24 (SF [(Is (.float .f64 x)), (Is (.float .f64 y))])), .new (.box 24 (SF [(Is (.float .f64 x1)), (Is (.float .f64 y1))])), .val (iV 0), kF, .val (iV 0)] [.inl 0, .inl 1] [] follows S0 rfl (by kernel_rfl) ?_ ?_
  · refine ⟨⟨⟨⟨⟨trivial, ?_⟩, ?_⟩, ?_⟩, ?_⟩, ?_⟩
    · exact owe_box rfl wA rfl (oS 0 0) rfl (fun ρ w h => box_ival shp_iv ρ _ _ w h)
    · exact owe_box rfl wA rfl (oS 1 1) rfl (fun ρ w h => box_ival shp_iv ρ _ _ w h)
    · exact mC
    · exact mC
    · exact mC
  intro B1 a1 W1 (S1 : Sta w 42 [(2, (.box 24 (SF [(Is (.float .f64 x)), (Is (.float .f64 y))]))), (3, (.box 24 (SF [(Is (.float .f64 x1)), (Is (.float .f64 y1))])))] [] _ _ _)
  refine wp_seq ?_
  refine wp_stmt_seq [.val (SF [(Is (.float .f64 x)), (Is (.float .f64 y))]), .val (SF [(Is (.float .f64 x1)), (Is (.float .f64 y1))]), .val (iV 0), .val (iV 0)] [.inr 0, .inr 1] [.inl 3] follows S1 rfl (by kernel_rfl) ?_ ?_
  · refine ⟨⟨⟨⟨trivial, ?_⟩, ?_⟩, ?_⟩, ?_⟩
    · exact lod 0 wA (loads_of strct_ival shp_iv)
    · exact lod 1 wA (loads_of strct_ival shp_iv)
    · exact cc2 wA (qO 0 8 rfl) (qO 1 9 rfl) (fresh_is _) (ix2 (fun w => ivalid2_tt w x y x1 y1 hx hy hx1 hy1 h h'))
    · exact mO 2 10
  intro B2 a2 W2 (S2 : Sta w 42 [(2, (.box 24 (SF [(Is (.float .f64 x)), (Is (.float .f64 y))]))), (3, (.box 24 (SF [(Is (.float .f64 x1)), (Is (.float .f64 y1))])))] [(7, iV 0)] _ _ _)
  refine wp_stmt_seq [.val (iV 0), kF] [.inr 0, .inr 1] [.inl 1, .inr 0] follows S2 rfl (by kernel_rfl) ?_ ?_
  · refine ⟨⟨trivial, ?_⟩, ?_⟩
    · exact mS 0 7
    · exact b_neq_errno_f wA (oO 0 11) (opnd_const _) (h := by decide)
  intro B3 a3 W3 (S3 : Sta w 42 [(2, (.box 24 (SF [(Is (.float .f64 x)), (Is (.float .f64 y))]))), (3, (.box 24 (SF [(Is (.float .f64 x1)), (Is (.float .f64 y1))])))] [(12, bF), (7, iV 0)] _ _ _)
  refine wp_cond_false (S3.bool 0 12 rfl) ?_
  refine wp_skip ?_
  refine thenN ?_
  refine wp_seq ?_
  refine wp_block ?_
  refine wp_stmt_seq [.val (Part a3 2 1), .val (Is (.float .f64 y)), .val (Part a3 3 0), .val (Is (.float .f64 x1)), kF, kF] [.inr 0, .inr 1] [.inl 5] follows S3 rfl (by kernel_rfl) ?_ ?_
  · refine ⟨⟨⟨⟨⟨⟨trivial, ?_⟩, ?_⟩, ?_⟩, ?_⟩, ?_⟩, ?_⟩
    · exact owe_part rfl wA rfl (k := 0) rfl (by kernel_rfl) rfl (fun ρ w b h => part_ival1 ρ _ _ w b 0 h)
    · exact owe_pload rfl wA rfl (oO 0 15) (k := 0) rfl (by kernel_rfl) rfl (fun ρ w b u h1 h2 h3 => ploadI rfl load1_f64 ρ _ _ w b u h1 h2 h3)
    · exact owe_part rfl wA rfl (k := 1) rfl (by kernel_rfl) rfl (fun ρ w b h => part_ival0 ρ _ _ w b 0 h)
    · exact owe_pload rfl wA rfl (oO 2 17) (k := 1) rfl (by kernel_rfl) rfl (fun ρ w b u h1 h2 h3 => ploadI rfl load1_f64 ρ _ _ w b u h1 h2 h3)
    · exact owe_fcmp rfl wA rfl ((oO 1 16).imp (fl_is hy)) ((oO 3 18).imp (fl_is hx1)) (by rw [hpy, hqx]; exact lt_f g1) rfl
    · exact mO 4 19
  intro B4 a4 W4 (S4 : Sta w 42 [(2, (.box 24 (SF [(Is (.float .f64 x)), (Is (.float .f64 y))]))), (3, (.box 24 (SF [(Is (.float .f64 x1)), (Is (.float .f64 y1))])))] [(14, bF)] _ _ _)
  refine wp_cond_false (S4.bool 0 14 rfl) ?_
  refine wp_stmt_seq [.val (Part a4 2 0), .val (Is (.float .f64 x)), .val (Part a4 3 1), .val (Is (.float .f64 y1)), kT, kT] [.inr 0, .inr 1] [.inl 5] follows S4 rfl (by kernel_rfl) ?_ ?_
  · refine ⟨⟨⟨⟨⟨⟨trivial, ?_⟩, ?_⟩, ?_⟩, ?_⟩, ?_⟩, ?_⟩
    · exact owe_part rfl wA rfl (k := 0) rfl (by kernel_rfl) rfl (fun ρ w b h => part_ival0 ρ _ _ w b 0 h)
    · exact owe_pload rfl wA rfl (oO 0 21) (k := 0) rfl (by kernel_rfl) rfl (fun ρ w b u h1 h2 h3 => ploadI rfl load1_f64 ρ _ _ w b u h1 h2 h3)
    · exact owe_part rfl wA rfl (k := 1) rfl (by kernel_rfl) rfl (fun ρ w b h => part_ival1 ρ _ _ w b 0 h)
    · exact owe_pload rfl wA rfl (oO 2 23) (k := 1) rfl (by kernel_rfl) rfl (fun ρ w b u h1 h2 h3 => ploadI rfl load1_f64 ρ _ _ w b u h1 h2 h3)
    · exact owe_fcmp rfl wA rfl ((oO 1 22).imp (fl_is hx)) ((oO 3 24).imp (fl_is hy1)) (by rw [hpx, hqy]; exact gt_t g2) rfl
    · exact mO 4 25
  intro B5 a5 W5 (S5 : Sta w 42 [(2, (.box 24 (SF [(Is (.float .f64 x)), (Is (.float .f64 y))]))), (3, (.box 24 (SF [(Is (.float .f64 x1)), (Is (.float .f64 y1))])))] [(20, bT)] _ _ _)
  refine wp_cond_true (S5.bool 0 20 rfl) ?_
  refine wp_stmt_seq [.val (iV 1), kT, .val (iV 0)] [.inr 0, .inr 1] [.inl 0, .inl 1, .inl 2] follows S5 rfl (by kernel_rfl) ?_ ?_
  · refine ⟨⟨⟨trivial, ?_⟩, ?_⟩, ?_⟩
    · exact mC
    · exact mC
    · exact mC
  intro B6 a6 W6 (S6 : Sta w 42 [(2, (.box 24 (SF [(Is (.float .f64 x)), (Is (.float .f64 y))]))), (3, (.box 24 (SF [(Is (.float .f64 x1)), (Is (.float .f64 y1))])))] [(4, iV 1), (5, bT), (6, iV 0)] _ _ _)
  refine wp_ret ?_
  refine inBlkR ?_
  refine thenR ?_
  exact end_three S6 rfl (res_tmp S6 0 4 rfl) (res_tmp S6 1 5 rfl) (res_tmp S6 2 6 rfl)
set_option maxHeartbeats 400000 in
theorem icmp_D (w : World) (x y x1 y1 : Nat) (hx : x < 18446744073709551616) (hy : y < 18446744073709551616) (hx1 : x1 < 18446744073709551616) (hy1 : y1 < 18446744073709551616) (h : okI x y = true) (h' : okI x1 y1 = true) (px py qx qy : Int) (hpx : plc x = some px) (hpy : plc y = some py) (hqx : plc x1 = some qx) (hqy : plc y1 = some qy) (g1 : ¬ py < qx) (g2 : ¬ qy < px) (g3 : ¬ (px = qx ∧ py = qy)) :
    Calls Tryz.prog 12 #[(.agg #[.float .f64 x, .float .f64 y]), (.agg #[.float .f64 x1, .float .f64 y1])] w (Gives (THREE (IS (.int .i64 0)) (IS (.bool false)) (IS (.int .i64 0))) w) := by
  refine calls_sta (sl := [(0, (SF [(Is (.float .f64 x)), (Is (.float .f64 y))])), (1, (SF [(Is (.float .f64 x1)), (Is (.float .f64 y1))]))]) Tryz.func12 rfl Tryz.ntmps12 (by simp) (args_cons rfl (ix_has) (args_cons rfl (ix_has) args_nil)) ?_
  intro a0 S0
  refine wp_stmt_seq [.new (.box 24 (SF [(Is (.float .f64 x)), (Is (.float .f64 y))])), .new (.box 24 (SF [(Is (.float .f64 x1)), (Is (.float .f64 y1))])), .val (iV 0), kF, .val (iV 0)] [.inl 0, .inl 1] [] follows S0 rfl (by kernel_rfl) ?_ ?_
  · refine ⟨⟨⟨⟨⟨trivial, ?_⟩, ?_⟩, ?_⟩, ?_⟩, ?_⟩
    · exact owe_box rfl wA rfl (oS 0 0) rfl (fun ρ w h => box_ival shp_iv ρ _ _ w h)
    · exact owe_box rfl wA rfl (oS 1 1) rfl (fun ρ w h => box_ival shp_iv ρ _ _ w h)
    · exact mC
    · exact mC
    · exact mC
  intro B1 a1 W1 (S1 : Sta w 42 [(2, (.box 24 (SF [(Is (.float .f64 x)), (Is (.float .f64 y))]))), (3, (.box 24 (SF [(Is (.float .f64 x1)), (Is (.float .f64 y1))])))] [] _ _ _)
  refine wp_seq ?_
  refine wp_stmt_seq [.val (SF [(Is (.float .f64 x)), (Is (.float .f64 y))]), .val (SF [(Is (.float .f64 x1)), (Is (.float .f64 y1))]), .val (iV 0), .val (iV 0)] [.inr 0, .inr 1] [.inl 3] follows S1 rfl (by kernel_rfl) ?_ ?_
  · refine ⟨⟨⟨⟨trivial, ?_⟩, ?_⟩, ?_⟩, ?_⟩
    · exact lod 0 wA (loads_of strct_ival shp_iv)
    · exact lod 1 wA (loads_of strct_ival shp_iv)
    · exact cc2 wA (qO 0 8 rfl) (qO 1 9 rfl) (fresh_is _) (ix2 (fun w => ivalid2_tt w x y x1 y1 hx hy hx1 hy1 h h'))
    · exact mO 2 10
  intro B2 a2 W2 (S2 : Sta w 42 [(2, (.box 24 (SF [(Is (.float .f64 x)), (Is (.float .f64 y))]))), (3, (.box 24 (SF [(Is (.float .f64 x1)), (Is (.float .f64 y1))])))] [(7, iV 0)] _ _ _)
  refine wp_stmt_seq [.val (iV 0), kF] [.inr 0, .inr 1] [.inl 1, .inr 0] follows S2 rfl (by kernel_rfl) ?_ ?_
  · refine ⟨⟨trivial, ?_⟩, ?_⟩
    · exact mS 0 7
    · exact b_neq_errno_f wA (oO 0 11) (opnd_const _) (h := by decide)
  intro B3 a3 W3 (S3 : Sta w 42 [(2, (.box 24 (SF [(Is (.float .f64 x)), (Is (.float .f64 y))]))), (3, (.box 24 (SF [(Is (.float .f64 x1)), (Is (.float .f64 y1))])))] [(12, bF), (7, iV 0)] _ _ _)
  refine wp_cond_false (S3.bool 0 12 rfl) ?_
  refine wp_skip ?_
  refine thenN ?_
  refine wp_seq ?_
  refine wp_block ?_
  refine wp_stmt_seq [.val (Part a3 2 1), .val (Is (.float .f64 y)), .val (Part a3 3 0), .val (Is (.float .f64 x1)), kF, kF] [.inr 0, .inr 1] [.inl 5] follows S3 rfl (by kernel_rfl) ?_ ?_
  · refine ⟨⟨⟨⟨⟨⟨trivial, ?_⟩, ?_⟩, ?_⟩, ?_⟩, ?_⟩, ?_⟩
    · exact owe_part rfl wA rfl (k := 0) rfl (by kernel_rfl) rfl (fun ρ w b h => part_ival1 ρ _ _ w b 0 h)
    · exact owe_pload rfl wA rfl (oO 0 15) (k := 0) rfl (by kernel_rfl) rfl (fun ρ w b u h1 h2 h3 => ploadI rfl load1_f64 ρ _ _ w b u h1 h2 h3)
    · exact owe_part rfl wA rfl (k := 1) rfl (by kernel_rfl) rfl (fun ρ w b h => part_ival0 ρ _ _ w b 0 h)
    · exact owe_pload rfl wA rfl (oO 2 17) (k := 1) rfl (by kernel_rfl) rfl (fun ρ w b u h1 h2 h3 => ploadI rfl load1_f64 ρ _ _ w b u h1 h2 h3)
    · exact owe_fcmp rfl wA rfl ((oO 1 16).imp (fl_is hy)) ((oO 3 18).imp (fl_is hx1)) (by rw [hpy, hqx]; exact lt_f g1) rfl
    · exact mO 4 19
  intro B4 a4 W4 (S4 : Sta w 42 [(2, (.box 24 (SF [(Is (.float .f64 x)), (Is (.float .f64 y))]))), (3, (.box 24 (SF [(Is (.float .f64 x1)), (Is (.float .f64 y1))])))] [(14, bF)] _ _ _)
  refine wp_cond_false (S4.bool 0 14 rfl) ?_
  refine wp_stmt_seq [.val (Part a4 2 0), .val (Is (.float .f64 x)), .val (Part a4 3 1), .val (Is (.float .f64 y1)), kF, kF] [.inr 0, .inr 1] [.inl 5] follows S4 rfl (by kernel_rfl) ?_ ?_
  · refine ⟨⟨⟨⟨⟨⟨trivial, ?_⟩, ?_⟩, ?_⟩, ?_⟩, ?_⟩, ?_⟩
    · exact owe_part rfl wA rfl (k := 0) rfl (by kernel_rfl) rfl (fun ρ w b h => part_ival0 ρ _ _ w b 0 h)
    · exact owe_pload rfl wA rfl (oO 0 21) (k := 0) rfl (by kernel_rfl) rfl (fun ρ w b u h1 h2 h3 => ploadI rfl load1_f64 ρ _ _ w b u h1 h2 h3)
    · exact owe_part rfl wA rfl (k := 1) rfl (by kernel_rfl) rfl (fun ρ w b h => part_ival1 ρ _ _ w b 0 h)
    · exact owe_pload rfl wA rfl (oO 2 23) (k := 1) rfl (by kernel_rfl) rfl (fun ρ w b u h1 h2 h3 => ploadI rfl load1_f64 ρ _ _ w b u h1 h2 h3)
    · exact owe_fcmp rfl wA rfl ((oO 1 22).imp (fl_is hx)) ((oO 3 24).imp (fl_is hy1)) (by rw [hpx, hqy]; exact gt_f g2) rfl
    · exact mO 4 25
  intro B5 a5 W5 (S5 : Sta w 42 [(2, (.box 24 (SF [(Is (.float .f64 x)), (Is (.float .f64 y))]))), (3, (.box 24 (SF [(Is (.float .f64 x1)), (Is (.float .f64 y1))])))] [(20, bF)] _ _ _)
  refine wp_cond_false (S5.bool 0 20 rfl) ?_
  refine wp_skip ?_
  refine inBlkN ?_
  refine thenN ?_
  refine wp_stmt_seq [.val (SF [(Is (.float .f64 x)), (Is (.float .f64 y))]), .val (SF [(Is (.float .f64 x1)), (Is (.float .f64 y1))]), kF, kF, .off, .off, .off, .off, .off, kF, kF, .off, .off, .off, .off, kF, .val (iV 0), kF, .val (iV 0)] [.inr 0, .inr 1] [.inl 16, .inl 17, .inl 18] follows S5 rfl (by kernel_rfl) ?_ ?_
  · repeat' refine And.intro ?_ ?_
    · trivial
    · exact lod 0 wA (loads_of strct_ival shp_iv)
    · exact lod 1 wA (loads_of strct_ival shp_iv)
    · exact owe_bin rfl wA rfl ((oO 0 26).imp ix_is) ((oO 1 27).imp ix_is) rfl (fun ρ w h1 h2 => run_eql_ivt ρ _ _ _ w x y x1 y1 (by rw [hpx, hqx, hpy, hqy]; exact eq_ff g3) h1 h2)
    · exact mO 2 28
    · exact oF 3 29
    · exact oF 3 29
    · exact oF 3 29
    · exact oF 3 29
    · exact oF 3 29
    · exact pF wA (oO 3 29) (opnd_const _)
    · exact mO 9 35
    · exact oF 10 36
    · exact oF 10 36
    · exact oF 10 36
    · exact oF 10 36
    · exact pF wA (oO 10 36) (opnd_const _)
    · exact mC
    · exact mO 15 41
    · exact mC
  intro B6 a6 W6 (S6 : Sta w 42 [(2, (.box 24 (SF [(Is (.float .f64 x)), (Is (.float .f64 y))]))), (3, (.box 24 (SF [(Is (.float .f64 x1)), (Is (.float .f64 y1))])))] [(4, iV 0), (5, bF), (6, iV 0)] _ _ _)
  refine wp_ret ?_
  exact end_three S6 rfl (res_tmp S6 0 4 rfl) (res_tmp S6 1 5 rfl) (res_tmp S6 2 6 rfl)
set_option maxHeartbeats 400000 in
theorem icmp_W (w : World) (x y x1 y1 : Nat) (hx : x < 18446744073709551616) (hy : y < 18446744073709551616) (hx1 : x1 < 18446744073709551616) (hy1 : y1 < 18446744073709551616) (h : okI x y = true) (h' : okI x1 y1 = true) (px py qx qy : Int) (hpx : plc x = some px) (hpy : plc y = some py) (hqx : plc x1 = some qx) (hqy : plc y1 = some qy) (g1 : ¬ py < qx) (g2 : ¬ qy < px) (g3 : px = qx ∧ py = qy) (g4 : ¬ px = py) :
    Calls Tryz.prog 12 #[(.agg #[.float .f64 x, .float .f64 y]), (.agg #[.float .f64 x1, .float .f64 y1])] w (Gives (THREE (IS (.int .i64 0)) (IS (.bool false)) (IS (.int .i64 0))) w) := by
  refine calls_sta (sl := [(0, (SF [(Is (.float .f64 x)), (Is (.float .f64 y))])), (1, (SF [(Is (.float .f64 x1)), (Is (.float .f64 y1))]))]) Tryz.func12 rfl Tryz.ntmps12 (by simp) (args_cons rfl (ix_has) (args_cons rfl (ix_has) args_nil)) ?_
  intro a0 S0
  refine wp_stmt_seq [.new (.box 24 (SF [(Is (.float .f64 x)), (Is (.float .f64 y))])), .new (.box 24 (SF [(Is (.float .f64 x1)), (Is (.float .f64 y1))])), .val (iV 0), kF, .val (iV 0)] [.inl 0, .inl 1] [] follows S0 rfl (by kernel_rfl) ?_ ?_
  · refine ⟨⟨⟨⟨⟨trivial, ?_⟩, ?_⟩, ?_⟩, ?_⟩, ?_⟩
    · exact owe_box rfl wA rfl (oS 0 0) rfl (fun ρ w h => box_ival shp_iv ρ _ _ w h)
    · exact owe_box rfl wA rfl (oS 1 1) rfl (fun ρ w h => box_ival shp_iv ρ _ _ w h)
    · exact mC
    · exact mC
    · exact mC
  intro B1 a1 W1 (S1 : Sta w 42 [(2, (.box 24 (SF [(Is (.float .f64 x)), (Is (.float .f64 y))]))), (3, (.box 24 (SF [(Is (.float .f64 x1)), (Is (.float .f64 y1))])))] [] _ _ _)
  refine wp_seq ?_
  refine wp_stmt_seq [.val (SF [(Is (.float .f64 x)), (Is (.float .f64 y))]), .val (SF [(Is (.float .f64 x1)), (Is (.float .f64 y1))]), .val (iV 0), .val (iV 0)] [.inr 0, .inr 1] [.inl 3] follows S1 rfl (by kernel_rfl) ?_ ?_
  · refine ⟨⟨⟨⟨trivial, ?_⟩, ?_⟩, ?_⟩, ?_⟩
    · exact lod 0 wA (loads_of strct_ival shp_iv)
    · exact lod 1 wA (loads_of strct_ival shp_iv)
    · exact cc2 wA (qO 0 8 rfl) (qO 1 9 rfl) (fresh_is _) (ix2 (fun w => ivalid2_tt w x y x1 y1 hx hy hx1 hy1 h h'))
    · exact mO 2 10
  intro B2 a2 W2 (S2 : Sta w 42 [(2, (.box 24 (SF [(Is (.float .f64 x)), (Is (.float .f64 y))]))), (3, (.box 24 (SF [(Is (.float .f64 x1)), (Is (.float .f64 y1))])))] [(7, iV 0)] _ _ _)
  refine wp_stmt_seq [.val (iV 0), kF] [.inr 0, .inr 1] [.inl 1, .inr 0] follows S2 rfl (by kernel_rfl) ?_ ?_
  · refine ⟨⟨trivial, ?_⟩, ?_⟩
    · exact mS 0 7
    · exact b_neq_errno_f wA (oO 0 11) (opnd_const _) (h := by decide)
  intro B3 a3 W3 (S3 : Sta w 42 [(2, (.box 24 (SF [(Is (.float .f64 x)), (Is (.float .f64 y))]))), (3, (.box 24 (SF [(Is (.float .f64 x1)), (Is (.float .f64 y1))])))] [(12, bF), (7, iV 0)] _ _ _)
  refine wp_cond_false (S3.bool 0 12 rfl) ?_
  refine wp_skip ?_
  refine thenN ?_
  refine wp_seq ?_
  refine wp_block ?_
  refine wp_stmt_seq [.val (Part a3 2 1), .val (Is (.float .f64 y)), .val (Part a3 3 0), .val (Is (.float .f64 x1)), kF, kF] [.inr 0, .inr 1] [.inl 5] follows S3 rfl (by kernel_rfl) ?_ ?_
  · refine ⟨⟨⟨⟨⟨⟨trivial, ?_⟩, ?_⟩, ?_⟩, ?_⟩, ?_⟩, ?_⟩
    · exact owe_part rfl wA rfl (k := 0) rfl (by kernel_rfl) rfl (fun ρ w b h => part_ival1 ρ _ _ w b 0 h)
    · exact owe_pload rfl wA rfl (oO 0 15) (k := 0) rfl (by kernel_rfl) rfl (fun ρ w b u h1 h2 h3 => ploadI rfl load1_f64 ρ _ _ w b u h1 h2 h3)
    · exact owe_part rfl wA rfl (k := 1) rfl (by kernel_rfl) rfl (fun ρ w b h => part_ival0 ρ _ _ w b 0 h)
    · exact owe_pload rfl wA rfl (oO 2 17) (k := 1) rfl (by kernel_rfl) rfl (fun ρ w b u h1 h2 h3 => ploadI rfl load1_f64 ρ _ _ w b u h1 h2 h3)
    · exact owe_fcmp rfl wA rfl ((oO 1 16).imp (fl_is hy)) ((oO 3 18).imp (fl_is hx1)) (by rw [hpy, hqx]; exact lt_f g1) rfl
    · exact mO 4 19
  intro B4 a4 W4 (S4 : Sta w 42 [(2, (.box 24 (SF [(Is (.float .f64 x)), (Is (.float .f64 y))]))), (3, (.box 24 (SF [(Is (.float .f64 x1)), (Is (.float .f64 y1))])))] [(14, bF)] _ _ _)
  refine wp_cond_false (S4.bool 0 14 rfl) ?_
  refine wp_stmt_seq [.val (Part a4 2 0), .val (Is (.float .f64 x)), .val (Part a4 3 1), .val (Is (.float .f64 y1)), kF, kF] [.inr 0, .inr 1] [.inl 5] follows S4 rfl (by kernel_rfl) ?_ ?_
  · refine ⟨⟨⟨⟨⟨⟨trivial, ?_⟩, ?_⟩, ?_⟩, ?_⟩, ?_⟩, ?_⟩
    · exact owe_part rfl wA rfl (k := 0) rfl (by kernel_rfl) rfl (fun ρ w b h => part_ival0 ρ _ _ w b 0 h)
    · exact owe_pload rfl wA rfl (oO 0 21) (k := 0) rfl (by kernel_rfl) rfl (fun ρ w b u h1 h2 h3 => ploadI rfl load1_f64 ρ _ _ w b u h1 h2 h3)
    · exact owe_part rfl wA rfl (k := 1) rfl (by kernel_rfl) rfl (fun ρ w b h => part_ival1 ρ _ _ w b 0 h)
    · exact owe_pload rfl wA rfl (oO 2 23) (k := 1) rfl (by kernel_rfl) rfl (fun ρ w b u h1 h2 h3 => ploadI rfl load1_f64 ρ _ _ w b u h1 h2 h3)
    · exact owe_fcmp rfl wA rfl ((oO 1 22).imp (fl_is hx)) ((oO 3 24).imp (fl_is hy1)) (by rw [hpx, hqy]; exact gt_f g2) rfl
    · exact mO 4 25
  intro B5 a5 W5 (S5 : Sta w 42 [(2, (.box 24 (SF [(Is (.float .f64 x)), (Is (.float .f64 y))]))), (3, (.box 24 (SF [(Is (.float .f64 x1)), (Is (.float .f64 y1))])))] [(20, bF)] _ _ _)
  refine wp_cond_false (S5.bool 0 20 rfl) ?_
  refine wp_skip ?_
  refine inBlkN ?_
  refine thenN ?_
  refine wp_stmt_seq [.val (SF [(Is (.float .f64 x)), (Is (.float .f64 y))]), .val (SF [(Is (.float .f64 x1)), (Is (.float .f64 y1))]), kT, kT, .val (Part a5 2 0), .val (Is (.float .f64 x)), .val (Part a5 2 1), .val (Is (.float .f64 y)), kF, kF, kF, .off, .off, .off, .off, kF, .val (iV 0), kF, .val (iV 0)] [.inr 0, .inr 1] [.inl 16, .inl 17, .inl 18] follows S5 rfl (by kernel_rfl) ?_ ?_
  · repeat' refine And.intro ?_ ?_
    · trivial
    · exact lod 0 wA (loads_of strct_ival shp_iv)
    · exact lod 1 wA (loads_of strct_ival shp_iv)
    · exact owe_bin rfl wA rfl ((oO 0 26).imp ix_is) ((oO 1 27).imp ix_is) rfl (fun ρ w h1 h2 => run_eql_ivt ρ _ _ _ w x y x1 y1 (by rw [hpx, hqx, hpy, hqy, eq_t g3.1, eq_t g3.2]; rfl) h1 h2)
    · exact mO 2 28
    · exact owe_part rfl (wI 3 29) rfl (k := 0) rfl (by kernel_rfl) rfl (fun ρ w b h => part_ival0 ρ _ _ w b 0 h)
    · exact owe_pload rfl (wI 3 29) rfl (oO 4 30) (k := 0) rfl (by kernel_rfl) rfl (fun ρ w b u h1 h2 h3 => ploadI rfl load1_f64 ρ _ _ w b u h1 h2 h3)
    · exact owe_part rfl (wI 3 29) rfl (k := 0) rfl (by kernel_rfl) rfl (fun ρ w b h => part_ival1 ρ _ _ w b 0 h)
    · exact owe_pload rfl (wI 3 29) rfl (oO 6 32) (k := 0) rfl (by kernel_rfl) rfl (fun ρ w b u h1 h2 h3 => ploadI rfl load1_f64 ρ _ _ w b u h1 h2 h3)
    · exact owe_fcmp rfl (wI 3 29) rfl ((oO 5 31).imp (fl_is hx)) ((oO 7 33).imp (fl_is hy)) (by rw [hpx, hpy]; exact eq_f g4) rfl
    · exact pT wA (oO 3 29) (oO 8 34)
    · exact mO 9 35
    · exact oF 10 36
    · exact oF 10 36
    · exact oF 10 36
    · exact oF 10 36
    · exact pF wA (oO 10 36) (opnd_const _)
    · exact mC
    · exact mO 15 41
    · exact mC
  intro B6 a6 W6 (S6 : Sta w 42 [(2, (.box 24 (SF [(Is (.float .f64 x)), (Is (.float .f64 y))]))), (3, (.box 24 (SF [(Is (.float .f64 x1)), (Is (.float .f64 y1))])))] [(4, iV 0), (5, bF), (6, iV 0)] _ _ _)
  refine wp_ret ?_
  exact end_three S6 rfl (res_tmp S6 0 4 rfl) (res_tmp S6 1 5 rfl) (res_tmp S6 2 6 rfl)
set_option maxHeartbeats 400000 in
theorem icmp_I (w : World) (x y x1 y1 : Nat) (hx : x < 18446744073709551616) (hy : y < 18446744073709551616) (hx1 : x1 < 18446744073709551616) (hy1 : y1 < 18446744073709551616) (h : okI x y = true) (h' : okI x1 y1 = true) (px py qx qy : Int) (hpx : plc x = some px) (hpy : plc y = some py) (hqx : plc x1 = some qx) (hqy : plc y1 = some qy) (g1 : ¬ py < qx) (g2 : ¬ qy < px) (g3 : px = qx ∧ py = qy) (g4 : px = py) (g5 : px = 9218868437227405312 ∨ px = -9218868437227405312) :
    Calls Tryz.prog 12 #[(.agg #[.float .f64 x, .float .f64 y]), (.agg #[.float .f64 x1, .float .f64 y1])] w (Gives (THREE (IS (.int .i64 0)) (IS (.bool false)) (IS (.int .i64 0))) w) := by
  refine calls_sta (sl := [(0, (SF [(Is (.float .f64 x)), (Is (.float .f64 y))])), (1, (SF [(Is (.float .f64 x1)), (Is (.float .f64 y1))]))]) Tryz.func12 rfl Tryz.ntmps12 (by simp) (args_cons rfl (ix_has) (args_cons rfl (ix_has) args_nil)) ?_
  intro a0 S0
  refine wp_stmt_seq [.new (.box 24 (SF [(Is (.float .f64 x)), (Is (.float .f64 y))])), .new (.box 24 (SF [(Is (.float .f64 x1)), (Is (.float .f64 y1))])), .val (iV 0), kF, .val (iV 0)] [.inl 0, .inl 1] [] follows S0 rfl (by kernel_rfl) ?_ ?_
  · refine ⟨⟨⟨⟨⟨trivial, ?_⟩, ?_⟩, ?_⟩, ?_⟩, ?_⟩
    · exact owe_box rfl wA rfl (oS 0 0) rfl (fun ρ w h => box_ival shp_iv ρ _ _ w h)
    · exact owe_box rfl wA rfl (oS 1 1) rfl (fun ρ w h => box_ival shp_iv ρ _ _ w h)
    · exact mC
    · exact mC
    · exact mC
  intro B1 a1 W1 (S1 : Sta w 42 [(2, (.box 24 (SF [(Is (.float .f64 x)), (Is (.float .f64 y))]))), (3, (.box 24 (SF [(Is (.float .f64 x1)), (Is (.float .f64 y1))])))] [] _ _ _)
  refine wp_seq ?_
  refine wp_stmt_seq [.val (SF [(Is (.float .f64 x)), (Is (.float .f64 y))]), .val (SF [(Is (.float .f64 x1)), (Is (.float .f64 y1))]), .val (iV 0), .val (iV 0)] [.inr 0, .inr 1] [.inl 3] follows S1 rfl (by kernel_rfl) ?_ ?_
  · refine ⟨⟨⟨⟨trivial, ?_⟩, ?_⟩, ?_⟩, ?_⟩
    · exact lod 0 wA (loads_of strct_ival shp_iv)
    · exact lod 1 wA (loads_of strct_ival shp_iv)
    · exact cc2 wA (qO 0 8 rfl) (qO 1 9 rfl) (fresh_is _) (ix2 (fun w => ivalid2_tt w x y x1 y1 hx hy hx1 hy1 h h'))
    · exact mO 2 10
  intro B2 a2 W2 (S2 : Sta w 42 [(2, (.box 24 (SF [(Is (.float .f64 x)), (Is (.float .f64 y))]))), (3, (.box 24 (SF [(Is (.float .f64 x1)), (Is (.float .f64 y1))])))] [(7, iV 0)] _ _ _)
  refine wp_stmt_seq [.val (iV 0), kF] [.inr 0, .inr 1] [.inl 1, .inr 0] follows S2 rfl (by kernel_rfl) ?_ ?_
  · refine ⟨⟨trivial, ?_⟩, ?_⟩
    · exact mS 0 7
    · exact b_neq_errno_f wA (oO 0 11) (opnd_const _) (h := by decide)
  intro B3 a3 W3 (S3 : Sta w 42 [(2, (.box 24 (SF [(Is (.float .f64 x)), (Is (.float .f64 y))]))), (3, (.box 24 (SF [(Is (.float .f64 x1)), (Is (.float .f64 y1))])))] [(12, bF), (7, iV 0)] _ _ _)
  refine wp_cond_false (S3.bool 0 12 rfl) ?_
  refine wp_skip ?_
  refine thenN ?_
  refine wp_seq ?_
  refine wp_block ?_
  refine wp_stmt_seq [.val (Part a3 2 1), .val (Is (.float .f64 y)), .val (Part a3 3 0), .val (Is (.float .f64 x1)), kF, kF] [.inr 0, .inr 1] [.inl 5] follows S3 rfl (by kernel_rfl) ?_ ?_
  · refine ⟨⟨⟨⟨⟨⟨trivial, ?_⟩, ?_⟩, ?_⟩, ?_⟩, ?_⟩, ?_⟩
    · exact owe_part rfl wA rfl (k := 0) rfl (by kernel_rfl) rfl (fun ρ w b h => part_ival1 ρ _ _ w b 0 h)
    · exact owe_pload rfl wA rfl (oO 0 15) (k := 0) rfl (by kernel_rfl) rfl (fun ρ w b u h1 h2 h3 => ploadI rfl load1_f64 ρ _ _ w b u h1 h2 h3)
    · exact owe_part rfl wA rfl (k := 1) rfl (by kernel_rfl) rfl (fun ρ w b h => part_ival0 ρ _ _ w b 0 h)
    · exact owe_pload rfl wA rfl (oO 2 17) (k := 1) rfl (by kernel_rfl) rfl (fun ρ w b u h1 h2 h3 => ploadI rfl load1_f64 ρ _ _ w b u h1 h2 h3)
    · exact owe_fcmp rfl wA rfl ((oO 1 16).imp (fl_is hy)) ((oO 3 18).imp (fl_is hx1)) (by rw [hpy, hqx]; exact lt_f g1) rfl
    · exact mO 4 19
  intro B4 a4 W4 (S4 : Sta w 42 [(2, (.box 24 (SF [(Is (.float .f64 x)), (Is (.float .f64 y))]))), (3, (.box 24 (SF [(Is (.float .f64 x1)), (Is (.float .f64 y1))])))] [(14, bF)] _ _ _)
  refine wp_cond_false (S4.bool 0 14 rfl) ?_
  refine wp_stmt_seq [.val (Part a4 2 0), .val (Is (.float .f64 x)), .val (Part a4 3 1), .val (Is (.float .f64 y1)), kF, kF] [.inr 0, .inr 1] [.inl 5] follows S4 rfl (by kernel_rfl) ?_ ?_
  · refine ⟨⟨⟨⟨⟨⟨trivial, ?_⟩, ?_⟩, ?_⟩, ?_⟩, ?_⟩, ?_⟩
    · exact owe_part rfl wA rfl (k := 0) rfl (by kernel_rfl) rfl (fun ρ w b h => part_ival0 ρ _ _ w b 0 h)
    · exact owe_pload rfl wA rfl (oO 0 21) (k := 0) rfl (by kernel_rfl) rfl (fun ρ w b u h1 h2 h3 => ploadI rfl load1_f64 ρ _ _ w b u h1 h2 h3)
    · exact owe_part rfl wA rfl (k := 1) rfl (by kernel_rfl) rfl (fun ρ w b h => part_ival1 ρ _ _ w b 0 h)
    · exact owe_pload rfl wA rfl (oO 2 23) (k := 1) rfl (by kernel_rfl) rfl (fun ρ w b u h1 h2 h3 => ploadI rfl load1_f64 ρ _ _ w b u h1 h2 h3)
    · exact owe_fcmp rfl wA rfl ((oO 1 22).imp (fl_is hx)) ((oO 3 24).imp (fl_is hy1)) (by rw [hpx, hqy]; exact gt_f g2) rfl
    · exact mO 4 25
  intro B5 a5 W5 (S5 : Sta w 42 [(2, (.box 24 (SF [(Is (.float .f64 x)), (Is (.float .f64 y))]))), (3, (.box 24 (SF [(Is (.float .f64 x1)), (Is (.float .f64 y1))])))] [(20, bF)] _ _ _)
  refine wp_cond_false (S5.bool 0 20 rfl) ?_
  refine wp_skip ?_
  refine inBlkN ?_
  refine thenN ?_
  refine wp_stmt_seq [.val (SF [(Is (.float .f64 x)), (Is (.float .f64 y))]), .val (SF [(Is (.float .f64 x1)), (Is (.float .f64 y1))]), kT, kT, .val (Part a5 2 0), .val (Is (.float .f64 x)), .val (Part a5 2 1), .val (Is (.float .f64 y)), kT, kT, kT, .val (Part a5 2 0), .val (Is (.float .f64 x)), kT, kF, kF, .val (iV 0), kF, .val (iV 0)] [.inr 0, .inr 1] [.inl 16, .inl 17, .inl 18] follows S5 rfl (by kernel_rfl) ?_ ?_
  · repeat' refine And.intro ?_ ?_
    · trivial
    · exact lod 0 wA (loads_of strct_ival shp_iv)
    · exact lod 1 wA (loads_of strct_ival shp_iv)
    · exact owe_bin rfl wA rfl ((oO 0 26).imp ix_is) ((oO 1 27).imp ix_is) rfl (fun ρ w h1 h2 => run_eql_ivt ρ _ _ _ w x y x1 y1 (by rw [hpx, hqx, hpy, hqy, eq_t g3.1, eq_t g3.2]; rfl) h1 h2)
    · exact mO 2 28
    · exact owe_part rfl (wI 3 29) rfl (k := 0) rfl (by kernel_rfl) rfl (fun ρ w b h => part_ival0 ρ _ _ w b 0 h)
    · exact owe_pload rfl (wI 3 29) rfl (oO 4 30) (k := 0) rfl (by kernel_rfl) rfl (fun ρ w b u h1 h2 h3 => ploadI rfl load1_f64 ρ _ _ w b u h1 h2 h3)
    · exact owe_part rfl (wI 3 29) rfl (k := 0) rfl (by kernel_rfl) rfl (fun ρ w b h => part_ival1 ρ _ _ w b 0 h)
    · exact owe_pload rfl (wI 3 29) rfl (oO 6 32) (k := 0) rfl (by kernel_rfl) rfl (fun ρ w b u h1 h2 h3 => ploadI rfl load1_f64 ρ _ _ w b u h1 h2 h3)
    · exact owe_fcmp rfl (wI 3 29) rfl ((oO 5 31).imp (fl_is hx)) ((oO 7 33).imp (fl_is hy)) (by rw [hpx, hpy]; exact eq_t g4) rfl
    · exact pT wA (oO 3 29) (oO 8 34)
    · exact mO 9 35
    · exact owe_part rfl (wI 10 36) rfl (k := 0) rfl (by kernel_rfl) rfl (fun ρ w b h => part_ival0 ρ _ _ w b 0 h)
    · exact owe_pload rfl (wI 10 36) rfl (oO 11 37) (k := 0) rfl (by kernel_rfl) rfl (fun ρ w b u h1 h2 h3 => ploadI rfl load1_f64 ρ _ _ w b u h1 h2 h3)
    · exact cc2 (wI 10 36) (qO 12 38 rfl) (opnd_const _) (fresh_is _) (pur2 (isinf_yes hx hpx g5))
    · exact b_not (wI 10 36) (oO 13 39)
    · exact pT wA (oO 10 36) (oO 14 40)
    · exact mC
    · exact mO 15 41
    · exact mC
  intro B6 a6 W6 (S6 : Sta w 42 [(2, (.box 24 (SF [(Is (.float .f64 x)), (Is (.float .f64 y))]))), (3, (.box 24 (SF [(Is (.float .f64 x1)), (Is (.float .f64 y1))])))] [(4, iV 0), (5, bF), (6, iV 0)] _ _ _)
  refine wp_ret ?_
  exact end_three S6 rfl (res_tmp S6 0 4 rfl) (res_tmp S6 1 5 rfl) (res_tmp S6 2 6 rfl)
set_option maxHeartbeats 400000 in
theorem icmp_E (w : World) (x y x1 y1 : Nat) (hx : x < 18446744073709551616) (hy : y < 18446744073709551616) (hx1 : x1 < 18446744073709551616) (hy1 : y1 < 18446744073709551616) (h : okI x y = true) (h' : okI x1 y1 = true) (px py qx qy : Int) (hpx : plc x = some px) (hpy : plc y = some py) (hqx : plc x1 = some qx) (hqy : plc y1 = some qy) (g1 : ¬ py < qx) (g2 : ¬ qy < px) (g3 : px = qx ∧ py = qy) (g4 : px = py) (g5 : ¬ (px = 9218868437227405312 ∨ px = -9218868437227405312)) :
    Calls Tryz.prog 12 #[(.agg #[.float .f64 x, .float .f64 y]), (.agg #[.float .f64 x1, .float .f64 y1])] w (Gives (THREE (IS (.int .i64 0)) (IS (.bool true)) (IS (.int .i64 0))) w) := by
  refine calls_sta (sl := [(0, (SF [(Is (.float .f64 x)), (Is (.float .f64 y))])), (1, (SF [(Is (.float .f64 x1)), (Is (.float .f64 y1))]))]) Tryz.func12 rfl Tryz.ntmps12 (by simp) (args_cons rfl (ix_has) (args_cons rfl (ix_has) args_nil)) ?_
  intro a0 S0
  refine wp_stmt_seq [.new (.box 24 (SF [(Is (.float .f64 x)), (Is (.float .f64 y))])), .new (.box 24 (SF [(Is (.float .f64 x1)), (Is (.float .f64 y1))])), .val (iV 0), kF, .val (iV 0)] [.inl 0, .inl 1] [] follows S0 rfl (by kernel_rfl) ?_ ?_
  · refine ⟨⟨⟨⟨⟨trivial, ?_⟩, ?_⟩, ?_⟩, ?_⟩, ?_⟩
    · exact owe_box rfl wA rfl (oS 0 0) rfl (fun ρ w h => box_ival shp_iv ρ _ _ w h)
    · exact owe_box rfl wA rfl (oS 1 1) rfl (fun ρ w h => box_ival shp_iv ρ _ _ w h)
    · exact mC
    · exact mC
    · exact mC
  intro B1 a1 W1 (S1 : Sta w 42 [(2, (.box 24 (SF [(Is (.float .f64 x)), (Is (.float .f64 y))]))), (3, (.box 24 (SF [(Is (.float .f64 x1)), (Is (.float .f64 y1))])))] [] _ _ _)
  refine wp_seq ?_
  refine wp_stmt_seq [.val (SF [(Is (.float .f64 x)), (Is (.float .f64 y))]), .val (SF [(Is (.float .f64 x1)), (Is (.float .f64 y1))]), .val (iV 0), .val (iV 0)] [.inr 0, .inr 1] [.inl 3] follows S1 rfl (by kernel_rfl) ?_ ?_
  · refine ⟨⟨⟨⟨trivial, ?_⟩, ?_⟩, ?_⟩, ?_⟩
    · exact lod 0 wA (loads_of strct_ival shp_iv)
    · exact lod 1 wA (loads_of strct_ival shp_iv)
    · exact cc2 wA (qO 0 8 rfl) (qO 1 9 rfl) (fresh_is _) (ix2 (fun w => ivalid2_tt w x y x1 y1 hx hy hx1 hy1 h h'))
    · exact mO 2 10
  intro B2 a2 W2 (S2 : Sta w 42 [(2, (.box 24 (SF [(Is (.float .f64 x)), (Is (.float .f64 y))]))), (3, (.box 24 (SF [(Is (.float .f64 x1)), (Is (.float .f64 y1))])))] [(7, iV 0)] _ _ _)
  refine wp_stmt_seq [.val (iV 0), kF] [.inr 0, .inr 1] [.inl 1, .inr 0] follows S2 rfl (by kernel_rfl) ?_ ?_
  · refine ⟨⟨trivial, ?_⟩, ?_⟩
    · exact mS 0 7
    · exact b_neq_errno_f wA (oO 0 11) (opnd_const _) (h := by decide)
  intro B3 a3 W3 (S3 : Sta w 42 [(2, (.box 24 (SF [(Is (.float .f64 x)), (Is (.float .f64 y))]))), (3, (.box 24 (SF [(Is (.float .f64 x1)), (Is (.float .f64 y1))])))] [(12, bF), (7, iV 0)] _ _ _)
  refine wp_cond_false (S3.bool 0 12 rfl) ?_
  refine wp_skip ?_
  refine thenN ?_
  refine wp_seq ?_
  refine wp_block ?_
  refine wp_stmt_seq [.val (Part a3 2 1), .val (Is (.float .f64 y)), .val (Part a3 3 0), .val (Is (.float .f64 x1)), kF, kF] [.inr 0, .inr 1] [.inl 5] follows S3 rfl (by kernel_rfl) ?_ ?_
  · refine ⟨⟨⟨⟨⟨⟨trivial, ?_⟩, ?_⟩, ?_⟩, ?_⟩, ?_⟩, ?_⟩
    · exact owe_part rfl wA rfl (k := 0) rfl (by kernel_rfl) rfl (fun ρ w b h => part_ival1 ρ _ _ w b 0 h)
    · exact owe_pload rfl wA rfl (oO 0 15) (k := 0) rfl (by kernel_rfl) rfl (fun ρ w b u h1 h2 h3 => ploadI rfl load1_f64 ρ _ _ w b u h1 h2 h3)
    · exact owe_part rfl wA rfl (k := 1) rfl (by kernel_rfl) rfl (fun ρ w b h => part_ival0 ρ _ _ w b 0 h)
    · exact owe_pload rfl wA rfl (oO 2 17) (k := 1) rfl (by kernel_rfl) rfl (fun ρ w b u h1 h2 h3 => ploadI rfl load1_f64 ρ _ _ w b u h1 h2 h3)
    · exact owe_fcmp rfl wA rfl ((oO 1 16).imp (fl_is hy)) ((oO 3 18).imp (fl_is hx1)) (by rw [hpy, hqx]; exact lt_f g1) rfl
    · exact mO 4 19
  intro B4 a4 W4 (S4 : Sta w 42 [(2, (.box 24 (SF [(Is (.float .f64 x)), (Is (.float .f64 y))]))), (3, (.box 24 (SF [(Is (.float .f64 x1)), (Is (.float .f64 y1))])))] [(14, bF)] _ _ _)
  refine wp_cond_false (S4.bool 0 14 rfl) ?_
  refine wp_stmt_seq [.val (Part a4 2 0), .val (Is (.float .f64 x)), .val (Part a4 3 1), .val (Is (.float .f64 y1)), kF, kF] [.inr 0, .inr 1] [.inl 5] follows S4 rfl (by kernel_rfl) ?_ ?_
  · refine ⟨⟨⟨⟨⟨⟨trivial, ?_⟩, ?_⟩, ?_⟩, ?_⟩, ?_⟩, ?_⟩
    · exact owe_part rfl wA rfl (k := 0) rfl (by kernel_rfl) rfl (fun ρ w b h => part_ival0 ρ _ _ w b 0 h)
    · exact owe_pload rfl wA rfl (oO 0 21) (k := 0) rfl (by kernel_rfl) rfl (fun ρ w b u h1 h2 h3 => ploadI rfl load1_f64 ρ _ _ w b u h1 h2 h3)
    · exact owe_part rfl wA rfl (k := 1) rfl (by kernel_rfl) rfl (fun ρ w b h => part_ival1 ρ _ _ w b 0 h)
    · exact owe_pload rfl wA rfl (oO 2 23) (k := 1) rfl (by kernel_rfl) rfl (fun ρ w b u h1 h2 h3 => ploadI rfl load1_f64 ρ _ _ w b u h1 h2 h3)
    · exact owe_fcmp rfl wA rfl ((oO 1 22).imp (fl_is hx)) ((oO 3 24).imp (fl_is hy1)) (by rw [hpx, hqy]; exact gt_f g2) rfl
    · exact mO 4 25
  intro B5 a5 W5 (S5 : Sta w 42 [(2, (.box 24 (SF [(Is (.float .f64 x)), (Is (.float .f64 y))]))), (3, (.box 24 (SF [(Is (.float .f64 x1)), (Is (.float .f64 y1))])))] [(20, bF)] _ _ _)
  refine wp_cond_false (S5.bool 0 20 rfl) ?_
  refine wp_skip ?_
  refine inBlkN ?_
  refine thenN ?_
  refine wp_stmt_seq [.val (SF [(Is (.float .f64 x)), (Is (.float .f64 y))]), .val (SF [(Is (.float .f64 x1)), (Is (.float .f64 y1))]), kT, kT, .val (Part a5 2 0), .val (Is (.float .f64 x)), .val (Part a5 2 1), .val (Is (.float .f64 y)), kT, kT, kT, .val (Part a5 2 0), .val (Is (.float .f64 x)), kF, kT, kT, .val (iV 0), kT, .val (iV 0)] [.inr 0, .inr 1] [.inl 16, .inl 17, .inl 18] follows S5 rfl (by kernel_rfl) ?_ ?_
  · repeat' refine And.intro ?_ ?_
    · trivial
    · exact lod 0 wA (loads_of strct_ival shp_iv)
    · exact lod 1 wA (loads_of strct_ival shp_iv)
    · exact owe_bin rfl wA rfl ((oO 0 26).imp ix_is) ((oO 1 27).imp ix_is) rfl (fun ρ w h1 h2 => run_eql_ivt ρ _ _ _ w x y x1 y1 (by rw [hpx, hqx, hpy, hqy, eq_t g3.1, eq_t g3.2]; rfl) h1 h2)
    · exact mO 2 28
    · exact owe_part rfl (wI 3 29) rfl (k := 0) rfl (by kernel_rfl) rfl (fun ρ w b h => part_ival0 ρ _ _ w b 0 h)
    · exact owe_pload rfl (wI 3 29) rfl (oO 4 30) (k := 0) rfl (by kernel_rfl) rfl (fun ρ w b u h1 h2 h3 => ploadI rfl load1_f64 ρ _ _ w b u h1 h2 h3)
    · exact owe_part rfl (wI 3 29) rfl (k := 0) rfl (by kernel_rfl) rfl (fun ρ w b h => part_ival1 ρ _ _ w b 0 h)
    · exact owe_pload rfl (wI 3 29) rfl (oO 6 32) (k := 0) rfl (by kernel_rfl) rfl (fun ρ w b u h1 h2 h3 => ploadI rfl load1_f64 ρ _ _ w b u h1 h2 h3)
    · exact owe_fcmp rfl (wI 3 29) rfl ((oO 5 31).imp (fl_is hx)) ((oO 7 33).imp (fl_is hy)) (by rw [hpx, hpy]; exact eq_t g4) rfl
    · exact pT wA (oO 3 29) (oO 8 34)
    · exact mO 9 35
    · exact owe_part rfl (wI 10 36) rfl (k := 0) rfl (by kernel_rfl) rfl (fun ρ w b h => part_ival0 ρ _ _ w b 0 h)
    · exact owe_pload rfl (wI 10 36) rfl (oO 11 37) (k := 0) rfl (by kernel_rfl) rfl (fun ρ w b u h1 h2 h3 => ploadI rfl load1_f64 ρ _ _ w b u h1 h2 h3)
    · exact cc2 (wI 10 36) (qO 12 38 rfl) (opnd_const _) (fresh_is _) (pur2 (isinf_no hx hpx g5))
    · exact b_not (wI 10 36) (oO 13 39)
    · exact pT wA (oO 10 36) (oO 14 40)
    · exact mC
    · exact mO 15 41
    · exact mC
  intro B6 a6 W6 (S6 : Sta w 42 [(2, (.box 24 (SF [(Is (.float .f64 x)), (Is (.float .f64 y))]))), (3, (.box 24 (SF [(Is (.float .f64 x1)), (Is (.float .f64 y1))])))] [(4, iV 0), (5, bT), (6, iV 0)] _ _ _)
  refine wp_ret ?_
  exact end_three S6 rfl (res_tmp S6 0 4 rfl) (res_tmp S6 1 5 rfl) (res_tmp S6 2 6 rfl)
theorem icmp_tt (w : World) (x y x1 y1 : Nat) (hx : x < 18446744073709551616) (hy : y < 18446744073709551616) (hx1 : x1 < 18446744073709551616) (hy1 : y1 < 18446744073709551616) (h : okI x y = true) (h' : okI x1 y1 = true) (px py qx qy : Int) (hpx : plc x = some px) (hpy : plc y = some py) (hqx : plc x1 = some qx) (hqy : plc y1 = some qy) : Calls Tryz.prog 12 #[.agg #[.float .f64 x, .float .f64 y], .agg #[.float .f64 x1, .float .f64 y1]] w (Gives (THREE (IS (.int .i64 (cmN px py qx qy))) (IS (.bool (cmS px py qx qy))) (IS (.int .i64 0))) w) := by
  unfold cmN cmS
  by_cases g1 : py < qx
  · rw [if_pos g1, if_pos g1]; exact icmp_L w x y x1 y1 hx hy hx1 hy1 h h' px py qx qy hpx hpy hqx hqy g1
  · rw [if_neg g1, if_neg g1]
    by_cases g2 : qy < px
    · rw [if_pos g2, if_pos g2]; exact icmp_G w x y x1 y1 hx hy hx1 hy1 h h' px py qx qy hpx hpy hqx hqy g1 g2
    · rw [if_neg g2, if_neg g2]
      by_cases g3 : px = qx ∧ py = qy
      · by_cases g4 : px = py
        · rcases fin_or (plc_le hpx) with g5 | g5
          · rw [decide_eq_true ⟨g3.1, g3.2, g4, g5.1, g5.2⟩]
            exact icmp_E w x y x1 y1 hx hy hx1 hy1 h h' px py qx qy hpx hpy hqx hqy g1 g2 g3 g4 (by unfold Fin at g5; omega)
          · rw [decide_eq_false (by omega)]; exact icmp_I w x y x1 y1 hx hy hx1 hy1 h h' px py qx qy hpx hpy hqx hqy g1 g2 g3 g4 g5
        · rw [decide_eq_false (fun h => g4 h.2.2.1)]; exact icmp_W w x y x1 y1 hx hy hx1 hy1 h h' px py qx qy hpx hpy hqx hqy g1 g2 g3 g4
      · rw [decide_eq_false (fun h => g3 ⟨h.1, h.2.1⟩)]; exact icmp_D w x y x1 y1 hx hy hx1 hy1 h h' px py qx qy hpx hpy hqx hqy g1 g2 g3
theorem g_rrcmp {A N : Int} {D M k1 k2 k3 k4 : Nat} (hD : D ≠ 0) (hM : M ≠ 0) (b1 : k1 ≤ 8388608) (b2 : k2 ≤ 8388608) (b3 : k3 ≤ 8388608) (b4 : k4 ≤ 8388608) : ∀ w u v, Rv A (D : Int) k1 k2 u w → Rv N (M : Int) k3 k4 v w → Calls Tryz.prog 16 #[u, v] w (Gives (IS (.int .i64 (A * (M : Int) - N * (D : Int)).sign)) w) := by
  rintro w u v ⟨x0, x1, y0, y1, rfl, ⟨s, p, n, c, xs, ea, h, rfl, hn⟩, ⟨t, q, m, d, ys, eb, h', eD, hm⟩⟩ ⟨z0, z1, u0, u1, rfl, ⟨s', p', n', c', xs', ea', h2, rfl, hn'⟩, ⟨t', q', m', d', ys', eb', h2', eM, hm'⟩⟩
  simp at ea eb ea' eb'
  obtain ⟨rfl, rfl⟩ := ea
  obtain ⟨rfl, rfl⟩ := eb
  obtain ⟨rfl, rfl⟩ := ea'
  obtain ⟨rfl, rfl⟩ := eb'
  obtain ⟨rfl, rfl⟩ := zv_pos eD hD
  obtain ⟨rfl, rfl⟩ := zv_pos eM hM
  refine (rrcmp_c w s p n c xs q m d ys s' p' n' c' xs' q' m' d' ys' h h' h2 h2' hD hM (by omega) (by omega) (by omega) (by omega)).mono ?_
  rintro e w' ⟨rfl, hb⟩
  exact ⟨_, rfl, hb, rfl⟩
set_option maxHeartbeats 400000 in
theorem rhold_f (w : World) (x y : Nat) (hx : x < 18446744073709551616) (hy : y < 18446744073709551616) (px py : Int) (hpx : plc x = some px) (hpy : plc y = some py) (A : Int) (D k1 k2 : Nat) (r : Value) (hr : Has (fun _ => False) w (Rv A ((D : Nat) : Int) k1 k2) r) (hD : D ≠ 0) (b1 : k1 ≤ 8388608) (b2 : k2 ≤ 8388608) (f1 : Fin px) (g : 0 < agP px A D) :
    Calls Tryz.prog 7 #[(.agg #[.float .f64 x, .float .f64 y]), r] w (Gives (IS (.bool false)) w) := by
  refine calls_sta (sl := [(0, (SF [(Is (.float .f64 x)), (Is (.float .f64 y))])), (1, (PR (Zv A k1) (Zv (((D : Nat) : Int)) k2)))]) Tryz.func7 rfl Tryz.ntmps7 (by simp) (args_cons rfl (ix_has) (args_cons rfl (hr) args_nil)) ?_
  intro a0 S0
  refine wp_stmt_seq [.new (.box 24 (SF [(Is (.float .f64 x)), (Is (.float .f64 y))])), .new (.box 29 (PR (Zv A k1) (Zv (((D : Nat) : Int)) k2))), kF] [.inl 0, .inl 1] [] follows S0 rfl (by kernel_rfl) ?_ ?_
  · refine ⟨⟨⟨trivial, ?_⟩, ?_⟩, ?_⟩
    · exact owe_box rfl wA rfl (oS 0 0) rfl (fun ρ w h => box_ival shp_iv ρ _ _ w h)
    · exact owe_box rfl wA rfl (oS 1 1) rfl (fun ρ w h => box_rat (shp_pr shp_zv shp_zv) ρ _ _ w h)
    · exact mC
  intro B1 a1 W1 (S1 : Sta w 53 [(2, (.box 24 (SF [(Is (.float .f64 x)), (Is (.float .f64 y))]))), (3, (.box 29 (PR (Zv A k1) (Zv (((D : Nat) : Int)) k2))))] [] _ _ _)
  refine wp_stmt_seq [.val (Part a1 2 0), .val (Is (.float .f64 x)), .val ((TWO (RN (nR (vp px) uF) (dR (vp px) uF)) (IS (.bool true))) w.heap.size), .val ((TWO (RN (nR (vp px) uF) (dR (vp px) uF)) (IS (.bool true))) w.heap.size), .val ((RN (nR (vp px) uF) (dR (vp px) uF)) w.heap.size), kT, .new (.box 29 zR), .put (.inr 6) (.box 29 ((RN (nR (vp px) uF) (dR (vp px) uF)) w.heap.size)), kT] [.inr 0, .inr 1, .inl 6] [.inl 8] follows S1 rfl (by kernel_rfl) ?_ ?_
  · repeat' refine And.intro ?_ ?_
    · trivial
    · exact owe_part rfl wA rfl (k := 0) rfl (by kernel_rfl) rfl (fun ρ w b h => part_ival0 ρ _ _ w b 0 h)
    · exact owe_pload rfl wA rfl (oO 0 9) (k := 0) rfl (by kernel_rfl) rfl (fun ρ w b u h1 h2 h3 => ploadI rfl load1_f64 ρ _ _ w b u h1 h2 h3)
    · exact cc1 wA (qO 1 10 rfl) (fresh_two (fresh_rn _ _) (fresh_is _)) (pur_is (fun w => rexact_fin w x hx px hpx f1))
    · exact mO 2 11
    · exact e20 wA (oO 3 8)
    · exact e21 wA (oO 3 8)
    · exact owe_new rfl wA rfl rfl (fun ρ w => alloc_rat ρ _ w)
    · exact owe_put 6 rfl wA rfl (by kernel_rfl) rfl (oO 4 12) (stores_of strct_rat shp_r0 (shp_pr shp_zn shp_zn)) rfl
    · exact mO 5 13
  intro B2 a2 W2 (S2 : Sta w 53 [(2, (.box 24 (SF [(Is (.float .f64 x)), (Is (.float .f64 y))]))), (3, (.box 29 (PR (Zv A k1) (Zv (((D : Nat) : Int)) k2)))), (5, (.box 29 ((RN (nR (vp px) uF) (dR (vp px) uF)) w.heap.size)))] [(6, bT)] _ _ _)
  refine wp_seq ?_
  refine wp_stmt_seq [kT, kT, .val ((RN (nR (vp px) uF) (dR (vp px) uF)) w.heap.size), .val (PR (Zv A k1) (Zv (((D : Nat) : Int)) k2)), .val (iV (agP px A D)), kT, kT, kT, .off, .off, .val (Is (undef)), .off, .off, .off, .off, kT] [.inr 0, .inr 1] [.inl 15] follows S2 rfl (by kernel_rfl) ?_ ?_
  · repeat' refine And.intro ?_ ?_
    · trivial
    · exact mS 0 6
    · exact mO 0 14
    · exact lod 2 (wI 1 15) (loads_of strct_rat (shp_pr shp_zn shp_zn))
    · exact lod 1 (wI 1 15) (loads_of strct_rat (shp_pr shp_zv shp_zv))
    · exact cc2 (wI 1 15) (qO 2 16 rfl) (qO 3 17 rfl) (fresh_is _) (fun w u0 u1 h0 h1 => Gives.cast ((fun w u v h1 h2 => g_rrcmp (dR_ne uF_no) hD (by omega) (by omega) (by omega) (by omega) w u v ((rn_rv (exn_len f1) (exd_len px)) _ _ h1) ((pr_imp (fun _ _ h => h) (fun _ _ h => h)) _ _ h2)) w u0 u1 h0 h1) (by rw [ag_fin f1]))
    · exact b_gtr_int_t (wI 1 15) (oO 4 18) (opnd_const _) (h := g)
    · exact pT wA (oO 1 15) (oO 5 19)
    · exact mO 6 20
    · exact oF 7 21
    · exact oF 7 21
    · exact owe_offv 7 21 rfl rfl rfl (by kernel_rfl) rfl (by decide)
    · exact owe_offu 10 24 rfl rfl rfl (by kernel_rfl) rfl
    · exact owe_offu 10 24 rfl rfl rfl (by kernel_rfl) rfl
    · exact owe_offu 10 24 rfl rfl rfl (by kernel_rfl) rfl
    · exact oF 7 21
    · exact pT wA (oO 7 21) (opnd_const _)
  intro B3 a3 W3 (S3 : Sta w 53 [(2, (.box 24 (SF [(Is (.float .f64 x)), (Is (.float .f64 y))]))), (3, (.box 29 (PR (Zv A k1) (Zv (((D : Nat) : Int)) k2))))] [(29, bT)] _ _ _)
  refine wp_cond_true (S3.bool 0 29 rfl) ?_
  refine wp_stmt_seq [kF] [.inr 0] [.inl 0] follows S3 rfl (by kernel_rfl) ?_ ?_
  · refine ⟨trivial, ?_⟩
    · exact mC
  intro B4 a4 W4 (S4 : Sta w 53 [(2, (.box 24 (SF [(Is (.float .f64 x)), (Is (.float .f64 y))])))] [(4, bF)] _ _ _)
  refine wp_ret ?_
  refine thenR ?_
  exact end_one S4 rfl (res_tmp S4 0 4 rfl)
set_option maxHeartbeats 400000 in
theorem rhold_i (w : World) (x y : Nat) (hx : x < 18446744073709551616) (hy : y < 18446744073709551616) (px py : Int) (hpx : plc x = some px) (hpy : plc y = some py) (A : Int) (D k1 k2 : Nat) (r : Value) (hr : Has (fun _ => False) w (Rv A ((D : Nat) : Int) k1 k2) r) (hD : D ≠ 0) (b1 : k1 ≤ 8388608) (b2 : k2 ≤ 8388608) (f1 : ¬ Fin px) (g : 0 < px) :
    Calls Tryz.prog 7 #[(.agg #[.float .f64 x, .float .f64 y]), r] w (Gives (IS (.bool false)) w) := by
  refine calls_sta (sl := [(0, (SF [(Is (.float .f64 x)), (Is (.float .f64 y))])), (1, (PR (Zv A k1) (Zv (((D : Nat) : Int)) k2)))]) Tryz.func7 rfl Tryz.ntmps7 (by simp) (args_cons rfl (ix_has) (args_cons rfl (hr) args_nil)) ?_
  intro a0 S0
  refine wp_stmt_seq [.new (.box 24 (SF [(Is (.float .f64 x)), (Is (.float .f64 y))])), .new (.box 29 (PR (Zv A k1) (Zv (((D : Nat) : Int)) k2))), kF] [.inl 0, .inl 1] [] follows S0 rfl (by kernel_rfl) ?_ ?_
  · refine ⟨⟨⟨trivial, ?_⟩, ?_⟩, ?_⟩
    · exact owe_box rfl wA rfl (oS 0 0) rfl (fun ρ w h => box_ival shp_iv ρ _ _ w h)
    · exact owe_box rfl wA rfl (oS 1 1) rfl (fun ρ w h => box_rat (shp_pr shp_zv shp_zv) ρ _ _ w h)
    · exact mC
  intro B1 a1 W1 (S1 : Sta w 53 [(2, (.box 24 (SF [(Is (.float .f64 x)), (Is (.float .f64 y))]))), (3, (.box 29 (PR (Zv A k1) (Zv (((D : Nat) : Int)) k2))))] [] _ _ _)
  refine wp_stmt_seq [.val (Part a1 2 0), .val (Is (.float .f64 x)), .val ((TWO (RN 0 1) (IS (.bool false))) w.heap.size), .val ((TWO (RN 0 1) (IS (.bool false))) w.heap.size), .val ((RN 0 1) w.heap.size), kF, .new (.box 29 zR), .put (.inr 6) (.box 29 ((RN 0 1) w.heap.size)), kF] [.inr 0, .inr 1, .inl 6] [.inl 8] follows S1 rfl (by kernel_rfl) ?_ ?_
  · repeat' refine And.intro ?_ ?_
    · trivial
    · exact owe_part rfl wA rfl (k := 0) rfl (by kernel_rfl) rfl (fun ρ w b h => part_ival0 ρ _ _ w b 0 h)
    · exact owe_pload rfl wA rfl (oO 0 9) (k := 0) rfl (by kernel_rfl) rfl (fun ρ w b u h1 h2 h3 => ploadI rfl load1_f64 ρ _ _ w b u h1 h2 h3)
    · exact cc1 wA (qO 1 10 rfl) (fresh_two (fresh_rn _ _) (fresh_is _)) (pur_is (fun w => rexact_not w x hx (fun p2 h2 => by rw [hpx] at h2; obtain rfl := Option.some.inj h2; exact f1)))
    · exact mO 2 11
    · exact e20 wA (oO 3 8)
    · exact e21 wA (oO 3 8)
    · exact owe_new rfl wA rfl rfl (fun ρ w => alloc_rat ρ _ w)
    · exact owe_put 6 rfl wA rfl (by kernel_rfl) rfl (oO 4 12) (stores_of strct_rat shp_r0 (shp_pr shp_zn shp_zn)) rfl
    · exact mO 5 13
  intro B2 a2 W2 (S2 : Sta w 53 [(2, (.box 24 (SF [(Is (.float .f64 x)), (Is (.float .f64 y))]))), (3, (.box 29 (PR (Zv A k1) (Zv (((D : Nat) : Int)) k2)))), (5, (.box 29 ((RN 0 1) w.heap.size)))] [(6, bF)] _ _ _)
  refine wp_seq ?_
  refine wp_stmt_seq [kF, kF, .off, .off, .off, .off, kF, kF, kF, kT, kT, .val (Part a2 2 0), .val (Is (.float .f64 x)), kT, kT, kT] [.inr 0, .inr 1] [.inl 15] follows S2 rfl (by kernel_rfl) ?_ ?_
  · repeat' refine And.intro ?_ ?_
    · trivial
    · exact mS 0 6
    · exact mO 0 14
    · exact oF 1 15
    · exact oF 1 15
    · exact oF 1 15
    · exact oF 1 15
    · exact pF wA (oO 1 15) (opnd_const _)
    · exact mO 6 20
    · exact mW (wI 7 21) (oS 0 6)
    · exact b_not (wI 7 21) (oO 8 22)
    · exact mW (wI 7 21) (oO 9 23)
    · exact owe_part rfl (wI 10 24) rfl (k := 0) rfl (by kernel_rfl) rfl (fun ρ w b h => part_ival0 ρ _ _ w b 0 h)
    · exact owe_pload rfl (wI 10 24) rfl (oO 11 25) (k := 0) rfl (by kernel_rfl) rfl (fun ρ w b u h1 h2 h3 => ploadI rfl load1_f64 ρ _ _ w b u h1 h2 h3)
    · exact owe_fcmp rfl (wI 10 24) rfl ((oO 12 26).imp (fl_is hx)) ((opnd_const _).imp (fl_is (by decide))) (by rw [hpx]; exact gt_t g) rfl
    · exact pT (wI 7 21) (oO 10 24) (oO 13 27)
    · exact pF wA (oO 7 21) (oO 14 28)
  intro B3 a3 W3 (S3 : Sta w 53 [(2, (.box 24 (SF [(Is (.float .f64 x)), (Is (.float .f64 y))]))), (3, (.box 29 (PR (Zv A k1) (Zv (((D : Nat) : Int)) k2))))] [(29, bT)] _ _ _)
  refine wp_cond_true (S3.bool 0 29 rfl) ?_
  refine wp_stmt_seq [kF] [.inr 0] [.inl 0] follows S3 rfl (by kernel_rfl) ?_ ?_
  · refine ⟨trivial, ?_⟩
    · exact mC
  intro B4 a4 W4 (S4 : Sta w 53 [(2, (.box 24 (SF [(Is (.float .f64 x)), (Is (.float .f64 y))])))] [(4, bF)] _ _ _)
  refine wp_ret ?_
  refine thenR ?_
  exact end_one S4 rfl (res_tmp S4 0 4 rfl)
set_option maxHeartbeats 400000 in
theorem rhold_ff (w : World) (x y : Nat) (hx : x < 18446744073709551616) (hy : y < 18446744073709551616) (px py : Int) (hpx : plc x = some px) (hpy : plc y = some py) (A : Int) (D k1 k2 : Nat) (r : Value) (hr : Has (fun _ => False) w (Rv A ((D : Nat) : Int) k1 k2) r) (hD : D ≠ 0) (b1 : k1 ≤ 8388608) (b2 : k2 ≤ 8388608) (f1 : Fin px) (g : agP px A D ≤ 0) (f2 : Fin py) (g2 : agP py A D < 0) :
    Calls Tryz.prog 7 #[(.agg #[.float .f64 x, .float .f64 y]), r] w (Gives (IS (.bool false)) w) := by
  refine calls_sta (sl := [(0, (SF [(Is (.float .f64 x)), (Is (.float .f64 y))])), (1, (PR (Zv A k1) (Zv (((D : Nat) : Int)) k2)))]) Tryz.func7 rfl Tryz.ntmps7 (by simp) (args_cons rfl (ix_has) (args_cons rfl (hr) args_nil)) ?_
  intro a0 S0
  refine wp_stmt_seq [.new (.box 24 (SF [(Is (.float .f64 x)), (Is (.float .f64 y))])), .new (.box 29 (PR (Zv A k1) (Zv (((D : Nat) : Int)) k2))), kF] [.inl 0, .inl 1] [] follows S0 rfl (by kernel_rfl) ?_ ?_
  · refine ⟨⟨⟨trivial, ?_⟩, ?_⟩, ?_⟩
    · exact owe_box rfl wA rfl (oS 0 0) rfl (fun ρ w h => box_ival shp_iv ρ _ _ w h)
    · exact owe_box rfl wA rfl (oS 1 1) rfl (fun ρ w h => box_rat (shp_pr shp_zv shp_zv) ρ _ _ w h)
    · exact mC
  intro B1 a1 W1 (S1 : Sta w 53 [(2, (.box 24 (SF [(Is (.float .f64 x)), (Is (.float .f64 y))]))), (3, (.box 29 (PR (Zv A k1) (Zv (((D : Nat) : Int)) k2))))] [] _ _ _)
  refine wp_stmt_seq [.val (Part a1 2 0), .val (Is (.float .f64 x)), .val ((TWO (RN (nR (vp px) uF) (dR (vp px) uF)) (IS (.bool true))) w.heap.size), .val ((TWO (RN (nR (vp px) uF) (dR (vp px) uF)) (IS (.bool true))) w.heap.size), .val ((RN (nR (vp px) uF) (dR (vp px) uF)) w.heap.size), kT, .new (.box 29 zR), .put (.inr 6) (.box 29 ((RN (nR (vp px) uF) (dR (vp px) uF)) w.heap.size)), kT] [.inr 0, .inr 1, .inl 6] [.inl 8] follows S1 rfl (by kernel_rfl) ?_ ?_
  · repeat' refine And.intro ?_ ?_
    · trivial
    · exact owe_part rfl wA rfl (k := 0) rfl (by kernel_rfl) rfl (fun ρ w b h => part_ival0 ρ _ _ w b 0 h)
    · exact owe_pload rfl wA rfl (oO 0 9) (k := 0) rfl (by kernel_rfl) rfl (fun ρ w b u h1 h2 h3 => ploadI rfl load1_f64 ρ _ _ w b u h1 h2 h3)
    · exact cc1 wA (qO 1 10 rfl) (fresh_two (fresh_rn _ _) (fresh_is _)) (pur_is (fun w => rexact_fin w x hx px hpx f1))
    · exact mO 2 11
    · exact e20 wA (oO 3 8)
    · exact e21 wA (oO 3 8)
    · exact owe_new rfl wA rfl rfl (fun ρ w => alloc_rat ρ _ w)
    · exact owe_put 6 rfl wA rfl (by kernel_rfl) rfl (oO 4 12) (stores_of strct_rat shp_r0 (shp_pr shp_zn shp_zn)) rfl
    · exact mO 5 13
  intro B2 a2 W2 (S2 : Sta w 53 [(2, (.box 24 (SF [(Is (.float .f64 x)), (Is (.float .f64 y))]))), (3, (.box 29 (PR (Zv A k1) (Zv (((D : Nat) : Int)) k2)))), (5, (.box 29 ((RN (nR (vp px) uF) (dR (vp px) uF)) w.heap.size)))] [(6, bT)] _ _ _)
  refine wp_seq ?_
  refine wp_stmt_seq [kT, kT, .val ((RN (nR (vp px) uF) (dR (vp px) uF)) w.heap.size), .val (PR (Zv A k1) (Zv (((D : Nat) : Int)) k2)), .val (iV (agP px A D)), kF, kF, kF, kT, kF, kF, .off, .off, .off, kF, kF] [.inr 0, .inr 1] [.inl 15] follows S2 rfl (by kernel_rfl) ?_ ?_
  · repeat' refine And.intro ?_ ?_
    · trivial
    · exact mS 0 6
    · exact mO 0 14
    · exact lod 2 (wI 1 15) (loads_of strct_rat (shp_pr shp_zn shp_zn))
    · exact lod 1 (wI 1 15) (loads_of strct_rat (shp_pr shp_zv shp_zv))
    · exact cc2 (wI 1 15) (qO 2 16 rfl) (qO 3 17 rfl) (fresh_is _) (fun w u0 u1 h0 h1 => Gives.cast ((fun w u v h1 h2 => g_rrcmp (dR_ne uF_no) hD (by omega) (by omega) (by omega) (by omega) w u v ((rn_rv (exn_len f1) (exd_len px)) _ _ h1) ((pr_imp (fun _ _ h => h) (fun _ _ h => h)) _ _ h2)) w u0 u1 h0 h1) (by rw [ag_fin f1]))
    · exact b_gtr_int_f (wI 1 15) (oO 4 18) (opnd_const _) (h := g)
    · exact pT wA (oO 1 15) (oO 5 19)
    · exact mO 6 20
    · exact mW (wI 7 21) (oS 0 6)
    · exact b_not (wI 7 21) (oO 8 22)
    · exact mW (wI 7 21) (oO 9 23)
    · exact oF 10 24
    · exact oF 10 24
    · exact oF 10 24
    · exact pF (wI 7 21) (oO 10 24) (opnd_const _)
    · exact pF wA (oO 7 21) (oO 14 28)
  intro B3 a3 W3 (S3 : Sta w 53 [(2, (.box 24 (SF [(Is (.float .f64 x)), (Is (.float .f64 y))]))), (3, (.box 29 (PR (Zv A k1) (Zv (((D : Nat) : Int)) k2))))] [(29, bF)] _ _ _)
  refine wp_cond_false (S3.bool 0 29 rfl) ?_
  refine wp_skip ?_
  refine thenN ?_
  refine wp_stmt_seq [.val (Part a3 2 1), .val (Is (.float .f64 y)), .val ((TWO (RN (nR (vp py) uF) (dR (vp py) uF)) (IS (.bool true))) w.heap.size), .val ((TWO (RN (nR (vp py) uF) (dR (vp py) uF)) (IS (.bool true))) w.heap.size), .val ((RN (nR (vp py) uF) (dR (vp py) uF)) w.heap.size), kT, .new (.box 29 zR), .put (.inr 6) (.box 29 ((RN (nR (vp py) uF) (dR (vp py) uF)) w.heap.size)), kT] [.inr 0, .inr 1, .inl 6] [.inl 8] follows S3 rfl (by kernel_rfl) ?_ ?_
  · repeat' refine And.intro ?_ ?_
    · trivial
    · exact owe_part rfl wA rfl (k := 0) rfl (by kernel_rfl) rfl (fun ρ w b h => part_ival1 ρ _ _ w b 0 h)
    · exact owe_pload rfl wA rfl (oO 0 31) (k := 0) rfl (by kernel_rfl) rfl (fun ρ w b u h1 h2 h3 => ploadI rfl load1_f64 ρ _ _ w b u h1 h2 h3)
    · exact cc1 wA (qO 1 32 rfl) (fresh_two (fresh_rn _ _) (fresh_is _)) (pur_is (fun w => rexact_fin w y hy py hpy f2))
    · exact mO 2 33
    · exact e20 wA (oO 3 30)
    · exact e21 wA (oO 3 30)
    · exact owe_new rfl wA rfl rfl (fun ρ w => alloc_rat ρ _ w)
    · exact owe_put 6 rfl wA rfl (by kernel_rfl) rfl (oO 4 34) (stores_of strct_rat shp_r0 (shp_pr shp_zn shp_zn)) rfl
    · exact mO 5 35
  intro B4 a4 W4 (S4 : Sta w 53 [(2, (.box 24 (SF [(Is (.float .f64 x)), (Is (.float .f64 y))]))), (3, (.box 29 (PR (Zv A k1) (Zv (((D : Nat) : Int)) k2)))), (7, (.box 29 ((RN (nR (vp py) uF) (dR (vp py) uF)) w.heap.size)))] [(6, bT)] _ _ _)
  refine wp_stmt_seq [kT, kT, .val (PR (Zv A k1) (Zv (((D : Nat) : Int)) k2)), .val ((RN (nR (vp py) uF) (dR (vp py) uF)) w.heap.size), .val (iV (-agP py A D)), kT, kT, kT, .off, .off, .val (Is (undef)), .off, .off, .off, .off, kT, kF, kF] [.inr 0] [.inl 17] follows S4 rfl (by kernel_rfl) ?_ ?_
  · repeat' refine And.intro ?_ ?_
    · trivial
    · exact mS 0 6
    · exact mO 0 36
    · exact lod 1 (wI 1 37) (loads_of strct_rat (shp_pr shp_zv shp_zv))
    · exact lod 2 (wI 1 37) (loads_of strct_rat (shp_pr shp_zn shp_zn))
    · exact cc2 (wI 1 37) (qO 2 38 rfl) (qO 3 39 rfl) (fresh_is _) (fun w u0 u1 h0 h1 => Gives.cast ((fun w u v h1 h2 => g_rrcmp hD (dR_ne uF_no) (by omega) (by omega) (by omega) (by omega) w u v ((pr_imp (fun _ _ h => h) (fun _ _ h => h)) _ _ h1) ((rn_rv (exn_len f2) (exd_len py)) _ _ h2)) w u0 u1 h0 h1) (by rw [ag_fin' f2]))
    · exact b_gtr_int_t (wI 1 37) (oO 4 40) (opnd_const _)
    · exact pT wA (oO 1 37) (oO 5 41)
    · exact mO 6 42
    · exact oF 7 43
    · exact oF 7 43
    · exact owe_offv 7 43 rfl rfl rfl (by kernel_rfl) rfl (by decide)
    · exact owe_offu 10 46 rfl rfl rfl (by kernel_rfl) rfl
    · exact owe_offu 10 46 rfl rfl rfl (by kernel_rfl) rfl
    · exact owe_offu 10 46 rfl rfl rfl (by kernel_rfl) rfl
    · exact oF 7 43
    · exact pT wA (oO 7 43) (opnd_const _)
    · exact b_not wA (oO 15 51)
    · exact mO 16 52
  intro B5 a5 W5 (S5 : Sta w 53 [(2, (.box 24 (SF [(Is (.float .f64 x)), (Is (.float .f64 y))])))] [(4, bF)] _ _ _)
  refine wp_ret ?_
  exact end_one S5 rfl (res_tmp S5 0 4 rfl)
set_option maxHeartbeats 400000 in
theorem rhold_fg (w : World) (x y : Nat) (hx : x < 18446744073709551616) (hy : y < 18446744073709551616) (px py : Int) (hpx : plc x = some px) (hpy : plc y = some py) (A : Int) (D k1 k2 : Nat) (r : Value) (hr : Has (fun _ => False) w (Rv A ((D : Nat) : Int) k1 k2) r) (hD : D ≠ 0) (b1 : k1 ≤ 8388608) (b2 : k2 ≤ 8388608) (f1 : Fin px) (g : agP px A D ≤ 0) (f2 : Fin py) (g2 : 0 ≤ agP py A D) :
    Calls Tryz.prog 7 #[(.agg #[.float .f64 x, .float .f64 y]), r] w (Gives (IS (.bool true)) w) := by
  refine calls_sta (sl := [(0, (SF [(Is (.float .f64 x)), (Is (.float .f64 y))])), (1, (PR (Zv A k1) (Zv (((D : Nat) : Int)) k2)))]) Tryz.func7 rfl Tryz.ntmps7 (by simp) (args_cons rfl (ix_has) (args_cons rfl (hr) args_nil)) ?_
  intro a0 S0
  refine wp_stmt_seq [.new (.box 24 (SF [(Is (.float .f64 x)), (Is (.float .f64 y))])), .new (.box 29 (PR (Zv A k1) (Zv (((D : Nat) : Int)) k2))), kF] [.inl 0, .inl 1] [] follows S0 rfl (by kernel_rfl) ?_ ?_
  · refine ⟨⟨⟨trivial, ?_⟩, ?_⟩, ?_⟩
    · exact owe_box rfl wA rfl (oS 0 0) rfl (fun ρ w h => box_ival shp_iv ρ _ _ w h)
    · exact owe_box rfl wA rfl (oS 1 1) rfl (fun ρ w h => box_rat (shp_pr shp_zv shp_zv) ρ _ _ w h)
    · exact mC
  intro B1 a1 W1 (S1 : Sta w 53 [(2, (.box 24 (SF [(Is (.float .f64 x)), (Is (.float .f64 y))]))), (3, (.box 29 (PR (Zv A k1) (Zv (((D : Nat) : Int)) k2))))] [] _ _ _)
  refine wp_stmt_seq [.val (Part a1 2 0), .val (Is (.float .f64 x)), .val ((TWO (RN (nR (vp px) uF) (dR (vp px) uF)) (IS (.bool true))) w.heap.size), .val ((TWO (RN (nR (vp px) uF) (dR (vp px) uF)) (IS (.bool true))) w.heap.size), .val ((RN (nR (vp px) uF) (dR (vp px) uF)) w.heap.size), kT, .new (.box 29 zR), .put (.inr 6) (.box 29 ((RN (nR (vp px) uF) (dR (vp px) uF)) w.heap.size)), kT] [.inr 0, .inr 1, .inl 6] [.inl 8] follows S1 rfl (by kernel_rfl) ?_ ?_
  · repeat' refine And.intro ?_ ?_
    · trivial
    · exact owe_part rfl wA rfl (k := 0) rfl (by kernel_rfl) rfl (fun ρ w b h => part_ival0 ρ _ _ w b 0 h)
    · exact owe_pload rfl wA rfl (oO 0 9) (k := 0) rfl (by kernel_rfl) rfl (fun ρ w b u h1 h2 h3 => ploadI rfl load1_f64 ρ _ _ w b u h1 h2 h3)
    · exact cc1 wA (qO 1 10 rfl) (fresh_two (fresh_rn _ _) (fresh_is _)) (pur_is (fun w => rexact_fin w x hx px hpx f1))
    · exact mO 2 11
    · exact e20 wA (oO 3 8)
    · exact e21 wA (oO 3 8)
    · exact owe_new rfl wA rfl rfl (fun ρ w => alloc_rat ρ _ w)
    · exact owe_put 6 rfl wA rfl (by kernel_rfl) rfl (oO 4 12) (stores_of strct_rat shp_r0 (shp_pr shp_zn shp_zn)) rfl
    · exact mO 5 13
  intro B2 a2 W2 (S2 : Sta w 53 [(2, (.box 24 (SF [(Is (.float .f64 x)), (Is (.float .f64 y))]))), (3, (.box 29 (PR (Zv A k1) (Zv (((D : Nat) : Int)) k2)))), (5, (.box 29 ((RN (nR (vp px) uF) (dR (vp px) uF)) w.heap.size)))] [(6, bT)] _ _ _)
  refine wp_seq ?_
  refine wp_stmt_seq [kT, kT, .val ((RN (nR (vp px) uF) (dR (vp px) uF)) w.heap.size), .val (PR (Zv A k1) (Zv (((D : Nat) : Int)) k2)), .val (iV (agP px A D)), kF, kF, kF, kT, kF, kF, .off, .off, .off, kF, kF] [.inr 0, .inr 1] [.inl 15] follows S2 rfl (by kernel_rfl) ?_ ?_
  · repeat' refine And.intro ?_ ?_
    · trivial
    · exact mS 0 6
    · exact mO 0 14
    · exact lod 2 (wI 1 15) (loads_of strct_rat (shp_pr shp_zn shp_zn))
    · exact lod 1 (wI 1 15) (loads_of strct_rat (shp_pr shp_zv shp_zv))
    · exact cc2 (wI 1 15) (qO 2 16 rfl) (qO 3 17 rfl) (fresh_is _) (fun w u0 u1 h0 h1 => Gives.cast ((fun w u v h1 h2 => g_rrcmp (dR_ne uF_no) hD (by omega) (by omega) (by omega) (by omega) w u v ((rn_rv (exn_len f1) (exd_len px)) _ _ h1) ((pr_imp (fun _ _ h => h) (fun _ _ h => h)) _ _ h2)) w u0 u1 h0 h1) (by rw [ag_fin f1]))
    · exact b_gtr_int_f (wI 1 15) (oO 4 18) (opnd_const _) (h := g)
    · exact pT wA (oO 1 15) (oO 5 19)
    · exact mO 6 20
    · exact mW (wI 7 21) (oS 0 6)
    · exact b_not (wI 7 21) (oO 8 22)
    · exact mW (wI 7 21) (oO 9 23)
    · exact oF 10 24
    · exact oF 10 24
    · exact oF 10 24
    · exact pF (wI 7 21) (oO 10 24) (opnd_const _)
    · exact pF wA (oO 7 21) (oO 14 28)
  intro B3 a3 W3 (S3 : Sta w 53 [(2, (.box 24 (SF [(Is (.float .f64 x)), (Is (.float .f64 y))]))), (3, (.box 29 (PR (Zv A k1) (Zv (((D : Nat) : Int)) k2))))] [(29, bF)] _ _ _)
  refine wp_cond_false (S3.bool 0 29 rfl) ?_
  refine wp_skip ?_
  refine thenN ?_
  refine wp_stmt_seq [.val (Part a3 2 1), .val (Is (.float .f64 y)), .val ((TWO (RN (nR (vp py) uF) (dR (vp py) uF)) (IS (.bool true))) w.heap.size), .val ((TWO (RN (nR (vp py) uF) (dR (vp py) uF)) (IS (.bool true))) w.heap.size), .val ((RN (nR (vp py) uF) (dR (vp py) uF)) w.heap.size), kT, .new (.box 29 zR), .put (.inr 6) (.box 29 ((RN (nR (vp py) uF) (dR (vp py) uF)) w.heap.size)), kT] [.inr 0, .inr 1, .inl 6] [.inl 8] follows S3 rfl (by kernel_rfl) ?_ ?_
  · repeat' refine And.intro ?_ ?_
    · trivial
    · exact owe_part rfl wA rfl (k := 0) rfl (by kernel_rfl) rfl (fun ρ w b h => part_ival1 ρ _ _ w b 0 h)
    · exact owe_pload rfl wA rfl (oO 0 31) (k := 0) rfl (by kernel_rfl) rfl (fun ρ w b u h1 h2 h3 => ploadI rfl load1_f64 ρ _ _ w b u h1 h2 h3)
    · exact cc1 wA (qO 1 32 rfl) (fresh_two (fresh_rn _ _) (fresh_is _)) (pur_is (fun w => rexact_fin w y hy py hpy f2))
    · exact mO 2 33
    · exact e20 wA (oO 3 30)
    · exact e21 wA (oO 3 30)
    · exact owe_new rfl wA rfl rfl (fun ρ w => alloc_rat ρ _ w)
    · exact owe_put 6 rfl wA rfl (by kernel_rfl) rfl (oO 4 34) (stores_of strct_rat shp_r0 (shp_pr shp_zn shp_zn)) rfl
    · exact mO 5 35
  intro B4 a4 W4 (S4 : Sta w 53 [(2, (.box 24 (SF [(Is (.float .f64 x)), (Is (.float .f64 y))]))), (3, (.box 29 (PR (Zv A k1) (Zv (((D : Nat) : Int)) k2)))), (7, (.box 29 ((RN (nR (vp py) uF) (dR (vp py) uF)) w.heap.size)))] [(6, bT)] _ _ _)
  refine wp_stmt_seq [kT, kT, .val (PR (Zv A k1) (Zv (((D : Nat) : Int)) k2)), .val ((RN (nR (vp py) uF) (dR (vp py) uF)) w.heap.size), .val (iV (-agP py A D)), kF, kF, kF, kT, kF, kF, .off, .off, .off, kF, kF, kT, kT] [.inr 0] [.inl 17] follows S4 rfl (by kernel_rfl) ?_ ?_
  · repeat' refine And.intro ?_ ?_
    · trivial
    · exact mS 0 6
    · exact mO 0 36
    · exact lod 1 (wI 1 37) (loads_of strct_rat (shp_pr shp_zv shp_zv))
    · exact lod 2 (wI 1 37) (loads_of strct_rat (shp_pr shp_zn shp_zn))
    · exact cc2 (wI 1 37) (qO 2 38 rfl) (qO 3 39 rfl) (fresh_is _) (fun w u0 u1 h0 h1 => Gives.cast ((fun w u v h1 h2 => g_rrcmp hD (dR_ne uF_no) (by omega) (by omega) (by omega) (by omega) w u v ((pr_imp (fun _ _ h => h) (fun _ _ h => h)) _ _ h1) ((rn_rv (exn_len f2) (exd_len py)) _ _ h2)) w u0 u1 h0 h1) (by rw [ag_fin' f2]))
    · exact b_gtr_int_f (wI 1 37) (oO 4 40) (opnd_const _)
    · exact pT wA (oO 1 37) (oO 5 41)
    · exact mO 6 42
    · exact mW (wI 7 43) (oS 0 6)
    · exact b_not (wI 7 43) (oO 8 44)
    · exact mW (wI 7 43) (oO 9 45)
    · exact oF 10 46
    · exact oF 10 46
    · exact oF 10 46
    · exact pF (wI 7 43) (oO 10 46) (opnd_const _)
    · exact pF wA (oO 7 43) (oO 14 50)
    · exact b_not wA (oO 15 51)
    · exact mO 16 52
  intro B5 a5 W5 (S5 : Sta w 53 [(2, (.box 24 (SF [(Is (.float .f64 x)), (Is (.float .f64 y))])))] [(4, bT)] _ _ _)
  refine wp_ret ?_
  exact end_one S5 rfl (res_tmp S5 0 4 rfl)
set_option maxHeartbeats 400000 in
theorem rhold_fi (w : World) (x y : Nat) (hx : x < 18446744073709551616) (hy : y < 18446744073709551616) (px py : Int) (hpx : plc x = some px) (hpy : plc y = some py) (A : Int) (D k1 k2 : Nat) (r : Value) (hr : Has (fun _ => False) w (Rv A ((D : Nat) : Int) k1 k2) r) (hD : D ≠ 0) (b1 : k1 ≤ 8388608) (b2 : k2 ≤ 8388608) (f1 : Fin px) (g : agP px A D ≤ 0) (f2 : ¬ Fin py) (g2 : py < 0) :
    Calls Tryz.prog 7 #[(.agg #[.float .f64 x, .float .f64 y]), r] w (Gives (IS (.bool false)) w) := by
  refine calls_sta (sl := [(0, (SF [(Is (.float .f64 x)), (Is (.float .f64 y))])), (1, (PR (Zv A k1) (Zv (((D : Nat) : Int)) k2)))]) Tryz.func7 rfl Tryz.ntmps7 (by simp) (args_cons rfl (ix_has) (args_cons rfl (hr) args_nil)) ?_
  intro a0 S0
  refine wp_stmt_seq [.new (.box 24 (SF [(Is (.float .f64 x)), (Is (.float .f64 y))])), .new (.box 29 (PR (Zv A k1) (Zv (((D : Nat) : Int)) k2))), kF] [.inl 0, .inl 1] [] follows S0 rfl (by kernel_rfl) ?_ ?_
  · refine ⟨⟨⟨trivial, ?_⟩, ?_⟩, ?_⟩
    · exact owe_box rfl wA rfl (oS 0 0) rfl (fun ρ w h => box_ival shp_iv ρ _ _ w h)
    · exact owe_box rfl wA rfl (oS 1 1) rfl (fun ρ w h => box_rat (shp_pr shp_zv shp_zv) ρ _ _ w h)
    · exact mC
  intro B1 a1 W1 (S1 : Sta w 53 [(2, (.box 24 (SF [(Is (.float .f64 x)), (Is (.float .f64 y))]))), (3, (.box 29 (PR (Zv A k1) (Zv (((D : Nat) : Int)) k2))))] [] _ _ _)
  refine wp_stmt_seq [.val (Part a1 2 0), .val (Is (.float .f64 x)), .val ((TWO (RN (nR (vp px) uF) (dR (vp px) uF)) (IS (.bool true))) w.heap.size), .val ((TWO (RN (nR (vp px) uF) (dR (vp px) uF)) (IS (.bool true))) w.heap.size), .val ((RN (nR (vp px) uF) (dR (vp px) uF)) w.heap.size), kT, .new (.box 29 zR), .put (.inr 6) (.box 29 ((RN (nR (vp px) uF) (dR (vp px) uF)) w.heap.size)), kT] [.inr 0, .inr 1, .inl 6] [.inl 8] follows S1 rfl (by kernel_rfl) ?_ ?_
  · repeat' refine And.intro ?_ ?_
    · trivial
    · exact owe_part rfl wA rfl (k := 0) rfl (by kernel_rfl) rfl (fun ρ w b h => part_ival0 ρ _ _ w b 0 h)
    · exact owe_pload rfl wA rfl (oO 0 9) (k := 0) rfl (by kernel_rfl) rfl (fun ρ w b u h1 h2 h3 => ploadI rfl load1_f64 ρ _ _ w b u h1 h2 h3)
    · exact cc1 wA (qO 1 10 rfl) (fresh_two (fresh_rn _ _) (fresh_is _)) (pur_is (fun w => rexact_fin w x hx px hpx f1))
    · exact mO 2 11
    · exact e20 wA (oO 3 8)
    · exact e21 wA (oO 3 8)
    · exact owe_new rfl wA rfl rfl (fun ρ w => alloc_rat ρ _ w)
    · exact owe_put 6 rfl wA rfl (by kernel_rfl) rfl (oO 4 12) (stores_of strct_rat shp_r0 (shp_pr shp_zn shp_zn)) rfl
    · exact mO 5 13
  intro B2 a2 W2 (S2 : Sta w 53 [(2, (.box 24 (SF [(Is (.float .f64 x)), (Is (.float .f64 y))]))), (3, (.box 29 (PR (Zv A k1) (Zv (((D : Nat) : Int)) k2)))), (5, (.box 29 ((RN (nR (vp px) uF) (dR (vp px) uF)) w.heap.size)))] [(6, bT)] _ _ _)
  refine wp_seq ?_
  refine wp_stmt_seq [kT, kT, .val ((RN (nR (vp px) uF) (dR (vp px) uF)) w.heap.size), .val (PR (Zv A k1) (Zv (((D : Nat) : Int)) k2)), .val (iV (agP px A D)), kF, kF, kF, kT, kF, kF, .off, .off, .off, kF, kF] [.inr 0, .inr 1] [.inl 15] follows S2 rfl (by kernel_rfl) ?_ ?_
  · repeat' refine And.intro ?_ ?_
    · trivial
    · exact mS 0 6
    · exact mO 0 14
    · exact lod 2 (wI 1 15) (loads_of strct_rat (shp_pr shp_zn shp_zn))
    · exact lod 1 (wI 1 15) (loads_of strct_rat (shp_pr shp_zv shp_zv))
    · exact cc2 (wI 1 15) (qO 2 16 rfl) (qO 3 17 rfl) (fresh_is _) (fun w u0 u1 h0 h1 => Gives.cast ((fun w u v h1 h2 => g_rrcmp (dR_ne uF_no) hD (by omega) (by omega) (by omega) (by omega) w u v ((rn_rv (exn_len f1) (exd_len px)) _ _ h1) ((pr_imp (fun _ _ h => h) (fun _ _ h => h)) _ _ h2)) w u0 u1 h0 h1) (by rw [ag_fin f1]))
    · exact b_gtr_int_f (wI 1 15) (oO 4 18) (opnd_const _) (h := g)
    · exact pT wA (oO 1 15) (oO 5 19)
    · exact mO 6 20
    · exact mW (wI 7 21) (oS 0 6)
    · exact b_not (wI 7 21) (oO 8 22)
    · exact mW (wI 7 21) (oO 9 23)
    · exact oF 10 24
    · exact oF 10 24
    · exact oF 10 24
    · exact pF (wI 7 21) (oO 10 24) (opnd_const _)
    · exact pF wA (oO 7 21) (oO 14 28)
  intro B3 a3 W3 (S3 : Sta w 53 [(2, (.box 24 (SF [(Is (.float .f64 x)), (Is (.float .f64 y))]))), (3, (.box 29 (PR (Zv A k1) (Zv (((D : Nat) : Int)) k2))))] [(29, bF)] _ _ _)
  refine wp_cond_false (S3.bool 0 29 rfl) ?_
  refine wp_skip ?_
  refine thenN ?_
  refine wp_stmt_seq [.val (Part a3 2 1), .val (Is (.float .f64 y)), .val ((TWO (RN 0 1) (IS (.bool false))) w.heap.size), .val ((TWO (RN 0 1) (IS (.bool false))) w.heap.size), .val ((RN 0 1) w.heap.size), kF, .new (.box 29 zR), .put (.inr 6) (.box 29 ((RN 0 1) w.heap.size)), kF] [.inr 0, .inr 1, .inl 6] [.inl 8] follows S3 rfl (by kernel_rfl) ?_ ?_
  · repeat' refine And.intro ?_ ?_
    · trivial
    · exact owe_part rfl wA rfl (k := 0) rfl (by kernel_rfl) rfl (fun ρ w b h => part_ival1 ρ _ _ w b 0 h)
    · exact owe_pload rfl wA rfl (oO 0 31) (k := 0) rfl (by kernel_rfl) rfl (fun ρ w b u h1 h2 h3 => ploadI rfl load1_f64 ρ _ _ w b u h1 h2 h3)
    · exact cc1 wA (qO 1 32 rfl) (fresh_two (fresh_rn _ _) (fresh_is _)) (pur_is (fun w => rexact_not w y hy (fun p2 h2 => by rw [hpy] at h2; obtain rfl := Option.some.inj h2; exact f2)))
    · exact mO 2 33
    · exact e20 wA (oO 3 30)
    · exact e21 wA (oO 3 30)
    · exact owe_new rfl wA rfl rfl (fun ρ w => alloc_rat ρ _ w)
    · exact owe_put 6 rfl wA rfl (by kernel_rfl) rfl (oO 4 34) (stores_of strct_rat shp_r0 (shp_pr shp_zn shp_zn)) rfl
    · exact mO 5 35
  intro B4 a4 W4 (S4 : Sta w 53 [(2, (.box 24 (SF [(Is (.float .f64 x)), (Is (.float .f64 y))]))), (3, (.box 29 (PR (Zv A k1) (Zv (((D : Nat) : Int)) k2)))), (7, (.box 29 ((RN 0 1) w.heap.size)))] [(6, bF)] _ _ _)
  refine wp_stmt_seq [kF, kF, .off, .off, .off, .off, kF, kF, kF, kT, kT, .val (Part a4 2 1), .val (Is (.float .f64 y)), kT, kT, kT, kF, kF] [.inr 0] [.inl 17] follows S4 rfl (by kernel_rfl) ?_ ?_
  · repeat' refine And.intro ?_ ?_
    · trivial
    · exact mS 0 6
    · exact mO 0 36
    · exact oF 1 37
    · exact oF 1 37
    · exact oF 1 37
    · exact oF 1 37
    · exact pF wA (oO 1 37) (opnd_const _)
    · exact mO 6 42
    · exact mW (wI 7 43) (oS 0 6)
    · exact b_not (wI 7 43) (oO 8 44)
    · exact mW (wI 7 43) (oO 9 45)
    · exact owe_part rfl (wI 10 46) rfl (k := 0) rfl (by kernel_rfl) rfl (fun ρ w b h => part_ival1 ρ _ _ w b 0 h)
    · exact owe_pload rfl (wI 10 46) rfl (oO 11 47) (k := 0) rfl (by kernel_rfl) rfl (fun ρ w b u h1 h2 h3 => ploadI rfl load1_f64 ρ _ _ w b u h1 h2 h3)
    · exact owe_fcmp rfl (wI 10 46) rfl ((oO 12 48).imp (fl_is hy)) ((opnd_const _).imp (fl_is (by decide))) (by rw [hpy]; exact lt_t g2) rfl
    · exact pT (wI 7 43) (oO 10 46) (oO 13 49)
    · exact pF wA (oO 7 43) (oO 14 50)
    · exact b_not wA (oO 15 51)
    · exact mO 16 52
  intro B5 a5 W5 (S5 : Sta w 53 [(2, (.box 24 (SF [(Is (.float .f64 x)), (Is (.float .f64 y))])))] [(4, bF)] _ _ _)
  refine wp_ret ?_
  exact end_one S5 rfl (res_tmp S5 0 4 rfl)
set_option maxHeartbeats 400000 in
theorem rhold_fj (w : World) (x y : Nat) (hx : x < 18446744073709551616) (hy : y < 18446744073709551616) (px py : Int) (hpx : plc x = some px) (hpy : plc y = some py) (A : Int) (D k1 k2 : Nat) (r : Value) (hr : Has (fun _ => False) w (Rv A ((D : Nat) : Int) k1 k2) r) (hD : D ≠ 0) (b1 : k1 ≤ 8388608) (b2 : k2 ≤ 8388608) (f1 : Fin px) (g : agP px A D ≤ 0) (f2 : ¬ Fin py) (g2 : 0 ≤ py) :
    Calls Tryz.prog 7 #[(.agg #[.float .f64 x, .float .f64 y]), r] w (Gives (IS (.bool true)) w) := by
  refine calls_sta (sl := [(0, (SF [(Is (.float .f64 x)), (Is (.float .f64 y))])), (1, (PR (Zv A k1) (Zv (((D : Nat) : Int)) k2)))]) Tryz.func7 rfl Tryz.ntmps7 (by simp) (args_cons rfl (ix_has) (args_cons rfl (hr) args_nil)) ?_
  intro a0 S0
  refine wp_stmt_seq [.new (.box 24 (SF [(Is (.float .f64 x)), (Is (.float .f64 y))])), .new (.box 29 (PR (Zv A k1) (Zv (((D : Nat) : Int)) k2))), kF] [.inl 0, .inl 1] [] follows S0 rfl (by kernel_rfl) ?_ ?_
  · refine ⟨⟨⟨trivial, ?_⟩, ?_⟩, ?_⟩
    · exact owe_box rfl wA rfl (oS 0 0) rfl (fun ρ w h => box_ival shp_iv ρ _ _ w h)
    · exact owe_box rfl wA rfl (oS 1 1) rfl (fun ρ w h => box_rat (shp_pr shp_zv shp_zv) ρ _ _ w h)
    · exact mC
  intro B1 a1 W1 (S1 : Sta w 53 [(2, (.box 24 (SF [(Is (.float .f64 x)), (Is (.float .f64 y))]))), (3, (.box 29 (PR (Zv A k1) (Zv (((D : Nat) : Int)) k2))))] [] _ _ _)
  refine wp_stmt_seq [.val (Part a1 2 0), .val (Is (.float .f64 x)), .val ((TWO (RN (nR (vp px) uF) (dR (vp px) uF)) (IS (.bool true))) w.heap.size), .val ((TWO (RN (nR (vp px) uF) (dR (vp px) uF)) (IS (.bool true))) w.heap.size), .val ((RN (nR (vp px) uF) (dR (vp px) uF)) w.heap.size), kT, .new (.box 29 zR), .put (.inr 6) (.box 29 ((RN (nR (vp px) uF) (dR (vp px) uF)) w.heap.size)), kT] [.inr 0, .inr 1, .inl 6] [.inl 8] follows S1 rfl (by kernel_rfl) ?_ ?_
  · repeat' refine And.intro ?_ ?_
    · trivial
    · exact owe_part rfl wA rfl (k := 0) rfl (by kernel_rfl) rfl (fun ρ w b h => part_ival0 ρ _ _ w b 0 h)
    · exact owe_pload rfl wA rfl (oO 0 9) (k := 0) rfl (by kernel_rfl) rfl (fun ρ w b u h1 h2 h3 => ploadI rfl load1_f64 ρ _ _ w b u h1 h2 h3)
    · exact cc1 wA (qO 1 10 rfl) (fresh_two (fresh_rn _ _) (fresh_is _)) (pur_is (fun w => rexact_fin w x hx px hpx f1))
    · exact mO 2 11
    · exact e20 wA (oO 3 8)
    · exact e21 wA (oO 3 8)
    · exact owe_new rfl wA rfl rfl (fun ρ w => alloc_rat ρ _ w)
    · exact owe_put 6 rfl wA rfl (by kernel_rfl) rfl (oO 4 12) (stores_of strct_rat shp_r0 (shp_pr shp_zn shp_zn)) rfl
    · exact mO 5 13
  intro B2 a2 W2 (S2 : Sta w 53 [(2, (.box 24 (SF [(Is (.float .f64 x)), (Is (.float .f64 y))]))), (3, (.box 29 (PR (Zv A k1) (Zv (((D : Nat) : Int)) k2)))), (5, (.box 29 ((RN (nR (vp px) uF) (dR (vp px) uF)) w.heap.size)))] [(6, bT)] _ _ _)
  refine wp_seq ?_
  refine wp_stmt_seq [kT, kT, .val ((RN (nR (vp px) uF) (dR (vp px) uF)) w.heap.size), .val (PR (Zv A k1) (Zv (((D : Nat) : Int)) k2)), .val (iV (agP px A D)), kF, kF, kF, kT, kF, kF, .off, .off, .off, kF, kF] [.inr 0, .inr 1] [.inl 15] follows S2 rfl (by kernel_rfl) ?_ ?_
  · repeat' refine And.intro ?_ ?_
    · trivial
    · exact mS 0 6
    · exact mO 0 14
    · exact lod 2 (wI 1 15) (loads_of strct_rat (shp_pr shp_zn shp_zn))
    · exact lod 1 (wI 1 15) (loads_of strct_rat (shp_pr shp_zv shp_zv))
    · exact cc2 (wI 1 15) (qO 2 16 rfl) (qO 3 17 rfl) (fresh_is _) (fun w u0 u1 h0 h1 => Gives.cast ((fun w u v h1 h2 => g_rrcmp (dR_ne uF_no) hD (by omega) (by omega) (by omega) (by omega) w u v ((rn_rv (exn_len f1) (exd_len px)) _ _ h1) ((pr_imp (fun _ _ h => h) (fun _ _ h => h)) _ _ h2)) w u0 u1 h0 h1) (by rw [ag_fin f1]))
    · exact b_gtr_int_f (wI 1 15) (oO 4 18) (opnd_const _) (h := g)
    · exact pT wA (oO 1 15) (oO 5 19)
    · exact mO 6 20
    · exact mW (wI 7 21) (oS 0 6)
    · exact b_not (wI 7 21) (oO 8 22)
    · exact mW (wI 7 21) (oO 9 23)
    · exact oF 10 24
    · exact oF 10 24
    · exact oF 10 24
    · exact pF (wI 7 21) (oO 10 24) (opnd_const _)
    · exact pF wA (oO 7 21) (oO 14 28)
  intro B3 a3 W3 (S3 : Sta w 53 [(2, (.box 24 (SF [(Is (.float .f64 x)), (Is (.float .f64 y))]))), (3, (.box 29 (PR (Zv A k1) (Zv (((D : Nat) : Int)) k2))))] [(29, bF)] _ _ _)
  refine wp_cond_false (S3.bool 0 29 rfl) ?_
  refine wp_skip ?_
  refine thenN ?_
  refine wp_stmt_seq [.val (Part a3 2 1), .val (Is (.float .f64 y)), .val ((TWO (RN 0 1) (IS (.bool false))) w.heap.size), .val ((TWO (RN 0 1) (IS (.bool false))) w.heap.size), .val ((RN 0 1) w.heap.size), kF, .new (.box 29 zR), .put (.inr 6) (.box 29 ((RN 0 1) w.heap.size)), kF] [.inr 0, .inr 1, .inl 6] [.inl 8] follows S3 rfl (by kernel_rfl) ?_ ?_
  · repeat' refine And.intro ?_ ?_
    · trivial
    · exact owe_part rfl wA rfl (k := 0) rfl (by kernel_rfl) rfl (fun ρ w b h => part_ival1 ρ _ _ w b 0 h)
    · exact owe_pload rfl wA rfl (oO 0 31) (k := 0) rfl (by kernel_rfl) rfl (fun ρ w b u h1 h2 h3 => ploadI rfl load1_f64 ρ _ _ w b u h1 h2 h3)
    · exact cc1 wA (qO 1 32 rfl) (fresh_two (fresh_rn _ _) (fresh_is _)) (pur_is (fun w => rexact_not w y hy (fun p2 h2 => by rw [hpy] at h2; obtain rfl := Option.some.inj h2; exact f2)))
    · exact mO 2 33
    · exact e20 wA (oO 3 30)
    · exact e21 wA (oO 3 30)
    · exact owe_new rfl wA rfl rfl (fun ρ w => alloc_rat ρ _ w)
    · exact owe_put 6 rfl wA rfl (by kernel_rfl) rfl (oO 4 34) (stores_of strct_rat shp_r0 (shp_pr shp_zn shp_zn)) rfl
    · exact mO 5 35
  intro B4 a4 W4 (S4 : Sta w 53 [(2, (.box 24 (SF [(Is (.float .f64 x)), (Is (.float .f64 y))]))), (3, (.box 29 (PR (Zv A k1) (Zv (((D : Nat) : Int)) k2)))), (7, (.box 29 ((RN 0 1) w.heap.size)))] [(6, bF)] _ _ _)
  refine wp_stmt_seq [kF, kF, .off, .off, .off, .off, kF, kF, kF, kT, kT, .val (Part a4 2 1), .val (Is (.float .f64 y)), kF, kF, kF, kT, kT] [.inr 0] [.inl 17] follows S4 rfl (by kernel_rfl) ?_ ?_
  · repeat' refine And.intro ?_ ?_
    · trivial
    · exact mS 0 6
    · exact mO 0 36
    · exact oF 1 37
    · exact oF 1 37
    · exact oF 1 37
    · exact oF 1 37
    · exact pF wA (oO 1 37) (opnd_const _)
    · exact mO 6 42
    · exact mW (wI 7 43) (oS 0 6)
    · exact b_not (wI 7 43) (oO 8 44)
    · exact mW (wI 7 43) (oO 9 45)
    · exact owe_part rfl (wI 10 46) rfl (k := 0) rfl (by kernel_rfl) rfl (fun ρ w b h => part_ival1 ρ _ _ w b 0 h)
    · exact owe_pload rfl (wI 10 46) rfl (oO 11 47) (k := 0) rfl (by kernel_rfl) rfl (fun ρ w b u h1 h2 h3 => ploadI rfl load1_f64 ρ _ _ w b u h1 h2 h3)
    · exact owe_fcmp rfl (wI 10 46) rfl ((oO 12 48).imp (fl_is hy)) ((opnd_const _).imp (fl_is (by decide))) (by rw [hpy]; exact lt_f (by omega)) rfl
    · exact pT (wI 7 43) (oO 10 46) (oO 13 49)
    · exact pF wA (oO 7 43) (oO 14 50)
    · exact b_not wA (oO 15 51)
    · exact mO 16 52
  intro B5 a5 W5 (S5 : Sta w 53 [(2, (.box 24 (SF [(Is (.float .f64 x)), (Is (.float .f64 y))])))] [(4, bT)] _ _ _)
  refine wp_ret ?_
  exact end_one S5 rfl (res_tmp S5 0 4 rfl)
set_option maxHeartbeats 400000 in
theorem rhold_if (w : World) (x y : Nat) (hx : x < 18446744073709551616) (hy : y < 18446744073709551616) (px py : Int) (hpx : plc x = some px) (hpy : plc y = some py) (A : Int) (D k1 k2 : Nat) (r : Value) (hr : Has (fun _ => False) w (Rv A ((D : Nat) : Int) k1 k2) r) (hD : D ≠ 0) (b1 : k1 ≤ 8388608) (b2 : k2 ≤ 8388608) (f1 : ¬ Fin px) (g : px ≤ 0) (f2 : Fin py) (g2 : agP py A D < 0) :
    Calls Tryz.prog 7 #[(.agg #[.float .f64 x, .float .f64 y]), r] w (Gives (IS (.bool false)) w) := by
  refine calls_sta (sl := [(0, (SF [(Is (.float .f64 x)), (Is (.float .f64 y))])), (1, (PR (Zv A k1) (Zv (((D : Nat) : Int)) k2)))]) Tryz.func7 rfl Tryz.ntmps7 (by simp) (args_cons rfl (ix_has) (args_cons rfl (hr) args_nil)) ?_
  intro a0 S0
  refine wp_stmt_seq [.new (.box 24 (SF [(Is (.float .f64 x)), (Is (.float .f64 y))])), .new (.box 29 (PR (Zv A k1) (Zv (((D : Nat) : Int)) k2))), kF] [.inl 0, .inl 1] [] follows S0 rfl (by kernel_rfl) ?_ ?_
  · refine ⟨⟨⟨trivial, ?_⟩, ?_⟩, ?_⟩
    · exact owe_box rfl wA rfl (oS 0 0) rfl (fun ρ w h => box_ival shp_iv ρ _ _ w h)
    · exact owe_box rfl wA rfl (oS 1 1) rfl (fun ρ w h => box_rat (shp_pr shp_zv shp_zv) ρ _ _ w h)
    · exact mC
  intro B1 a1 W1 (S1 : Sta w 53 [(2, (.box 24 (SF [(Is (.float .f64 x)), (Is (.float .f64 y))]))), (3, (.box 29 (PR (Zv A k1) (Zv (((D : Nat) : Int)) k2))))] [] _ _ _)
  refine wp_stmt_seq [.val (Part a1 2 0), .val (Is (.float .f64 x)), .val ((TWO (RN 0 1) (IS (.bool false))) w.heap.size), .val ((TWO (RN 0 1) (IS (.bool false))) w.heap.size), .val ((RN 0 1) w.heap.size), kF, .new (.box 29 zR), .put (.inr 6) (.box 29 ((RN 0 1) w.heap.size)), kF] [.inr 0, .inr 1, .inl 6] [.inl 8] follows S1 rfl (by kernel_rfl) ?_ ?_
  · repeat' refine And.intro ?_ ?_
    · trivial
    · exact owe_part rfl wA rfl (k := 0) rfl (by kernel_rfl) rfl (fun ρ w b h => part_ival0 ρ _ _ w b 0 h)
    · exact owe_pload rfl wA rfl (oO 0 9) (k := 0) rfl (by kernel_rfl) rfl (fun ρ w b u h1 h2 h3 => ploadI rfl load1_f64 ρ _ _ w b u h1 h2 h3)
    · exact cc1 wA (qO 1 10 rfl) (fresh_two (fresh_rn _ _) (fresh_is _)) (pur_is (fun w => rexact_not w x hx (fun p2 h2 => by rw [hpx] at h2; obtain rfl := Option.some.inj h2; exact f1)))
    · exact mO 2 11
    · exact e20 wA (oO 3 8)
    · exact e21 wA (oO 3 8)
    · exact owe_new rfl wA rfl rfl (fun ρ w => alloc_rat ρ _ w)
    · exact owe_put 6 rfl wA rfl (by kernel_rfl) rfl (oO 4 12) (stores_of strct_rat shp_r0 (shp_pr shp_zn shp_zn)) rfl
    · exact mO 5 13
  intro B2 a2 W2 (S2 : Sta w 53 [(2, (.box 24 (SF [(Is (.float .f64 x)), (Is (.float .f64 y))]))), (3, (.box 29 (PR (Zv A k1) (Zv (((D : Nat) : Int)) k2)))), (5, (.box 29 ((RN 0 1) w.heap.size)))] [(6, bF)] _ _ _)
  refine wp_seq ?_
  refine wp_stmt_seq [kF, kF, .off, .off, .off, .off, kF, kF, kF, kT, kT, .val (Part a2 2 0), .val (Is (.float .f64 x)), kF, kF, kF] [.inr 0, .inr 1] [.inl 15] follows S2 rfl (by kernel_rfl) ?_ ?_
  · repeat' refine And.intro ?_ ?_
    · trivial
    · exact mS 0 6
    · exact mO 0 14
    · exact oF 1 15
    · exact oF 1 15
    · exact oF 1 15
    · exact oF 1 15
    · exact pF wA (oO 1 15) (opnd_const _)
    · exact mO 6 20
    · exact mW (wI 7 21) (oS 0 6)
    · exact b_not (wI 7 21) (oO 8 22)
    · exact mW (wI 7 21) (oO 9 23)
    · exact owe_part rfl (wI 10 24) rfl (k := 0) rfl (by kernel_rfl) rfl (fun ρ w b h => part_ival0 ρ _ _ w b 0 h)
    · exact owe_pload rfl (wI 10 24) rfl (oO 11 25) (k := 0) rfl (by kernel_rfl) rfl (fun ρ w b u h1 h2 h3 => ploadI rfl load1_f64 ρ _ _ w b u h1 h2 h3)
    · exact owe_fcmp rfl (wI 10 24) rfl ((oO 12 26).imp (fl_is hx)) ((opnd_const _).imp (fl_is (by decide))) (by rw [hpx]; exact gt_f (by omega)) rfl
    · exact pT (wI 7 21) (oO 10 24) (oO 13 27)
    · exact pF wA (oO 7 21) (oO 14 28)
  intro B3 a3 W3 (S3 : Sta w 53 [(2, (.box 24 (SF [(Is (.float .f64 x)), (Is (.float .f64 y))]))), (3, (.box 29 (PR (Zv A k1) (Zv (((D : Nat) : Int)) k2))))] [(29, bF)] _ _ _)
  refine wp_cond_false (S3.bool 0 29 rfl) ?_
  refine wp_skip ?_
  refine thenN ?_
  refine wp_stmt_seq [.val (Part a3 2 1), .val (Is (.float .f64 y)), .val ((TWO (RN (nR (vp py) uF) (dR (vp py) uF)) (IS (.bool true))) w.heap.size), .val ((TWO (RN (nR (vp py) uF) (dR (vp py) uF)) (IS (.bool true))) w.heap.size), .val ((RN (nR (vp py) uF) (dR (vp py) uF)) w.heap.size), kT, .new (.box 29 zR), .put (.inr 6) (.box 29 ((RN (nR (vp py) uF) (dR (vp py) uF)) w.heap.size)), kT] [.inr 0, .inr 1, .inl 6] [.inl 8] follows S3 rfl (by kernel_rfl) ?_ ?_
  · repeat' refine And.intro ?_ ?_
    · trivial
    · exact owe_part rfl wA rfl (k := 0) rfl (by kernel_rfl) rfl (fun ρ w b h => part_ival1 ρ _ _ w b 0 h)
    · exact owe_pload rfl wA rfl (oO 0 31) (k := 0) rfl (by kernel_rfl) rfl (fun ρ w b u h1 h2 h3 => ploadI rfl load1_f64 ρ _ _ w b u h1 h2 h3)
    · exact cc1 wA (qO 1 32 rfl) (fresh_two (fresh_rn _ _) (fresh_is _)) (pur_is (fun w => rexact_fin w y hy py hpy f2))
    · exact mO 2 33
    · exact e20 wA (oO 3 30)
    · exact e21 wA (oO 3 30)
    · exact owe_new rfl wA rfl rfl (fun ρ w => alloc_rat ρ _ w)
    · exact owe_put 6 rfl wA rfl (by kernel_rfl) rfl (oO 4 34) (stores_of strct_rat shp_r0 (shp_pr shp_zn shp_zn)) rfl
    · exact mO 5 35
  intro B4 a4 W4 (S4 : Sta w 53 [(2, (.box 24 (SF [(Is (.float .f64 x)), (Is (.float .f64 y))]))), (3, (.box 29 (PR (Zv A k1) (Zv (((D : Nat) : Int)) k2)))), (7, (.box 29 ((RN (nR (vp py) uF) (dR (vp py) uF)) w.heap.size)))] [(6, bT)] _ _ _)
  refine wp_stmt_seq [kT, kT, .val (PR (Zv A k1) (Zv (((D : Nat) : Int)) k2)), .val ((RN (nR (vp py) uF) (dR (vp py) uF)) w.heap.size), .val (iV (-agP py A D)), kT, kT, kT, .off, .off, .val (Is (undef)), .off, .off, .off, .off, kT, kF, kF] [.inr 0] [.inl 17] follows S4 rfl (by kernel_rfl) ?_ ?_
  · repeat' refine And.intro ?_ ?_
    · trivial
    · exact mS 0 6
    · exact mO 0 36
    · exact lod 1 (wI 1 37) (loads_of strct_rat (shp_pr shp_zv shp_zv))
    · exact lod 2 (wI 1 37) (loads_of strct_rat (shp_pr shp_zn shp_zn))
    · exact cc2 (wI 1 37) (qO 2 38 rfl) (qO 3 39 rfl) (fresh_is _) (fun w u0 u1 h0 h1 => Gives.cast ((fun w u v h1 h2 => g_rrcmp hD (dR_ne uF_no) (by omega) (by omega) (by omega) (by omega) w u v ((pr_imp (fun _ _ h => h) (fun _ _ h => h)) _ _ h1) ((rn_rv (exn_len f2) (exd_len py)) _ _ h2)) w u0 u1 h0 h1) (by rw [ag_fin' f2]))
    · exact b_gtr_int_t (wI 1 37) (oO 4 40) (opnd_const _)
    · exact pT wA (oO 1 37) (oO 5 41)
    · exact mO 6 42
    · exact oF 7 43
    · exact oF 7 43
    · exact owe_offv 7 43 rfl rfl rfl (by kernel_rfl) rfl (by decide)
    · exact owe_offu 10 46 rfl rfl rfl (by kernel_rfl) rfl
    · exact owe_offu 10 46 rfl rfl rfl (by kernel_rfl) rfl
    · exact owe_offu 10 46 rfl rfl rfl (by kernel_rfl) rfl
    · exact oF 7 43
    · exact pT wA (oO 7 43) (opnd_const _)
    · exact b_not wA (oO 15 51)
    · exact mO 16 52
  intro B5 a5 W5 (S5 : Sta w 53 [(2, (.box 24 (SF [(Is (.float .f64 x)), (Is (.float .f64 y))])))] [(4, bF)] _ _ _)
  refine wp_ret ?_
  exact end_one S5 rfl (res_tmp S5 0 4 rfl)
set_option maxHeartbeats 400000 in
theorem rhold_ig (w : World) (x y : Nat) (hx : x < 18446744073709551616) (hy : y < 18446744073709551616) (px py : Int) (hpx : plc x = some px) (hpy : plc y = some py) (A : Int) (D k1 k2 : Nat) (r : Value) (hr : Has (fun _ => False) w (Rv A ((D : Nat) : Int) k1 k2) r) (hD : D ≠ 0) (b1 : k1 ≤ 8388608) (b2 : k2 ≤ 8388608) (f1 : ¬ Fin px) (g : px ≤ 0) (f2 : Fin py) (g2 : 0 ≤ agP py A D) :
    Calls Tryz.prog 7 #[(.agg #[.float .f64 x, .float .f64 y]), r] w (Gives (IS (.bool true)) w) := by
  refine calls_sta (sl := [(0, (SF [(Is (.float .f64 x)), (Is (.float .f64 y))])), (1, (PR (Zv A k1) (Zv (((D : Nat) : Int)) k2)))]) Tryz.func7 rfl Tryz.ntmps7 (by simp) (args_cons rfl (ix_has) (args_cons rfl (hr) args_nil)) ?_
  intro a0 S0
  refine wp_stmt_seq [.new (.box 24 (SF [(Is (.float .f64 x)), (Is (.float .f64 y))])), .new (.box 29 (PR (Zv A k1) (Zv (((D : Nat) : Int)) k2))), kF] [.inl 0, .inl 1] [] follows S0 rfl (by kernel_rfl) ?_ ?_
  · refine ⟨⟨⟨trivial, ?_⟩, ?_⟩, ?_⟩
    · exact owe_box rfl wA rfl (oS 0 0) rfl (fun ρ w h => box_ival shp_iv ρ _ _ w h)
    · exact owe_box rfl wA rfl (oS 1 1) rfl (fun ρ w h => box_rat (shp_pr shp_zv shp_zv) ρ _ _ w h)
    · exact mC
  intro B1 a1 W1 (S1 : Sta w 53 [(2, (.box 24 (SF [(Is (.float .f64 x)), (Is (.float .f64 y))]))), (3, (.box 29 (PR (Zv A k1) (Zv (((D : Nat) : Int)) k2))))] [] _ _ _)
  refine wp_stmt_seq [.val (Part a1 2 0), .val (Is (.float .f64 x)), .val ((TWO (RN 0 1) (IS (.bool false))) w.heap.size), .val ((TWO (RN 0 1) (IS (.bool false))) w.heap.size), .val ((RN 0 1) w.heap.size), kF, .new (.box 29 zR), .put (.inr 6) (.box 29 ((RN 0 1) w.heap.size)), kF] [.inr 0, .inr 1, .inl 6] [.inl 8] follows S1 rfl (by kernel_rfl) ?_ ?_
  · repeat' refine And.intro ?_ ?_
    · trivial
    · exact owe_part rfl wA rfl (k := 0) rfl (by kernel_rfl) rfl (fun ρ w b h => part_ival0 ρ _ _ w b 0 h)
    · exact owe_pload rfl wA rfl (oO 0 9) (k := 0) rfl (by kernel_rfl) rfl (fun ρ w b u h1 h2 h3 => ploadI rfl load1_f64 ρ _ _ w b u h1 h2 h3)
    · exact cc1 wA (qO 1 10 rfl) (fresh_two (fresh_rn _ _) (fresh_is _)) (pur_is (fun w => rexact_not w x hx (fun p2 h2 => by rw [hpx] at h2; obtain rfl := Option.some.inj h2; exact f1)))
    · exact mO 2 11
    · exact e20 wA (oO 3 8)
    · exact e21 wA (oO 3 8)
    · exact owe_new rfl wA rfl rfl (fun ρ w => alloc_rat ρ _ w)
    · exact owe_put 6 rfl wA rfl (by kernel_rfl) rfl (oO 4 12) (stores_of strct_rat shp_r0 (shp_pr shp_zn shp_zn)) rfl
    · exact mO 5 13
  intro B2 a2 W2 (S2 : Sta w 53 [(2, (.box 24 (SF [(Is (.float .f64 x)), (Is (.float .f64 y))]))), (3, (.box 29 (PR (Zv A k1) (Zv (((D : Nat) : Int)) k2)))), (5, (.box 29 ((RN 0 1) w.heap.size)))] [(6, bF)] _ _ _)
  refine wp_seq ?_
  refine wp_stmt_seq [kF, kF, .off, .off, .off, .off, kF, kF, kF, kT, kT, .val (Part a2 2 0), .val (Is (.float .f64 x)), kF, kF, kF] [.inr 0, .inr 1] [.inl 15] follows S2 rfl (by kernel_rfl) ?_ ?_
  · repeat' refine And.intro ?_ ?_
    · trivial
    · exact mS 0 6
    · exact mO 0 14
    · exact oF 1 15
    · exact oF 1 15
    · exact oF 1 15
    · exact oF 1 15
    · exact pF wA (oO 1 15) (opnd_const _)
    · exact mO 6 20
    · exact mW (wI 7 21) (oS 0 6)
    · exact b_not (wI 7 21) (oO 8 22)
    · exact mW (wI 7 21) (oO 9 23)
    · exact owe_part rfl (wI 10 24) rfl (k := 0) rfl (by kernel_rfl) rfl (fun ρ w b h => part_ival0 ρ _ _ w b 0 h)
    · exact owe_pload rfl (wI 10 24) rfl (oO 11 25) (k := 0) rfl (by kernel_rfl) rfl (fun ρ w b u h1 h2 h3 => ploadI rfl load1_f64 ρ _ _ w b u h1 h2 h3)
    · exact owe_fcmp rfl (wI 10 24) rfl ((oO 12 26).imp (fl_is hx)) ((opnd_const _).imp (fl_is (by decide))) (by rw [hpx]; exact gt_f (by omega)) rfl
    · exact pT (wI 7 21) (oO 10 24) (oO 13 27)
    · exact pF wA (oO 7 21) (oO 14 28)
  intro B3 a3 W3 (S3 : Sta w 53 [(2, (.box 24 (SF [(Is (.float .f64 x)), (Is (.float .f64 y))]))), (3, (.box 29 (PR (Zv A k1) (Zv (((D : Nat) : Int)) k2))))] [(29, bF)] _ _ _)
  refine wp_cond_false (S3.bool 0 29 rfl) ?_
  refine wp_skip ?_
  refine thenN ?_
  refine wp_stmt_seq [.val (Part a3 2 1), .val (Is (.float .f64 y)), .val ((TWO (RN (nR (vp py) uF) (dR (vp py) uF)) (IS (.bool true))) w.heap.size), .val ((TWO (RN (nR (vp py) uF) (dR (vp py) uF)) (IS (.bool true))) w.heap.size), .val ((RN (nR (vp py) uF) (dR (vp py) uF)) w.heap.size), kT, .new (.box 29 zR), .put (.inr 6) (.box 29 ((RN (nR (vp py) uF) (dR (vp py) uF)) w.heap.size)), kT] [.inr 0, .inr 1, .inl 6] [.inl 8] follows S3 rfl (by kernel_rfl) ?_ ?_
  · repeat' refine And.intro ?_ ?_
    · trivial
    · exact owe_part rfl wA rfl (k := 0) rfl (by kernel_rfl) rfl (fun ρ w b h => part_ival1 ρ _ _ w b 0 h)
    · exact owe_pload rfl wA rfl (oO 0 31) (k := 0) rfl (by kernel_rfl) rfl (fun ρ w b u h1 h2 h3 => ploadI rfl load1_f64 ρ _ _ w b u h1 h2 h3)
    · exact cc1 wA (qO 1 32 rfl) (fresh_two (fresh_rn _ _) (fresh_is _)) (pur_is (fun w => rexact_fin w y hy py hpy f2))
    · exact mO 2 33
    · exact e20 wA (oO 3 30)
    · exact e21 wA (oO 3 30)
    · exact owe_new rfl wA rfl rfl (fun ρ w => alloc_rat ρ _ w)
    · exact owe_put 6 rfl wA rfl (by kernel_rfl) rfl (oO 4 34) (stores_of strct_rat shp_r0 (shp_pr shp_zn shp_zn)) rfl
    · exact mO 5 35
  intro B4 a4 W4 (S4 : Sta w 53 [(2, (.box 24 (SF [(Is (.float .f64 x)), (Is (.float .f64 y))]))), (3, (.box 29 (PR (Zv A k1) (Zv (((D : Nat) : Int)) k2)))), (7, (.box 29 ((RN (nR (vp py) uF) (dR (vp py) uF)) w.heap.size)))] [(6, bT)] _ _ _)
  refine wp_stmt_seq [kT, kT, .val (PR (Zv A k1) (Zv (((D : Nat) : Int)) k2)), .val ((RN (nR (vp py) uF) (dR (vp py) uF)) w.heap.size), .val (iV (-agP py A D)), kF, kF, kF, kT, kF, kF, .off, .off, .off, kF, kF, kT, kT] [.inr 0] [.inl 17] follows S4 rfl (by kernel_rfl) ?_ ?_
  · repeat' refine And.intro ?_ ?_
    · trivial
    · exact mS 0 6
    · exact mO 0 36
    · exact lod 1 (wI 1 37) (loads_of strct_rat (shp_pr shp_zv shp_zv))
    · exact lod 2 (wI 1 37) (loads_of strct_rat (shp_pr shp_zn shp_zn))
    · exact cc2 (wI 1 37) (qO 2 38 rfl) (qO 3 39 rfl) (fresh_is _) (fun w u0 u1 h0 h1 => Gives.cast ((fun w u v h1 h2 => g_rrcmp hD (dR_ne uF_no) (by omega) (by omega) (by omega) (by omega) w u v ((pr_imp (fun _ _ h => h) (fun _ _ h => h)) _ _ h1) ((rn_rv (exn_len f2) (exd_len py)) _ _ h2)) w u0 u1 h0 h1) (by rw [ag_fin' f2]))
    · exact b_gtr_int_f (wI 1 37) (oO 4 40) (opnd_const _)
    · exact pT wA (oO 1 37) (oO 5 41)
    · exact mO 6 42
    · exact mW (wI 7 43) (oS 0 6)
    · exact b_not (wI 7 43) (oO 8 44)
    · exact mW (wI 7 43) (oO 9 45)
    · exact oF 10 46
    · exact oF 10 46
    · exact oF 10 46
    · exact pF (wI 7 43) (oO 10 46) (opnd_const _)
    · exact pF wA (oO 7 43) (oO 14 50)
    · exact b_not wA (oO 15 51)
    · exact mO 16 52
  intro B5 a5 W5 (S5 : Sta w 53 [(2, (.box 24 (SF [(Is (.float .f64 x)), (Is (.float .f64 y))])))] [(4, bT)] _ _ _)
  refine wp_ret ?_
  exact end_one S5 rfl (res_tmp S5 0 4 rfl)
set_option maxHeartbeats 400000 in
theorem rhold_ii (w : World) (x y : Nat) (hx : x < 18446744073709551616) (hy : y < 18446744073709551616) (px py : Int) (hpx : plc x = some px) (hpy : plc y = some py) (A : Int) (D k1 k2 : Nat) (r : Value) (hr : Has (fun _ => False) w (Rv A ((D : Nat) : Int) k1 k2) r) (hD : D ≠ 0) (b1 : k1 ≤ 8388608) (b2 : k2 ≤ 8388608) (f1 : ¬ Fin px) (g : px ≤ 0) (f2 : ¬ Fin py) (g2 : py < 0) :
    Calls Tryz.prog 7 #[(.agg #[.float .f64 x, .float .f64 y]), r] w (Gives (IS (.bool false)) w) := by
  refine calls_sta (sl := [(0, (SF [(Is (.float .f64 x)), (Is (.float .f64 y))])), (1, (PR (Zv A k1) (Zv (((D : Nat) : Int)) k2)))]) Tryz.func7 rfl Tryz.ntmps7 (by simp) (args_cons rfl (ix_has) (args_cons rfl (hr) args_nil)) ?_
  intro a0 S0
  refine wp_stmt_seq [.new (.box 24 (SF [(Is (.float .f64 x)), (Is (.float .f64 y))])), .new (.box 29 (PR (Zv A k1) (Zv (((D : Nat) : Int)) k2))), kF] [.inl 0, .inl 1] [] follows S0 rfl (by kernel_rfl) ?_ ?_
  · refine ⟨⟨⟨trivial, ?_⟩, ?_⟩, ?_⟩
    · exact owe_box rfl wA rfl (oS 0 0) rfl (fun ρ w h => box_ival shp_iv ρ _ _ w h)
    · exact owe_box rfl wA rfl (oS 1 1) rfl (fun ρ w h => box_rat (shp_pr shp_zv shp_zv) ρ _ _ w h)
    · exact mC
  intro B1 a1 W1 (S1 : Sta w 53 [(2, (.box 24 (SF [(Is (.float .f64 x)), (Is (.float .f64 y))]))), (3, (.box 29 (PR (Zv A k1) (Zv (((D : Nat) : Int)) k2))))] [] _ _ _)
  refine wp_stmt_seq [.val (Part a1 2 0), .val (Is (.float .f64 x)), .val ((TWO (RN 0 1) (IS (.bool false))) w.heap.size), .val ((TWO (RN 0 1) (IS (.bool false))) w.heap.size), .val ((RN 0 1) w.heap.size), kF, .new (.box 29 zR), .put (.inr 6) (.box 29 ((RN 0 1) w.heap.size)), kF] [.inr 0, .inr 1, .inl 6] [.inl 8] follows S1 rfl (by kernel_rfl) ?_ ?_
  · repeat' refine And.intro ?_ ?_
    · trivial
    · exact owe_part rfl wA rfl (k := 0) rfl (by kernel_rfl) rfl (fun ρ w b h => part_ival0 ρ _ _ w b 0 h)
    · exact owe_pload rfl wA rfl (oO 0 9) (k := 0) rfl (by kernel_rfl) rfl (fun ρ w b u h1 h2 h3 => ploadI rfl load1_f64 ρ _ _ w b u h1 h2 h3)
    · exact cc1 wA (qO 1 10 rfl) (fresh_two (fresh_rn _ _) (fresh_is _)) (pur_is (fun w => rexact_not w x hx (fun p2 h2 => by rw [hpx] at h2; obtain rfl := Option.some.inj h2; exact f1)))
    · exact mO 2 11
    · exact e20 wA (oO 3 8)
    · exact e21 wA (oO 3 8)
    · exact owe_new rfl wA rfl rfl (fun ρ w => alloc_rat ρ _ w)
    · exact owe_put 6 rfl wA rfl (by kernel_rfl) rfl (oO 4 12) (stores_of strct_rat shp_r0 (shp_pr shp_zn shp_zn)) rfl
    · exact mO 5 13
  intro B2 a2 W2 (S2 : Sta w 53 [(2, (.box 24 (SF [(Is (.float .f64 x)), (Is (.float .f64 y))]))), (3, (.box 29 (PR (Zv A k1) (Zv (((D : Nat) : Int)) k2)))), (5, (.box 29 ((RN 0 1) w.heap.size)))] [(6, bF)] _ _ _)
  refine wp_seq ?_
  refine wp_stmt_seq [kF, kF, .off, .off, .off, .off, kF, kF, kF, kT, kT, .val (Part a2 2 0), .val (Is (.float .f64 x)), kF, kF, kF] [.inr 0, .inr 1] [.inl 15] follows S2 rfl (by kernel_rfl) ?_ ?_
  · repeat' refine And.intro ?_ ?_
    · trivial
    · exact mS 0 6
    · exact mO 0 14
    · exact oF 1 15
    · exact oF 1 15
    · exact oF 1 15
    · exact oF 1 15
    · exact pF wA (oO 1 15) (opnd_const _)
    · exact mO 6 20
    · exact mW (wI 7 21) (oS 0 6)
    · exact b_not (wI 7 21) (oO 8 22)
    · exact mW (wI 7 21) (oO 9 23)
    · exact owe_part rfl (wI 10 24) rfl (k := 0) rfl (by kernel_rfl) rfl (fun ρ w b h => part_ival0 ρ _ _ w b 0 h)
    · exact owe_pload rfl (wI 10 24) rfl (oO 11 25) (k := 0) rfl (by kernel_rfl) rfl (fun ρ w b u h1 h2 h3 => ploadI rfl load1_f64 ρ _ _ w b u h1 h2 h3)
    · exact owe_fcmp rfl (wI 10 24) rfl ((oO 12 26).imp (fl_is hx)) ((opnd_const _).imp (fl_is (by decide))) (by rw [hpx]; exact gt_f (by omega)) rfl
    · exact pT (wI 7 21) (oO 10 24) (oO 13 27)
    · exact pF wA (oO 7 21) (oO 14 28)
  intro B3 a3 W3 (S3 : Sta w 53 [(2, (.box 24 (SF [(Is (.float .f64 x)), (Is (.float .f64 y))]))), (3, (.box 29 (PR (Zv A k1) (Zv (((D : Nat) : Int)) k2))))] [(29, bF)] _ _ _)
  refine wp_cond_false (S3.bool 0 29 rfl) ?_
  refine wp_skip ?_
  refine thenN ?_
  refine wp_stmt_seq [.val (Part a3 2 1), .val (Is (.float .f64 y)), .val ((TWO (RN 0 1) (IS (.bool false))) w.heap.size), .val ((TWO (RN 0 1) (IS (.bool false))) w.heap.size), .val ((RN 0 1) w.heap.size), kF, .new (.box 29 zR), .put (.inr 6) (.box 29 ((RN 0 1) w.heap.size)), kF] [.inr 0, .inr 1, .inl 6] [.inl 8] follows S3 rfl (by kernel_rfl) ?_ ?_
  · repeat' refine And.intro ?_ ?_
    · trivial
    · exact owe_part rfl wA rfl (k := 0) rfl (by kernel_rfl) rfl (fun ρ w b h => part_ival1 ρ _ _ w b 0 h)
    · exact owe_pload rfl wA rfl (oO 0 31) (k := 0) rfl (by kernel_rfl) rfl (fun ρ w b u h1 h2 h3 => ploadI rfl load1_f64 ρ _ _ w b u h1 h2 h3)
    · exact cc1 wA (qO 1 32 rfl) (fresh_two (fresh_rn _ _) (fresh_is _)) (pur_is (fun w => rexact_not w y hy (fun p2 h2 => by rw [hpy] at h2; obtain rfl := Option.some.inj h2; exact f2)))
    · exact mO 2 33
    · exact e20 wA (oO 3 30)
    · exact e21 wA (oO 3 30)
    · exact owe_new rfl wA rfl rfl (fun ρ w => alloc_rat ρ _ w)
    · exact owe_put 6 rfl wA rfl (by kernel_rfl) rfl (oO 4 34) (stores_of strct_rat shp_r0 (shp_pr shp_zn shp_zn)) rfl
    · exact mO 5 35
  intro B4 a4 W4 (S4 : Sta w 53 [(2, (.box 24 (SF [(Is (.float .f64 x)), (Is (.float .f64 y))]))), (3, (.box 29 (PR (Zv A k1) (Zv (((D : Nat) : Int)) k2)))), (7, (.box 29 ((RN 0 1) w.heap.size)))] [(6, bF)] _ _ _)
  refine wp_stmt_seq [kF, kF, .off, .off, .off, .off, kF, kF, kF, kT, kT, .val (Part a4 2 1), .val (Is (.float .f64 y)), kT, kT, kT, kF, kF] [.inr 0] [.inl 17] follows S4 rfl (by kernel_rfl) ?_ ?_
  · repeat' refine And.intro ?_ ?_
    · trivial
    · exact mS 0 6
    · exact mO 0 36
    · exact oF 1 37
    · exact oF 1 37
    · exact oF 1 37
    · exact oF 1 37
    · exact pF wA (oO 1 37) (opnd_const _)
    · exact mO 6 42
    · exact mW (wI 7 43) (oS 0 6)
    · exact b_not (wI 7 43) (oO 8 44)
    · exact mW (wI 7 43) (oO 9 45)
    · exact owe_part rfl (wI 10 46) rfl (k := 0) rfl (by kernel_rfl) rfl (fun ρ w b h => part_ival1 ρ _ _ w b 0 h)
    · exact owe_pload rfl (wI 10 46) rfl (oO 11 47) (k := 0) rfl (by kernel_rfl) rfl (fun ρ w b u h1 h2 h3 => ploadI rfl load1_f64 ρ _ _ w b u h1 h2 h3)
    · exact owe_fcmp rfl (wI 10 46) rfl ((oO 12 48).imp (fl_is hy)) ((opnd_const _).imp (fl_is (by decide))) (by rw [hpy]; exact lt_t g2) rfl
    · exact pT (wI 7 43) (oO 10 46) (oO 13 49)
    · exact pF wA (oO 7 43) (oO 14 50)
    · exact b_not wA (oO 15 51)
    · exact mO 16 52
  intro B5 a5 W5 (S5 : Sta w 53 [(2, (.box 24 (SF [(Is (.float .f64 x)), (Is (.float .f64 y))])))] [(4, bF)] _ _ _)
  refine wp_ret ?_
  exact end_one S5 rfl (res_tmp S5 0 4 rfl)
set_option maxHeartbeats 400000 in
theorem rhold_ij (w : World) (x y : Nat) (hx : x < 18446744073709551616) (hy : y < 18446744073709551616) (px py : Int) (hpx : plc x = some px) (hpy : plc y = some py) (A : Int) (D k1 k2 : Nat) (r : Value) (hr : Has (fun _ => False) w (Rv A ((D : Nat) : Int) k1 k2) r) (hD : D ≠ 0) (b1 : k1 ≤ 8388608) (b2 : k2 ≤ 8388608) (f1 : ¬ Fin px) (g : px ≤ 0) (f2 : ¬ Fin py) (g2 : 0 ≤ py) :
    Calls Tryz.prog 7 #[(.agg #[.float .f64 x, .float .f64 y]), r] w (Gives (IS (.bool true)) w) := by
  refine calls_sta (sl := [(0, (SF [(Is (.float .f64 x)), (Is (.float .f64 y))])), (1, (PR (Zv A k1) (Zv (((D : Nat) : Int)) k2)))]) Tryz.func7 rfl Tryz.ntmps7 (by simp) (args_cons rfl (ix_has) (args_cons rfl (hr) args_nil)) ?_
  intro a0 S0
  refine wp_stmt_seq [.new (.box 24 (SF [(Is (.float .f64 x)), (Is (.float .f64 y))])), .new (.box 29 (PR (Zv A k1) (Zv (((D : Nat) : Int)) k2))), kF] [.inl 0, .inl 1] [] follows S0 rfl (by kernel_rfl) ?_ ?_
  · refine ⟨⟨⟨trivial, ?_⟩, ?_⟩, ?_⟩
    · exact owe_box rfl wA rfl (oS 0 0) rfl (fun ρ w h => box_ival shp_iv ρ _ _ w h)
    · exact owe_box rfl wA rfl (oS 1 1) rfl (fun ρ w h => box_rat (shp_pr shp_zv shp_zv) ρ _ _ w h)
    · exact mC
  intro B1 a1 W1 (S1 : Sta w 53 [(2, (.box 24 (SF [(Is (.float .f64 x)), (Is (.float .f64 y))]))), (3, (.box 29 (PR (Zv A k1) (Zv (((D : Nat) : Int)) k2))))] [] _ _ _)
  refine wp_stmt_seq [.val (Part a1 2 0), .val (Is (.float .f64 x)), .val ((TWO (RN 0 1) (IS (.bool false))) w.heap.size), .val ((TWO (RN 0 1) (IS (.bool false))) w.heap.size), .val ((RN 0 1) w.heap.size), kF, .new (.box 29 zR), .put (.inr 6) (.box 29 ((RN 0 1) w.heap.size)), kF] [.inr 0, .inr 1, .inl 6] [.inl 8] follows S1 rfl (by kernel_rfl) ?_ ?_
  · repeat' refine And.intro ?_ ?_
    · trivial
    · exact owe_part rfl wA rfl (k := 0) rfl (by kernel_rfl) rfl (fun ρ w b h => part_ival0 ρ _ _ w b 0 h)
    · exact owe_pload rfl wA rfl (oO 0 9) (k := 0) rfl (by kernel_rfl) rfl (fun ρ w b u h1 h2 h3 => ploadI rfl load1_f64 ρ _ _ w b u h1 h2 h3)
    · exact cc1 wA (qO 1 10 rfl) (fresh_two (fresh_rn _ _) (fresh_is _)) (pur_is (fun w => rexact_not w x hx (fun p2 h2 => by rw [hpx] at h2; obtain rfl := Option.some.inj h2; exact f1)))
    · exact mO 2 11
    · exact e20 wA (oO 3 8)
    · exact e21 wA (oO 3 8)
    · exact owe_new rfl wA rfl rfl (fun ρ w => alloc_rat ρ _ w)
    · exact owe_put 6 rfl wA rfl (by kernel_rfl) rfl (oO 4 12) (stores_of strct_rat shp_r0 (shp_pr shp_zn shp_zn)) rfl
    · exact mO 5 13
  intro B2 a2 W2 (S2 : Sta w 53 [(2, (.box 24 (SF [(Is (.float .f64 x)), (Is (.float .f64 y))]))), (3, (.box 29 (PR (Zv A k1) (Zv (((D : Nat) : Int)) k2)))), (5, (.box 29 ((RN 0 1) w.heap.size)))] [(6, bF)] _ _ _)
  refine wp_seq ?_
  refine wp_stmt_seq [kF, kF, .off, .off, .off, .off, kF, kF, kF, kT, kT, .val (Part a2 2 0), .val (Is (.float .f64 x)), kF, kF, kF] [.inr 0, .inr 1] [.inl 15] follows S2 rfl (by kernel_rfl) ?_ ?_
  · repeat' refine And.intro ?_ ?_
    · trivial
    · exact mS 0 6
    · exact mO 0 14
    · exact oF 1 15
    · exact oF 1 15
    · exact oF 1 15
    · exact oF 1 15
    · exact pF wA (oO 1 15) (opnd_const _)
    · exact mO 6 20
    · exact mW (wI 7 21) (oS 0 6)
    · exact b_not (wI 7 21) (oO 8 22)
    · exact mW (wI 7 21) (oO 9 23)
    · exact owe_part rfl (wI 10 24) rfl (k := 0) rfl (by kernel_rfl) rfl (fun ρ w b h => part_ival0 ρ _ _ w b 0 h)
    · exact owe_pload rfl (wI 10 24) rfl (oO 11 25) (k := 0) rfl (by kernel_rfl) rfl (fun ρ w b u h1 h2 h3 => ploadI rfl load1_f64 ρ _ _ w b u h1 h2 h3)
    · exact owe_fcmp rfl (wI 10 24) rfl ((oO 12 26).imp (fl_is hx)) ((opnd_const _).imp (fl_is (by decide))) (by rw [hpx]; exact gt_f (by omega)) rfl
    · exact pT (wI 7 21) (oO 10 24) (oO 13 27)
    · exact pF wA (oO 7 21) (oO 14 28)
  intro B3 a3 W3 (S3 : Sta w 53 [(2, (.box 24 (SF [(Is (.float .f64 x)), (Is (.float .f64 y))]))), (3, (.box 29 (PR (Zv A k1) (Zv (((D : Nat) : Int)) k2))))] [(29, bF)] _ _ _)
  refine wp_cond_false (S3.bool 0 29 rfl) ?_
  refine wp_skip ?_
  refine thenN ?_
  refine wp_stmt_seq [.val (Part a3 2 1), .val (Is (.float .f64 y)), .val ((TWO (RN 0 1) (IS (.bool false))) w.heap.size), .val ((TWO (RN 0 1) (IS (.bool false))) w.heap.size), .val ((RN 0 1) w.heap.size), kF, .new (.box 29 zR), .put (.inr 6) (.box 29 ((RN 0 1) w.heap.size)), kF] [.inr 0, .inr 1, .inl 6] [.inl 8] follows S3 rfl (by kernel_rfl) ?_ ?_
  · repeat' refine And.intro ?_ ?_
    · trivial
    · exact owe_part rfl wA rfl (k := 0) rfl (by kernel_rfl) rfl (fun ρ w b h => part_ival1 ρ _ _ w b 0 h)
    · exact owe_pload rfl wA rfl (oO 0 31) (k := 0) rfl (by kernel_rfl) rfl (fun ρ w b u h1 h2 h3 => ploadI rfl load1_f64 ρ _ _ w b u h1 h2 h3)
    · exact cc1 wA (qO 1 32 rfl) (fresh_two (fresh_rn _ _) (fresh_is _)) (pur_is (fun w => rexact_not w y hy (fun p2 h2 => by rw [hpy] at h2; obtain rfl := Option.some.inj h2; exact f2)))
    · exact mO 2 33
    · exact e20 wA (oO 3 30)
    · exact e21 wA (oO 3 30)
    · exact owe_new rfl wA rfl rfl (fun ρ w => alloc_rat ρ _ w)
    · exact owe_put 6 rfl wA rfl (by kernel_rfl) rfl (oO 4 34) (stores_of strct_rat shp_r0 (shp_pr shp_zn shp_zn)) rfl
    · exact mO 5 35
  intro B4 a4 W4 (S4 : Sta w 53 [(2, (.box 24 (SF [(Is (.float .f64 x)), (Is (.float .f64 y))]))), (3, (.box 29 (PR (Zv A k1) (Zv (((D : Nat) : Int)) k2)))), (7, (.box 29 ((RN 0 1) w.heap.size)))] [(6, bF)] _ _ _)
  refine wp_stmt_seq [kF, kF, .off, .off, .off, .off, kF, kF, kF, kT, kT, .val (Part a4 2 1), .val (Is (.float .f64 y)), kF, kF, kF, kT, kT] [.inr 0] [.inl 17] follows S4 rfl (by kernel_rfl) ?_ ?_
  · repeat' refine And.intro ?_ ?_
    · trivial
    · exact mS 0 6
    · exact mO 0 36
    · exact oF 1 37
    · exact oF 1 37
    · exact oF 1 37
    · exact oF 1 37
    · exact pF wA (oO 1 37) (opnd_const _)
    · exact mO 6 42
    · exact mW (wI 7 43) (oS 0 6)
    · exact b_not (wI 7 43) (oO 8 44)
    · exact mW (wI 7 43) (oO 9 45)
    · exact owe_part rfl (wI 10 46) rfl (k := 0) rfl (by kernel_rfl) rfl (fun ρ w b h => part_ival1 ρ _ _ w b 0 h)
    · exact owe_pload rfl (wI 10 46) rfl (oO 11 47) (k := 0) rfl (by kernel_rfl) rfl (fun ρ w b u h1 h2 h3 => ploadI rfl load1_f64 ρ _ _ w b u h1 h2 h3)
    · exact owe_fcmp rfl (wI 10 46) rfl ((oO 12 48).imp (fl_is hy)) ((opnd_const _).imp (fl_is (by decide))) (by rw [hpy]; exact lt_f (by omega)) rfl
    · exact pT (wI 7 43) (oO 10 46) (oO 13 49)
    · exact pF wA (oO 7 43) (oO 14 50)
    · exact b_not wA (oO 15 51)
    · exact mO 16 52
  intro B5 a5 W5 (S5 : Sta w 53 [(2, (.box 24 (SF [(Is (.float .f64 x)), (Is (.float .f64 y))])))] [(4, bT)] _ _ _)
  refine wp_ret ?_
  exact end_one S5 rfl (res_tmp S5 0 4 rfl)

theorem h_rholds {x y : Nat} (hx : x < 18446744073709551616) (hy : y < 18446744073709551616) {px py : Int} (hpx : plc x = some px) (hpy : plc y = some py) {A : Int} {D k1 k2 : Nat} (hD : D ≠ 0) (b1 : k1 ≤ 8388608) (b2 : k2 ≤ 8388608) : ∀ w u v, SF [Is (.float .f64 x), Is (.float .f64 y)] u w → Rv A ((D : Nat) : Int) k1 k2 v w → Calls Tryz.prog 7 #[u, v] w (Gives (IS (.bool (hoB px py A D))) w) := fun w u v e h1 => by
  rw [ix_eq e]
  have hr := rv_has h1
  unfold hoB
  have low : ∀ (P : Prop), (Fin px → agP px A D ≤ 0 → P) → (¬ Fin px → px ≤ 0 → P) → agP px A D ≤ 0 → P := fun P k1 k2 g => by
    by_cases f : Fin px
    · exact k1 f g
    · refine k2 f ?_
      apply Classical.byContradiction
      intro hc
      rw [← ag_pos f (by omega)] at g
      omega
  by_cases g : agP px A D ≤ 0
  · rw [if_pos g]
    by_cases f2 : Fin py
    · by_cases g2 : 0 ≤ agP py A D
      · rw [decide_eq_true g2]
        exact low _ (fun f1 g => rhold_fg w x y hx hy px py hpx hpy A D k1 k2 v hr hD b1 b2 f1 g f2 g2) (fun f1 g => rhold_ig w x y hx hy px py hpx hpy A D k1 k2 v hr hD b1 b2 f1 g f2 g2) g
      · rw [decide_eq_false g2]
        exact low _ (fun f1 g => rhold_ff w x y hx hy px py hpx hpy A D k1 k2 v hr hD b1 b2 f1 g f2 (by omega)) (fun f1 g => rhold_if w x y hx hy px py hpx hpy A D k1 k2 v hr hD b1 b2 f1 g f2 (by omega)) g
    · by_cases g2 : 0 ≤ py
      · rw [← ag_pos f2 g2, decide_eq_true (by decide)]
        exact low _ (fun f1 g => rhold_fj w x y hx hy px py hpx hpy A D k1 k2 v hr hD b1 b2 f1 g f2 g2) (fun f1 g => rhold_ij w x y hx hy px py hpx hpy A D k1 k2 v hr hD b1 b2 f1 g f2 g2) g
      · rw [← ag_neg f2 (by omega), decide_eq_false (by decide)]
        exact low _ (fun f1 g => rhold_fi w x y hx hy px py hpx hpy A D k1 k2 v hr hD b1 b2 f1 g f2 (by omega)) (fun f1 g => rhold_ii w x y hx hy px py hpx hpy A D k1 k2 v hr hD b1 b2 f1 g f2 (by omega)) g
  · rw [if_neg g]
    by_cases f1 : Fin px
    · exact rhold_f w x y hx hy px py hpx hpy A D k1 k2 v hr hD b1 b2 f1 (by omega)
    · refine rhold_i w x y hx hy px py hpx hpy A D k1 k2 v hr hD b1 b2 f1 ?_
      apply Classical.byContradiction
      intro hc
      by_cases h0 : px < 0
      · rw [← ag_neg f1 h0] at g; omega
      · exact f1 (by unfold Fin; omega)
theorem h_rval {A D : Int} {k1 k2 : Nat} (b1 : k1 ≤ 8388608) (b2 : k2 ≤ 8388608) {t : Bool} (ht : decide (0 < D.sign) = t) : ∀ w u, Rv A D k1 k2 u w → Calls Tryz.prog 6 #[u] w (Gives (IS (.bool t)) w) := by
  rw [← ht]; exact g_rvalid b1 b2
end Go.Proofs.YtgalppimdmjdcabGreat
