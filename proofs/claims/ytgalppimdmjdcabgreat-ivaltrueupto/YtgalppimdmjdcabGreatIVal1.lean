/-
  Layer 9: Valid, Add, Sub, and what the document says of them.
-/
import Derived.Test.YtgalppimdmjdcabGreatFlC
namespace Go.Proofs.YtgalppimdmjdcabGreat
open Go Go.RowKit Nt
set_option linter.unusedSimpArgs false
set_option linter.unusedVariables false
set_option maxRecDepth 20000

/-- May an interval be? -/
def okI (x y : Nat) : Bool := ordP (plc x) (plc y) == some .lt || ordP (plc x) (plc y) == some .eq
set_option maxHeartbeats 400000 in
theorem ivalid_t (w : World) (x y : Nat) (hx : x < 18446744073709551616) (hy : y < 18446744073709551616) (h : okI x y = true) :
    Calls Tryz.prog 26 #[(.agg #[.float .f64 x, .float .f64 y])] w (Gives (IS (.int .i64 0)) w) := by
  refine calls_sta (sl := [(0, (SF [(Is (.float .f64 x)), (Is (.float .f64 y))]))]) Tryz.func26 rfl Tryz.ntmps26 (by simp) (args_cons rfl (ix_has) args_nil) ?_
  intro a0 S0
  refine wp_stmt_seq [.new (.box 24 (SF [(Is (.float .f64 x)), (Is (.float .f64 y))])), .val (iV 0)] [.inl 0] [] follows S0 rfl (by kernel_rfl) ?_ ?_
  · refine ⟨⟨trivial, ?_⟩, ?_⟩
    · exact owe_box rfl wA rfl (oS 0 0) rfl (fun ρ w h => box_ival shp_iv ρ _ _ w h)
    · exact mC
  intro B1 a1 W1 (S1 : Sta w 8 [(1, (.box 24 (SF [(Is (.float .f64 x)), (Is (.float .f64 y))])))] [] _ _ _)
  refine wp_seq ?_
  refine wp_stmt_seq [.val (Part a1 1 0), .val (Is (.float .f64 x)), .val (Part a1 1 1), .val (Is (.float .f64 y)), kT] [.inr 0] [.inl 4] follows S1 rfl (by kernel_rfl) ?_ ?_
  · refine ⟨⟨⟨⟨⟨trivial, ?_⟩, ?_⟩, ?_⟩, ?_⟩, ?_⟩
    · exact owe_part rfl wA rfl (k := 0) rfl (by kernel_rfl) rfl (fun ρ w b h => part_ival0 ρ _ _ w b 0 h)
    · exact owe_pload rfl wA rfl (oO 0 3) (k := 0) rfl (by kernel_rfl) rfl (fun ρ w b u h1 h2 h3 => ploadI rfl load1_f64 ρ _ _ w b u h1 h2 h3)
    · exact owe_part rfl wA rfl (k := 0) rfl (by kernel_rfl) rfl (fun ρ w b h => part_ival1 ρ _ _ w b 0 h)
    · exact owe_pload rfl wA rfl (oO 2 5) (k := 0) rfl (by kernel_rfl) rfl (fun ρ w b u h1 h2 h3 => ploadI rfl load1_f64 ρ _ _ w b u h1 h2 h3)
    · exact owe_fcmp rfl wA rfl ((oO 1 4).imp (fl_is hx)) ((oO 3 6).imp (fl_is hy)) h rfl
  intro B2 a2 W2 (S2 : Sta w 8 [(1, (.box 24 (SF [(Is (.float .f64 x)), (Is (.float .f64 y))])))] [(7, bT)] _ _ _)
  refine wp_cond_true (S2.bool 0 7 rfl) ?_
  refine wp_stmt_seq [.val (iV 0)] [.inr 0] [.inl 0] follows S2 rfl (by kernel_rfl) ?_ ?_
  · refine ⟨trivial, ?_⟩
    · exact mC
  intro B3 a3 W3 (S3 : Sta w 8 [(1, (.box 24 (SF [(Is (.float .f64 x)), (Is (.float .f64 y))])))] [(2, iV 0)] _ _ _)
  refine wp_ret ?_
  refine thenR ?_
  exact end_one S3 rfl (res_tmp S3 0 2 rfl)
set_option maxHeartbeats 400000 in
theorem rvalid_t (w : World) (x y : Nat) (hx : x < 18446744073709551616) (hy : y < 18446744073709551616) (h : okI x y = true) :
    Calls Tryz.prog 5 #[(.agg #[.float .f64 x, .float .f64 y])] w (Gives (IS (.bool true)) w) := by
  refine calls_sta (sl := [(0, (SF [(Is (.float .f64 x)), (Is (.float .f64 y))]))]) Tryz.func5 rfl Tryz.ntmps5 (by simp) (args_cons rfl (ix_has) args_nil) ?_
  intro a0 S0
  refine wp_stmt_seq [.new (.box 24 (SF [(Is (.float .f64 x)), (Is (.float .f64 y))])), kF] [.inl 0] [] follows S0 rfl (by kernel_rfl) ?_ ?_
  · refine ⟨⟨trivial, ?_⟩, ?_⟩
    · exact owe_box rfl wA rfl (oS 0 0) rfl (fun ρ w h => box_ival shp_iv ρ _ _ w h)
    · exact mC
  intro B1 a1 W1 (S1 : Sta w 8 [(1, (.box 24 (SF [(Is (.float .f64 x)), (Is (.float .f64 y))])))] [] _ _ _)
  refine wp_stmt_seq [.val (Part a1 1 0), .val (Is (.float .f64 x)), .val (Part a1 1 1), .val (Is (.float .f64 y)), kT, kT] [.inr 0] [.inl 5] follows S1 rfl (by kernel_rfl) ?_ ?_
  · refine ⟨⟨⟨⟨⟨⟨trivial, ?_⟩, ?_⟩, ?_⟩, ?_⟩, ?_⟩, ?_⟩
    · exact owe_part rfl wA rfl (k := 0) rfl (by kernel_rfl) rfl (fun ρ w b h => part_ival0 ρ _ _ w b 0 h)
    · exact owe_pload rfl wA rfl (oO 0 3) (k := 0) rfl (by kernel_rfl) rfl (fun ρ w b u h1 h2 h3 => ploadI rfl load1_f64 ρ _ _ w b u h1 h2 h3)
    · exact owe_part rfl wA rfl (k := 0) rfl (by kernel_rfl) rfl (fun ρ w b h => part_ival1 ρ _ _ w b 0 h)
    · exact owe_pload rfl wA rfl (oO 2 5) (k := 0) rfl (by kernel_rfl) rfl (fun ρ w b u h1 h2 h3 => ploadI rfl load1_f64 ρ _ _ w b u h1 h2 h3)
    · exact owe_fcmp rfl wA rfl ((oO 1 4).imp (fl_is hx)) ((oO 3 6).imp (fl_is hy)) h rfl
    · exact mO 4 7
  intro B2 a2 W2 (S2 : Sta w 8 [(1, (.box 24 (SF [(Is (.float .f64 x)), (Is (.float .f64 y))])))] [(2, bT)] _ _ _)
  refine wp_ret ?_
  exact end_one S2 rfl (res_tmp S2 0 2 rfl)
set_option maxHeartbeats 400000 in
theorem rvalid_f (w : World) (x y : Nat) (hx : x < 18446744073709551616) (hy : y < 18446744073709551616) (h : okI x y = false) :
    Calls Tryz.prog 5 #[(.agg #[.float .f64 x, .float .f64 y])] w (Gives (IS (.bool false)) w) := by
  refine calls_sta (sl := [(0, (SF [(Is (.float .f64 x)), (Is (.float .f64 y))]))]) Tryz.func5 rfl Tryz.ntmps5 (by simp) (args_cons rfl (ix_has) args_nil) ?_
  intro a0 S0
  refine wp_stmt_seq [.new (.box 24 (SF [(Is (.float .f64 x)), (Is (.float .f64 y))])), kF] [.inl 0] [] follows S0 rfl (by kernel_rfl) ?_ ?_
  · refine ⟨⟨trivial, ?_⟩, ?_⟩
    · exact owe_box rfl wA rfl (oS 0 0) rfl (fun ρ w h => box_ival shp_iv ρ _ _ w h)
    · exact mC
  intro B1 a1 W1 (S1 : Sta w 8 [(1, (.box 24 (SF [(Is (.float .f64 x)), (Is (.float .f64 y))])))] [] _ _ _)
  refine wp_stmt_seq [.val (Part a1 1 0), .val (Is (.float .f64 x)), .val (Part a1 1 1), .val (Is (.float .f64 y)), kF, kF] [.inr 0] [.inl 5] follows S1 rfl (by kernel_rfl) ?_ ?_
  · refine ⟨⟨⟨⟨⟨⟨trivial, ?_⟩, ?_⟩, ?_⟩, ?_⟩, ?_⟩, ?_⟩
    · exact owe_part rfl wA rfl (k := 0) rfl (by kernel_rfl) rfl (fun ρ w b h => part_ival0 ρ _ _ w b 0 h)
    · exact owe_pload rfl wA rfl (oO 0 3) (k := 0) rfl (by kernel_rfl) rfl (fun ρ w b u h1 h2 h3 => ploadI rfl load1_f64 ρ _ _ w b u h1 h2 h3)
    · exact owe_part rfl wA rfl (k := 0) rfl (by kernel_rfl) rfl (fun ρ w b h => part_ival1 ρ _ _ w b 0 h)
    · exact owe_pload rfl wA rfl (oO 2 5) (k := 0) rfl (by kernel_rfl) rfl (fun ρ w b u h1 h2 h3 => ploadI rfl load1_f64 ρ _ _ w b u h1 h2 h3)
    · exact owe_fcmp rfl wA rfl ((oO 1 4).imp (fl_is hx)) ((oO 3 6).imp (fl_is hy)) h rfl
    · exact mO 4 7
  intro B2 a2 W2 (S2 : Sta w 8 [(1, (.box 24 (SF [(Is (.float .f64 x)), (Is (.float .f64 y))])))] [(2, bF)] _ _ _)
  refine wp_ret ?_
  exact end_one S2 rfl (res_tmp S2 0 2 rfl)
set_option maxHeartbeats 400000 in
theorem ivalid2_tt (w : World) (x y x1 y1 : Nat) (hx : x < 18446744073709551616) (hy : y < 18446744073709551616) (hx1 : x1 < 18446744073709551616) (hy1 : y1 < 18446744073709551616) (h : okI x y = true) (h' : okI x1 y1 = true) :
    Calls Tryz.prog 23 #[(.agg #[.float .f64 x, .float .f64 y]), (.agg #[.float .f64 x1, .float .f64 y1])] w (Gives (IS (.int .i64 0)) w) := by
  refine calls_sta (sl := [(0, (SF [(Is (.float .f64 x)), (Is (.float .f64 y))])), (1, (SF [(Is (.float .f64 x1)), (Is (.float .f64 y1))]))]) Tryz.func23 rfl Tryz.ntmps23 (by simp) (args_cons rfl (ix_has) (args_cons rfl (ix_has) args_nil)) ?_
  intro a0 S0
  refine wp_stmt_seq [.new (.box 24 (SF [(Is (.float .f64 x)), (Is (.float .f64 y))])), .new (.box 24 (SF [(Is (.float .f64 x1)), (Is (.float .f64 y1))])), .val (iV 0)] [.inl 0, .inl 1] [] follows S0 rfl (by kernel_rfl) ?_ ?_
  · refine ⟨⟨⟨trivial, ?_⟩, ?_⟩, ?_⟩
    · exact owe_box rfl wA rfl (oS 0 0) rfl (fun ρ w h => box_ival shp_iv ρ _ _ w h)
    · exact owe_box rfl wA rfl (oS 1 1) rfl (fun ρ w h => box_ival shp_iv ρ _ _ w h)
    · exact mC
  intro B1 a1 W1 (S1 : Sta w 13 [(2, (.box 24 (SF [(Is (.float .f64 x)), (Is (.float .f64 y))]))), (3, (.box 24 (SF [(Is (.float .f64 x1)), (Is (.float .f64 y1))])))] [] _ _ _)
  refine wp_seq ?_
  refine wp_stmt_seq [.val (SF [(Is (.float .f64 x)), (Is (.float .f64 y))]), .val (iV 0), .val (iV 0)] [.inr 0, .inr 1] [.inl 2] follows S1 rfl (by kernel_rfl) ?_ ?_
  · refine ⟨⟨⟨trivial, ?_⟩, ?_⟩, ?_⟩
    · exact lod 0 wA (loads_of strct_ival shp_iv)
    · exact cc1 wA (qO 0 6 rfl) (fresh_is _) (ix1 (fun w => ivalid_t w _ _ hx hy h))
    · exact mO 1 7
  intro B2 a2 W2 (S2 : Sta w 13 [(2, (.box 24 (SF [(Is (.float .f64 x)), (Is (.float .f64 y))]))), (3, (.box 24 (SF [(Is (.float .f64 x1)), (Is (.float .f64 y1))])))] [(5, iV 0)] _ _ _)
  refine wp_stmt_seq [.val (iV 0), kF] [.inr 0, .inr 1] [.inl 1, .inr 0] follows S2 rfl (by kernel_rfl) ?_ ?_
  · refine ⟨⟨trivial, ?_⟩, ?_⟩
    · exact mS 0 5
    · exact b_neq_errno_f wA (oO 0 8) (opnd_const _) (h := by decide)
  intro B3 a3 W3 (S3 : Sta w 13 [(2, (.box 24 (SF [(Is (.float .f64 x)), (Is (.float .f64 y))]))), (3, (.box 24 (SF [(Is (.float .f64 x1)), (Is (.float .f64 y1))])))] [(9, bF), (5, iV 0)] _ _ _)
  refine wp_cond_false (S3.bool 0 9 rfl) ?_
  refine wp_skip ?_
  refine thenN ?_
  refine wp_stmt_seq [.val (SF [(Is (.float .f64 x1)), (Is (.float .f64 y1))]), .val (iV 0), .val (iV 0)] [.inr 0, .inr 1] [.inl 2] follows S3 rfl (by kernel_rfl) ?_ ?_
  · refine ⟨⟨⟨trivial, ?_⟩, ?_⟩, ?_⟩
    · exact lod 1 wA (loads_of strct_ival shp_iv)
    · exact cc1 wA (qO 0 11 rfl) (fresh_is _) (ix1 (fun w => ivalid_t w _ _ hx1 hy1 h'))
    · exact mO 1 12
  intro B4 a4 W4 (S4 : Sta w 13 [(2, (.box 24 (SF [(Is (.float .f64 x)), (Is (.float .f64 y))]))), (3, (.box 24 (SF [(Is (.float .f64 x1)), (Is (.float .f64 y1))])))] [(4, iV 0)] _ _ _)
  refine wp_ret ?_
  exact end_one S4 rfl (res_tmp S4 0 4 rfl)
set_option maxHeartbeats 400000 in
theorem outward_nn (w : World) (b c : Nat) (hb : b < 18446744073709551616) (hc : c < 18446744073709551616) (h : plc b = none) (h' : plc c = none) :
    Calls Tryz.prog 24 #[(.float .f64 b), (.float .f64 c)] w (Gives (IVN (dnP (plc 18442240474082181120)) (upP (plc 9218868437227405312))) w) := by
  refine calls_sta (sl := [(0, (Is (.float .f64 b))), (1, (Is (.float .f64 c)))]) Tryz.func24 rfl Tryz.ntmps24 (by simp) (args_cons rfl (is_has _) (args_cons rfl (is_has _) args_nil)) ?_
  intro a0 S0
  refine wp_stmt_seq [.new (.box 24 (Is (.agg #[.float .f64 0, .float .f64 0])))] [.inl 0] [.inr 0, .inr 1] follows S0 rfl (by kernel_rfl) ?_ ?_
  · refine ⟨trivial, ?_⟩
    · exact owe_new rfl wA rfl rfl (fun ρ w => alloc_ival ρ _ w)
  intro B1 a1 W1 (S1 : Sta w 16 [(4, (.box 24 (Is (.agg #[.float .f64 0, .float .f64 0]))))] [(0, Is (.float .f64 b)), (1, Is (.float .f64 c))] _ _ _)
  refine wp_seq ?_
  refine wp_stmt_seq [.val (Is (.float .f64 b)), kT] [.inr 0] [.inl 1, .inr 0, .inr 1] follows S1 rfl (by kernel_rfl) ?_ ?_
  · refine ⟨⟨trivial, ?_⟩, ?_⟩
    · exact mS 0 0
    · exact cc1 wA (qO 0 5 rfl) (fresh_is _) (pur1 (isnan_t h))
  intro B2 a2 W2 (S2 : Sta w 16 [(4, (.box 24 (Is (.agg #[.float .f64 0, .float .f64 0]))))] [(6, bT), (0, Is (.float .f64 b)), (1, Is (.float .f64 c))] _ _ _)
  refine wp_cond_true (S2.bool 0 6 rfl) ?_
  refine wp_stmt [.val (Is (.float .f64 18442240474082181120)), .val (Is (.float .f64 18442240474082181120))] [.inr 0] [.inl 1, .inr 2] follows S2 rfl (by kernel_rfl) ?_ ?_
  · refine ⟨⟨trivial, ?_⟩, ?_⟩
    · exact cc1 wA (opnd_const _) (fresh_is _) (pur1 (inf_p (-1) (Or.inr rfl)))
    · exact mO 0 7
  intro B3 a3 W3 (S3 : Sta w 16 [(4, (.box 24 (Is (.agg #[.float .f64 0, .float .f64 0]))))] [(0, Is (.float .f64 18442240474082181120)), (1, Is (.float .f64 c))] _ _ _)
  refine thenN ?_
  refine wp_seq ?_
  refine wp_stmt_seq [.val (Is (.float .f64 c)), kT] [.inr 0] [.inl 1, .inr 0, .inr 1] follows S3 rfl (by kernel_rfl) ?_ ?_
  · refine ⟨⟨trivial, ?_⟩, ?_⟩
    · exact mS 1 1
    · exact cc1 wA (qO 0 8 rfl) (fresh_is _) (pur1 (isnan_t h'))
  intro B4 a4 W4 (S4 : Sta w 16 [(4, (.box 24 (Is (.agg #[.float .f64 0, .float .f64 0]))))] [(9, bT), (0, Is (.float .f64 18442240474082181120)), (1, Is (.float .f64 c))] _ _ _)
  refine wp_cond_true (S4.bool 0 9 rfl) ?_
  refine wp_stmt [.val (Is (.float .f64 9218868437227405312)), .val (Is (.float .f64 9218868437227405312))] [.inr 0] [.inl 1, .inr 1] follows S4 rfl (by kernel_rfl) ?_ ?_
  · refine ⟨⟨trivial, ?_⟩, ?_⟩
    · exact cc1 wA (opnd_const _) (fresh_is _) (pur1 (inf_p 1 (Or.inl rfl)))
    · exact mO 0 10
  intro B5 a5 W5 (S5 : Sta w 16 [(4, (.box 24 (Is (.agg #[.float .f64 0, .float .f64 0]))))] [(1, Is (.float .f64 9218868437227405312)), (0, Is (.float .f64 18442240474082181120))] _ _ _)
  refine thenN ?_
  refine wp_stmt_seq [.val (Is (.float .f64 18442240474082181120)), .val (FL (dnP (plc 18442240474082181120))), .val (Is (.float .f64 9218868437227405312)), .val (FL (upP (plc 9218868437227405312))), .val (SF [(FL (dnP (plc 18442240474082181120))), (FL (upP (plc 9218868437227405312)))]), .put (.inl 4) (.box 24 (SF [(FL (dnP (plc 18442240474082181120))), (FL (upP (plc 9218868437227405312)))]))] [.inr 0] [] follows S5 rfl (by kernel_rfl) ?_ ?_
  · refine ⟨⟨⟨⟨⟨⟨trivial, ?_⟩, ?_⟩, ?_⟩, ?_⟩, ?_⟩, ?_⟩
    · exact mS 1 0
    · exact cc1 wA (qO 0 11 rfl) (fresh_fl _) (purF1 (down_f 18442240474082181120 (by decide)))
    · exact mS 0 1
    · exact cc1 wA (qO 2 13 rfl) (fresh_fl _) (purF1 (up_f 9218868437227405312 (by decide)))
    · exact owe_build_iv rfl wA rfl (oO 1 12) (oO 3 14) flt_fl flt_fl rfl
    · exact owe_set rfl wA rfl (k := 0) rfl (by kernel_rfl) (oO 4 15) (stores_of strct_ival shp_i0 shp_iv) rfl
  intro B6 a6 W6 (S6 : Sta w 16 [(4, (.box 24 (SF [(FL (dnP (plc 18442240474082181120))), (FL (upP (plc 9218868437227405312)))])))] [] _ _ _)
  refine wp_ret ?_
  exact end_one S6 rfl (res_cell S6 0 4 rfl strct_ival shp_iv)
set_option maxHeartbeats 400000 in
theorem outward_ns (w : World) (b c : Nat) (hb : b < 18446744073709551616) (hc : c < 18446744073709551616) (h : plc b = none) (q : Int) (h' : plc c = some q) :
    Calls Tryz.prog 24 #[(.float .f64 b), (.float .f64 c)] w (Gives (IVN (dnP (plc 18442240474082181120)) (upP (plc c))) w) := by
  refine calls_sta (sl := [(0, (Is (.float .f64 b))), (1, (Is (.float .f64 c)))]) Tryz.func24 rfl Tryz.ntmps24 (by simp) (args_cons rfl (is_has _) (args_cons rfl (is_has _) args_nil)) ?_
  intro a0 S0
  refine wp_stmt_seq [.new (.box 24 (Is (.agg #[.float .f64 0, .float .f64 0])))] [.inl 0] [.inr 0, .inr 1] follows S0 rfl (by kernel_rfl) ?_ ?_
  · refine ⟨trivial, ?_⟩
    · exact owe_new rfl wA rfl rfl (fun ρ w => alloc_ival ρ _ w)
  intro B1 a1 W1 (S1 : Sta w 16 [(4, (.box 24 (Is (.agg #[.float .f64 0, .float .f64 0]))))] [(0, Is (.float .f64 b)), (1, Is (.float .f64 c))] _ _ _)
  refine wp_seq ?_
  refine wp_stmt_seq [.val (Is (.float .f64 b)), kT] [.inr 0] [.inl 1, .inr 0, .inr 1] follows S1 rfl (by kernel_rfl) ?_ ?_
  · refine ⟨⟨trivial, ?_⟩, ?_⟩
    · exact mS 0 0
    · exact cc1 wA (qO 0 5 rfl) (fresh_is _) (pur1 (isnan_t h))
  intro B2 a2 W2 (S2 : Sta w 16 [(4, (.box 24 (Is (.agg #[.float .f64 0, .float .f64 0]))))] [(6, bT), (0, Is (.float .f64 b)), (1, Is (.float .f64 c))] _ _ _)
  refine wp_cond_true (S2.bool 0 6 rfl) ?_
  refine wp_stmt [.val (Is (.float .f64 18442240474082181120)), .val (Is (.float .f64 18442240474082181120))] [.inr 0] [.inl 1, .inr 2] follows S2 rfl (by kernel_rfl) ?_ ?_
  · refine ⟨⟨trivial, ?_⟩, ?_⟩
    · exact cc1 wA (opnd_const _) (fresh_is _) (pur1 (inf_p (-1) (Or.inr rfl)))
    · exact mO 0 7
  intro B3 a3 W3 (S3 : Sta w 16 [(4, (.box 24 (Is (.agg #[.float .f64 0, .float .f64 0]))))] [(0, Is (.float .f64 18442240474082181120)), (1, Is (.float .f64 c))] _ _ _)
  refine thenN ?_
  refine wp_seq ?_
  refine wp_stmt_seq [.val (Is (.float .f64 c)), kF] [.inr 0] [.inl 1, .inr 0, .inr 1] follows S3 rfl (by kernel_rfl) ?_ ?_
  · refine ⟨⟨trivial, ?_⟩, ?_⟩
    · exact mS 1 1
    · exact cc1 wA (qO 0 8 rfl) (fresh_is _) (pur1 (isnan_f h'))
  intro B4 a4 W4 (S4 : Sta w 16 [(4, (.box 24 (Is (.agg #[.float .f64 0, .float .f64 0]))))] [(9, bF), (0, Is (.float .f64 18442240474082181120)), (1, Is (.float .f64 c))] _ _ _)
  refine wp_cond_false (S4.bool 0 9 rfl) ?_
  refine wp_skip ?_
  refine thenN ?_
  refine wp_stmt_seq [.val (Is (.float .f64 18442240474082181120)), .val (FL (dnP (plc 18442240474082181120))), .val (Is (.float .f64 c)), .val (FL (upP (plc c))), .val (SF [(FL (dnP (plc 18442240474082181120))), (FL (upP (plc c)))]), .put (.inl 4) (.box 24 (SF [(FL (dnP (plc 18442240474082181120))), (FL (upP (plc c)))]))] [.inr 0] [] follows S4 rfl (by kernel_rfl) ?_ ?_
  · refine ⟨⟨⟨⟨⟨⟨trivial, ?_⟩, ?_⟩, ?_⟩, ?_⟩, ?_⟩, ?_⟩
    · exact mS 1 0
    · exact cc1 wA (qO 0 11 rfl) (fresh_fl _) (purF1 (down_f 18442240474082181120 (by decide)))
    · exact mS 2 1
    · exact cc1 wA (qO 2 13 rfl) (fresh_fl _) (purF1 (up_f c hc))
    · exact owe_build_iv rfl wA rfl (oO 1 12) (oO 3 14) flt_fl flt_fl rfl
    · exact owe_set rfl wA rfl (k := 0) rfl (by kernel_rfl) (oO 4 15) (stores_of strct_ival shp_i0 shp_iv) rfl
  intro B5 a5 W5 (S5 : Sta w 16 [(4, (.box 24 (SF [(FL (dnP (plc 18442240474082181120))), (FL (upP (plc c)))])))] [] _ _ _)
  refine wp_ret ?_
  exact end_one S5 rfl (res_cell S5 0 4 rfl strct_ival shp_iv)
set_option maxHeartbeats 400000 in
theorem outward_sn (w : World) (b c : Nat) (hb : b < 18446744073709551616) (hc : c < 18446744073709551616) (p : Int) (h : plc b = some p) (h' : plc c = none) :
    Calls Tryz.prog 24 #[(.float .f64 b), (.float .f64 c)] w (Gives (IVN (dnP (plc b)) (upP (plc 9218868437227405312))) w) := by
  refine calls_sta (sl := [(0, (Is (.float .f64 b))), (1, (Is (.float .f64 c)))]) Tryz.func24 rfl Tryz.ntmps24 (by simp) (args_cons rfl (is_has _) (args_cons rfl (is_has _) args_nil)) ?_
  intro a0 S0
  refine wp_stmt_seq [.new (.box 24 (Is (.agg #[.float .f64 0, .float .f64 0])))] [.inl 0] [.inr 0, .inr 1] follows S0 rfl (by kernel_rfl) ?_ ?_
  · refine ⟨trivial, ?_⟩
    · exact owe_new rfl wA rfl rfl (fun ρ w => alloc_ival ρ _ w)
  intro B1 a1 W1 (S1 : Sta w 16 [(4, (.box 24 (Is (.agg #[.float .f64 0, .float .f64 0]))))] [(0, Is (.float .f64 b)), (1, Is (.float .f64 c))] _ _ _)
  refine wp_seq ?_
  refine wp_stmt_seq [.val (Is (.float .f64 b)), kF] [.inr 0] [.inl 1, .inr 0, .inr 1] follows S1 rfl (by kernel_rfl) ?_ ?_
  · refine ⟨⟨trivial, ?_⟩, ?_⟩
    · exact mS 0 0
    · exact cc1 wA (qO 0 5 rfl) (fresh_is _) (pur1 (isnan_f h))
  intro B2 a2 W2 (S2 : Sta w 16 [(4, (.box 24 (Is (.agg #[.float .f64 0, .float .f64 0]))))] [(6, bF), (0, Is (.float .f64 b)), (1, Is (.float .f64 c))] _ _ _)
  refine wp_cond_false (S2.bool 0 6 rfl) ?_
  refine wp_skip ?_
  refine thenN ?_
  refine wp_seq ?_
  refine wp_stmt_seq [.val (Is (.float .f64 c)), kT] [.inr 0] [.inl 1, .inr 1, .inr 2] follows S2 rfl (by kernel_rfl) ?_ ?_
  · refine ⟨⟨trivial, ?_⟩, ?_⟩
    · exact mS 2 1
    · exact cc1 wA (qO 0 8 rfl) (fresh_is _) (pur1 (isnan_t h'))
  intro B3 a3 W3 (S3 : Sta w 16 [(4, (.box 24 (Is (.agg #[.float .f64 0, .float .f64 0]))))] [(9, bT), (0, Is (.float .f64 b)), (1, Is (.float .f64 c))] _ _ _)
  refine wp_cond_true (S3.bool 0 9 rfl) ?_
  refine wp_stmt [.val (Is (.float .f64 9218868437227405312)), .val (Is (.float .f64 9218868437227405312))] [.inr 0] [.inl 1, .inr 1] follows S3 rfl (by kernel_rfl) ?_ ?_
  · refine ⟨⟨trivial, ?_⟩, ?_⟩
    · exact cc1 wA (opnd_const _) (fresh_is _) (pur1 (inf_p 1 (Or.inl rfl)))
    · exact mO 0 10
  intro B4 a4 W4 (S4 : Sta w 16 [(4, (.box 24 (Is (.agg #[.float .f64 0, .float .f64 0]))))] [(1, Is (.float .f64 9218868437227405312)), (0, Is (.float .f64 b))] _ _ _)
  refine thenN ?_
  refine wp_stmt_seq [.val (Is (.float .f64 b)), .val (FL (dnP (plc b))), .val (Is (.float .f64 9218868437227405312)), .val (FL (upP (plc 9218868437227405312))), .val (SF [(FL (dnP (plc b))), (FL (upP (plc 9218868437227405312)))]), .put (.inl 4) (.box 24 (SF [(FL (dnP (plc b))), (FL (upP (plc 9218868437227405312)))]))] [.inr 0] [] follows S4 rfl (by kernel_rfl) ?_ ?_
  · refine ⟨⟨⟨⟨⟨⟨trivial, ?_⟩, ?_⟩, ?_⟩, ?_⟩, ?_⟩, ?_⟩
    · exact mS 1 0
    · exact cc1 wA (qO 0 11 rfl) (fresh_fl _) (purF1 (down_f b hb))
    · exact mS 0 1
    · exact cc1 wA (qO 2 13 rfl) (fresh_fl _) (purF1 (up_f 9218868437227405312 (by decide)))
    · exact owe_build_iv rfl wA rfl (oO 1 12) (oO 3 14) flt_fl flt_fl rfl
    · exact owe_set rfl wA rfl (k := 0) rfl (by kernel_rfl) (oO 4 15) (stores_of strct_ival shp_i0 shp_iv) rfl
  intro B5 a5 W5 (S5 : Sta w 16 [(4, (.box 24 (SF [(FL (dnP (plc b))), (FL (upP (plc 9218868437227405312)))])))] [] _ _ _)
  refine wp_ret ?_
  exact end_one S5 rfl (res_cell S5 0 4 rfl strct_ival shp_iv)
set_option maxHeartbeats 400000 in
theorem outward_ss (w : World) (b c : Nat) (hb : b < 18446744073709551616) (hc : c < 18446744073709551616) (p : Int) (h : plc b = some p) (q : Int) (h' : plc c = some q) :
    Calls Tryz.prog 24 #[(.float .f64 b), (.float .f64 c)] w (Gives (IVN (dnP (plc b)) (upP (plc c))) w) := by
  refine calls_sta (sl := [(0, (Is (.float .f64 b))), (1, (Is (.float .f64 c)))]) Tryz.func24 rfl Tryz.ntmps24 (by simp) (args_cons rfl (is_has _) (args_cons rfl (is_has _) args_nil)) ?_
  intro a0 S0
  refine wp_stmt_seq [.new (.box 24 (Is (.agg #[.float .f64 0, .float .f64 0])))] [.inl 0] [.inr 0, .inr 1] follows S0 rfl (by kernel_rfl) ?_ ?_
  · refine ⟨trivial, ?_⟩
    · exact owe_new rfl wA rfl rfl (fun ρ w => alloc_ival ρ _ w)
  intro B1 a1 W1 (S1 : Sta w 16 [(4, (.box 24 (Is (.agg #[.float .f64 0, .float .f64 0]))))] [(0, Is (.float .f64 b)), (1, Is (.float .f64 c))] _ _ _)
  refine wp_seq ?_
  refine wp_stmt_seq [.val (Is (.float .f64 b)), kF] [.inr 0] [.inl 1, .inr 0, .inr 1] follows S1 rfl (by kernel_rfl) ?_ ?_
  · refine ⟨⟨trivial, ?_⟩, ?_⟩
    · exact mS 0 0
    · exact cc1 wA (qO 0 5 rfl) (fresh_is _) (pur1 (isnan_f h))
  intro B2 a2 W2 (S2 : Sta w 16 [(4, (.box 24 (Is (.agg #[.float .f64 0, .float .f64 0]))))] [(6, bF), (0, Is (.float .f64 b)), (1, Is (.float .f64 c))] _ _ _)
  refine wp_cond_false (S2.bool 0 6 rfl) ?_
  refine wp_skip ?_
  refine thenN ?_
  refine wp_seq ?_
  refine wp_stmt_seq [.val (Is (.float .f64 c)), kF] [.inr 0] [.inl 1, .inr 1, .inr 2] follows S2 rfl (by kernel_rfl) ?_ ?_
  · refine ⟨⟨trivial, ?_⟩, ?_⟩
    · exact mS 2 1
    · exact cc1 wA (qO 0 8 rfl) (fresh_is _) (pur1 (isnan_f h'))
  intro B3 a3 W3 (S3 : Sta w 16 [(4, (.box 24 (Is (.agg #[.float .f64 0, .float .f64 0]))))] [(9, bF), (0, Is (.float .f64 b)), (1, Is (.float .f64 c))] _ _ _)
  refine wp_cond_false (S3.bool 0 9 rfl) ?_
  refine wp_skip ?_
  refine thenN ?_
  refine wp_stmt_seq [.val (Is (.float .f64 b)), .val (FL (dnP (plc b))), .val (Is (.float .f64 c)), .val (FL (upP (plc c))), .val (SF [(FL (dnP (plc b))), (FL (upP (plc c)))]), .put (.inl 4) (.box 24 (SF [(FL (dnP (plc b))), (FL (upP (plc c)))]))] [.inr 0] [] follows S3 rfl (by kernel_rfl) ?_ ?_
  · refine ⟨⟨⟨⟨⟨⟨trivial, ?_⟩, ?_⟩, ?_⟩, ?_⟩, ?_⟩, ?_⟩
    · exact mS 1 0
    · exact cc1 wA (qO 0 11 rfl) (fresh_fl _) (purF1 (down_f b hb))
    · exact mS 2 1
    · exact cc1 wA (qO 2 13 rfl) (fresh_fl _) (purF1 (up_f c hc))
    · exact owe_build_iv rfl wA rfl (oO 1 12) (oO 3 14) flt_fl flt_fl rfl
    · exact owe_set rfl wA rfl (k := 0) rfl (by kernel_rfl) (oO 4 15) (stores_of strct_ival shp_i0 shp_iv) rfl
  intro B4 a4 W4 (S4 : Sta w 16 [(4, (.box 24 (SF [(FL (dnP (plc b))), (FL (upP (plc c)))])))] [] _ _ _)
  refine wp_ret ?_
  exact end_one S4 rfl (res_cell S4 0 4 rfl strct_ival shp_iv)

theorem outward_w (w : World) (b c : Nat) (hb : b < 18446744073709551616) (hc : c < 18446744073709551616) : Calls Tryz.prog 24 #[.float .f64 b, .float .f64 c] w (Gives (IVN (loP (plc b)) (hiP (plc c))) w) := by
  cases h : plc b with
  | none =>
    cases h' : plc c with
    | none => exact outward_nn w b c hb hc h h'
    | some q => have := outward_ns w b c hb hc h q h'; rw [h'] at this; exact this
  | some p =>
    cases h' : plc c with
    | none => have := outward_sn w b c hb hc p h h'; rw [h] at this; exact this
    | some q => have := outward_ss w b c hb hc p h q h'; rw [h, h'] at this; exact this
theorem h_outward {p q : Option Int} : ∀ w u v, FL p u w → FL q v w → Calls Tryz.prog 24 #[u, v] w (Gives (IVN (loP p) (hiP q)) w) := fl2 (fun w b c hb hp hc hq => by rw [← hp, ← hq]; exact outward_w w b c hb hc)
set_option maxHeartbeats 400000 in
theorem add_tt (w : World) (x y x1 y1 : Nat) (hx : x < 18446744073709551616) (hy : y < 18446744073709551616) (hx1 : x1 < 18446744073709551616) (hy1 : y1 < 18446744073709551616) (h : okI x y = true) (h' : okI x1 y1 = true) :
    Calls Tryz.prog 8 #[(.agg #[.float .f64 x, .float .f64 y]), (.agg #[.float .f64 x1, .float .f64 y1])] w (Gives (TWO (IVN (loP (arP .add x x1)) (hiP (arP .add y y1))) (IS (.int .i64 0))) w) := by
  refine calls_sta (sl := [(0, (SF [(Is (.float .f64 x)), (Is (.float .f64 y))])), (1, (SF [(Is (.float .f64 x1)), (Is (.float .f64 y1))]))]) Tryz.func8 rfl Tryz.ntmps8 (by simp) (args_cons rfl (ix_has) (args_cons rfl (ix_has) args_nil)) ?_
  intro a0 S0
  refine wp_stmt_seq [.new (.box 24 (SF [(Is (.float .f64 x)), (Is (.float .f64 y))])), .new (.box 24 (SF [(Is (.float .f64 x1)), (Is (.float .f64 y1))])), .new (.box 24 (Is (.agg #[.float .f64 0, .float .f64 0]))), .val (iV 0)] [.inl 0, .inl 1, .inl 2] [] follows S0 rfl (by kernel_rfl) ?_ ?_
  · refine ⟨⟨⟨⟨trivial, ?_⟩, ?_⟩, ?_⟩, ?_⟩
    · exact owe_box rfl wA rfl (oS 0 0) rfl (fun ρ w h => box_ival shp_iv ρ _ _ w h)
    · exact owe_box rfl wA rfl (oS 1 1) rfl (fun ρ w h => box_ival shp_iv ρ _ _ w h)
    · exact owe_new rfl wA rfl rfl (fun ρ w => alloc_ival ρ _ w)
    · exact mC
  intro B1 a1 W1 (S1 : Sta w 25 [(2, (.box 24 (SF [(Is (.float .f64 x)), (Is (.float .f64 y))]))), (3, (.box 24 (SF [(Is (.float .f64 x1)), (Is (.float .f64 y1))]))), (4, (.box 24 (Is (.agg #[.float .f64 0, .float .f64 0]))))] [] _ _ _)
  refine wp_seq ?_
  refine wp_stmt_seq [.val (SF [(Is (.float .f64 x)), (Is (.float .f64 y))]), .val (SF [(Is (.float .f64 x1)), (Is (.float .f64 y1))]), .val (iV 0), .val (iV 0)] [.inr 0, .inr 1, .inr 2] [.inl 3] follows S1 rfl (by kernel_rfl) ?_ ?_
  · refine ⟨⟨⟨⟨trivial, ?_⟩, ?_⟩, ?_⟩, ?_⟩
    · exact lod 0 wA (loads_of strct_ival shp_iv)
    · exact lod 1 wA (loads_of strct_ival shp_iv)
    · exact cc2 wA (qO 0 7 rfl) (qO 1 8 rfl) (fresh_is _) (ix2 (fun w => ivalid2_tt w x y x1 y1 hx hy hx1 hy1 h h'))
    · exact mO 2 9
  intro B2 a2 W2 (S2 : Sta w 25 [(2, (.box 24 (SF [(Is (.float .f64 x)), (Is (.float .f64 y))]))), (3, (.box 24 (SF [(Is (.float .f64 x1)), (Is (.float .f64 y1))]))), (4, (.box 24 (Is (.agg #[.float .f64 0, .float .f64 0]))))] [(6, iV 0)] _ _ _)
  refine wp_stmt_seq [.val (iV 0), kF] [.inr 0, .inr 1, .inr 2] [.inl 1, .inr 0] follows S2 rfl (by kernel_rfl) ?_ ?_
  · refine ⟨⟨trivial, ?_⟩, ?_⟩
    · exact mS 0 6
    · exact b_neq_errno_f wA (oO 0 10) (opnd_const _) (h := by decide)
  intro B3 a3 W3 (S3 : Sta w 25 [(2, (.box 24 (SF [(Is (.float .f64 x)), (Is (.float .f64 y))]))), (3, (.box 24 (SF [(Is (.float .f64 x1)), (Is (.float .f64 y1))]))), (4, (.box 24 (Is (.agg #[.float .f64 0, .float .f64 0]))))] [(11, bF), (6, iV 0)] _ _ _)
  refine wp_cond_false (S3.bool 0 11 rfl) ?_
  refine wp_skip ?_
  refine thenN ?_
  refine wp_stmt_seq [.val (Part a3 2 0), .val (Is (.float .f64 x)), .val (Part a3 3 0), .val (Is (.float .f64 x1)), .val (FL (arP .add x x1)), .val (Part a3 2 1), .val (Is (.float .f64 y)), .val (Part a3 3 1), .val (Is (.float .f64 y1)), .val (FL (arP .add y y1)), .val (SF [(FL (loP (arP .add x x1))), (FL (hiP (arP .add y y1)))]), .put (.inl 4) (.box 24 (SF [(FL (loP (arP .add x x1))), (FL (hiP (arP .add y y1)))])), .val (iV 0)] [.inr 0, .inr 1, .inr 2] [.inl 12] follows S3 rfl (by kernel_rfl) ?_ ?_
  · repeat' refine And.intro ?_ ?_
    · trivial
    · exact owe_part rfl wA rfl (k := 0) rfl (by kernel_rfl) rfl (fun ρ w b h => part_ival0 ρ _ _ w b 0 h)
    · exact owe_pload rfl wA rfl (oO 0 14) (k := 0) rfl (by kernel_rfl) rfl (fun ρ w b u h1 h2 h3 => ploadI rfl load1_f64 ρ _ _ w b u h1 h2 h3)
    · exact owe_part rfl wA rfl (k := 1) rfl (by kernel_rfl) rfl (fun ρ w b h => part_ival0 ρ _ _ w b 0 h)
    · exact owe_pload rfl wA rfl (oO 2 16) (k := 1) rfl (by kernel_rfl) rfl (fun ρ w b u h1 h2 h3 => ploadI rfl load1_f64 ρ _ _ w b u h1 h2 h3)
    · exact owe_farith (by simp) rfl wA rfl (oO 1 15) (oO 3 17) rfl
    · exact owe_part rfl wA rfl (k := 0) rfl (by kernel_rfl) rfl (fun ρ w b h => part_ival1 ρ _ _ w b 0 h)
    · exact owe_pload rfl wA rfl (oO 5 19) (k := 0) rfl (by kernel_rfl) rfl (fun ρ w b u h1 h2 h3 => ploadI rfl load1_f64 ρ _ _ w b u h1 h2 h3)
    · exact owe_part rfl wA rfl (k := 1) rfl (by kernel_rfl) rfl (fun ρ w b h => part_ival1 ρ _ _ w b 0 h)
    · exact owe_pload rfl wA rfl (oO 7 21) (k := 1) rfl (by kernel_rfl) rfl (fun ρ w b u h1 h2 h3 => ploadI rfl load1_f64 ρ _ _ w b u h1 h2 h3)
    · exact owe_farith (by simp) rfl wA rfl (oO 6 20) (oO 8 22) rfl
    · exact cc2 wA (qO 4 18 rfl) (qO 9 23 rfl) (fresh_iv _ _) h_outward
    · exact owe_set rfl wA rfl (k := 2) rfl (by kernel_rfl) (oO 10 24) (stores_of strct_ival shp_i0 shp_iv) rfl
    · exact mC
  intro B4 a4 W4 (S4 : Sta w 25 [(2, (.box 24 (SF [(Is (.float .f64 x)), (Is (.float .f64 y))]))), (3, (.box 24 (SF [(Is (.float .f64 x1)), (Is (.float .f64 y1))]))), (4, (.box 24 (SF [(FL (loP (arP .add x x1))), (FL (hiP (arP .add y y1)))])))] [(5, iV 0)] _ _ _)
  refine wp_ret ?_
  exact end_two S4 rfl (res_cell S4 2 4 rfl strct_ival shp_iv) (res_tmp S4 0 5 rfl)
set_option maxHeartbeats 400000 in
theorem sub_tt (w : World) (x y x1 y1 : Nat) (hx : x < 18446744073709551616) (hy : y < 18446744073709551616) (hx1 : x1 < 18446744073709551616) (hy1 : y1 < 18446744073709551616) (h : okI x y = true) (h' : okI x1 y1 = true) :
    Calls Tryz.prog 9 #[(.agg #[.float .f64 x, .float .f64 y]), (.agg #[.float .f64 x1, .float .f64 y1])] w (Gives (TWO (IVN (loP (arP .sub x y1)) (hiP (arP .sub y x1))) (IS (.int .i64 0))) w) := by
  refine calls_sta (sl := [(0, (SF [(Is (.float .f64 x)), (Is (.float .f64 y))])), (1, (SF [(Is (.float .f64 x1)), (Is (.float .f64 y1))]))]) Tryz.func9 rfl Tryz.ntmps9 (by simp) (args_cons rfl (ix_has) (args_cons rfl (ix_has) args_nil)) ?_
  intro a0 S0
  refine wp_stmt_seq [.new (.box 24 (SF [(Is (.float .f64 x)), (Is (.float .f64 y))])), .new (.box 24 (SF [(Is (.float .f64 x1)), (Is (.float .f64 y1))])), .new (.box 24 (Is (.agg #[.float .f64 0, .float .f64 0]))), .val (iV 0)] [.inl 0, .inl 1, .inl 2] [] follows S0 rfl (by kernel_rfl) ?_ ?_
  · refine ⟨⟨⟨⟨trivial, ?_⟩, ?_⟩, ?_⟩, ?_⟩
    · exact owe_box rfl wA rfl (oS 0 0) rfl (fun ρ w h => box_ival shp_iv ρ _ _ w h)
    · exact owe_box rfl wA rfl (oS 1 1) rfl (fun ρ w h => box_ival shp_iv ρ _ _ w h)
    · exact owe_new rfl wA rfl rfl (fun ρ w => alloc_ival ρ _ w)
    · exact mC
  intro B1 a1 W1 (S1 : Sta w 25 [(2, (.box 24 (SF [(Is (.float .f64 x)), (Is (.float .f64 y))]))), (3, (.box 24 (SF [(Is (.float .f64 x1)), (Is (.float .f64 y1))]))), (4, (.box 24 (Is (.agg #[.float .f64 0, .float .f64 0]))))] [] _ _ _)
  refine wp_seq ?_
  refine wp_stmt_seq [.val (SF [(Is (.float .f64 x)), (Is (.float .f64 y))]), .val (SF [(Is (.float .f64 x1)), (Is (.float .f64 y1))]), .val (iV 0), .val (iV 0)] [.inr 0, .inr 1, .inr 2] [.inl 3] follows S1 rfl (by kernel_rfl) ?_ ?_
  · refine ⟨⟨⟨⟨trivial, ?_⟩, ?_⟩, ?_⟩, ?_⟩
    · exact lod 0 wA (loads_of strct_ival shp_iv)
    · exact lod 1 wA (loads_of strct_ival shp_iv)
    · exact cc2 wA (qO 0 7 rfl) (qO 1 8 rfl) (fresh_is _) (ix2 (fun w => ivalid2_tt w x y x1 y1 hx hy hx1 hy1 h h'))
    · exact mO 2 9
  intro B2 a2 W2 (S2 : Sta w 25 [(2, (.box 24 (SF [(Is (.float .f64 x)), (Is (.float .f64 y))]))), (3, (.box 24 (SF [(Is (.float .f64 x1)), (Is (.float .f64 y1))]))), (4, (.box 24 (Is (.agg #[.float .f64 0, .float .f64 0]))))] [(6, iV 0)] _ _ _)
  refine wp_stmt_seq [.val (iV 0), kF] [.inr 0, .inr 1, .inr 2] [.inl 1, .inr 0] follows S2 rfl (by kernel_rfl) ?_ ?_
  · refine ⟨⟨trivial, ?_⟩, ?_⟩
    · exact mS 0 6
    · exact b_neq_errno_f wA (oO 0 10) (opnd_const _) (h := by decide)
  intro B3 a3 W3 (S3 : Sta w 25 [(2, (.box 24 (SF [(Is (.float .f64 x)), (Is (.float .f64 y))]))), (3, (.box 24 (SF [(Is (.float .f64 x1)), (Is (.float .f64 y1))]))), (4, (.box 24 (Is (.agg #[.float .f64 0, .float .f64 0]))))] [(11, bF), (6, iV 0)] _ _ _)
  refine wp_cond_false (S3.bool 0 11 rfl) ?_
  refine wp_skip ?_
  refine thenN ?_
  refine wp_stmt_seq [.val (Part a3 2 0), .val (Is (.float .f64 x)), .val (Part a3 3 1), .val (Is (.float .f64 y1)), .val (FL (arP .sub x y1)), .val (Part a3 2 1), .val (Is (.float .f64 y)), .val (Part a3 3 0), .val (Is (.float .f64 x1)), .val (FL (arP .sub y x1)), .val (SF [(FL (loP (arP .sub x y1))), (FL (hiP (arP .sub y x1)))]), .put (.inl 4) (.box 24 (SF [(FL (loP (arP .sub x y1))), (FL (hiP (arP .sub y x1)))])), .val (iV 0)] [.inr 0, .inr 1, .inr 2] [.inl 12] follows S3 rfl (by kernel_rfl) ?_ ?_
  · repeat' refine And.intro ?_ ?_
    · trivial
    · exact owe_part rfl wA rfl (k := 0) rfl (by kernel_rfl) rfl (fun ρ w b h => part_ival0 ρ _ _ w b 0 h)
    · exact owe_pload rfl wA rfl (oO 0 14) (k := 0) rfl (by kernel_rfl) rfl (fun ρ w b u h1 h2 h3 => ploadI rfl load1_f64 ρ _ _ w b u h1 h2 h3)
    · exact owe_part rfl wA rfl (k := 1) rfl (by kernel_rfl) rfl (fun ρ w b h => part_ival1 ρ _ _ w b 0 h)
    · exact owe_pload rfl wA rfl (oO 2 16) (k := 1) rfl (by kernel_rfl) rfl (fun ρ w b u h1 h2 h3 => ploadI rfl load1_f64 ρ _ _ w b u h1 h2 h3)
    · exact owe_farith (by simp) rfl wA rfl (oO 1 15) (oO 3 17) rfl
    · exact owe_part rfl wA rfl (k := 0) rfl (by kernel_rfl) rfl (fun ρ w b h => part_ival1 ρ _ _ w b 0 h)
    · exact owe_pload rfl wA rfl (oO 5 19) (k := 0) rfl (by kernel_rfl) rfl (fun ρ w b u h1 h2 h3 => ploadI rfl load1_f64 ρ _ _ w b u h1 h2 h3)
    · exact owe_part rfl wA rfl (k := 1) rfl (by kernel_rfl) rfl (fun ρ w b h => part_ival0 ρ _ _ w b 0 h)
    · exact owe_pload rfl wA rfl (oO 7 21) (k := 1) rfl (by kernel_rfl) rfl (fun ρ w b u h1 h2 h3 => ploadI rfl load1_f64 ρ _ _ w b u h1 h2 h3)
    · exact owe_farith (by simp) rfl wA rfl (oO 6 20) (oO 8 22) rfl
    · exact cc2 wA (qO 4 18 rfl) (qO 9 23 rfl) (fresh_iv _ _) h_outward
    · exact owe_set rfl wA rfl (k := 2) rfl (by kernel_rfl) (oO 10 24) (stores_of strct_ival shp_i0 shp_iv) rfl
    · exact mC
  intro B4 a4 W4 (S4 : Sta w 25 [(2, (.box 24 (SF [(Is (.float .f64 x)), (Is (.float .f64 y))]))), (3, (.box 24 (SF [(Is (.float .f64 x1)), (Is (.float .f64 y1))]))), (4, (.box 24 (SF [(FL (loP (arP .sub x y1))), (FL (hiP (arP .sub y x1)))])))] [(5, iV 0)] _ _ _)
  refine wp_ret ?_
  exact end_two S4 rfl (res_cell S4 2 4 rfl strct_ival shp_iv) (res_tmp S4 0 5 rfl)
end Go.Proofs.YtgalppimdmjdcabGreat
