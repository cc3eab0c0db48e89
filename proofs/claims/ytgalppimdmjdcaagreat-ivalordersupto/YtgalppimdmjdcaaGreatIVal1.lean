/-
  Layer 9: Valid, Add, Sub, and what the document says of them.
-/
import Derived.Test.YtgalppimdmjdcaaGreatFlC
namespace Go.Proofs.YtgalppimdmjdcaaGreat
open Go Go.RowKit Nt
set_option linter.unusedSimpArgs false
set_option linter.unusedVariables false
set_option maxRecDepth 20000

/-- May an interval be? -/
def okI (x y : Nat) : Bool := ordP (plc x) (plc y) == some .lt || ordP (plc x) (plc y) == some .eq
set_option maxHeartbeats 400000 in
theorem ivalid_t (w : World) (x y : Nat) (hx : x < 18446744073709551616) (hy : y < 18446744073709551616) (h : okI x y = true) :
    Calls Tryz.prog 29 #[(.agg #[.float .f64 x, .float .f64 y])] w (Gives (IS (.int .i64 0)) w) := by
  refine calls_sta (sl := [(0, (SF [(Is (.float .f64 x)), (Is (.float .f64 y))]))]) Tryz.func29 rfl Tryz.ntmps29 (by simp) (args_cons rfl (ix_has) args_nil) ?_
  intro a0 S0
  refine wp_stmt_seq [.new (.box 38 (SF [(Is (.float .f64 x)), (Is (.float .f64 y))])), .val (iV 0)] [.inl 0] [] follows S0 rfl (by kernel_rfl) ?_ ?_
  · refine ⟨⟨trivial, ?_⟩, ?_⟩
    · exact owe_box rfl wA rfl (oS 0 0) rfl (fun ρ w h => box_ival shp_iv ρ _ _ w h)
    · exact mC
  intro B1 a1 W1 (S1 : Sta w 8 [(1, (.box 38 (SF [(Is (.float .f64 x)), (Is (.float .f64 y))])))] [] _ _ _)
  refine wp_seq ?_
  refine wp_stmt_seq [.val (Part a1 1 0), .val (Is (.float .f64 x)), .val (Part a1 1 1), .val (Is (.float .f64 y)), kT] [.inr 0] [.inl 4] follows S1 rfl (by kernel_rfl) ?_ ?_
  · refine ⟨⟨⟨⟨⟨trivial, ?_⟩, ?_⟩, ?_⟩, ?_⟩, ?_⟩
    · exact owe_part rfl wA rfl (k := 0) rfl (by kernel_rfl) rfl (fun ρ w b h => part_ival0 ρ _ _ w b 0 h)
    · exact owe_pload rfl wA rfl (oO 0 3) (k := 0) rfl (by kernel_rfl) rfl (fun ρ w b u h1 h2 h3 => ploadI rfl load1_f64 ρ _ _ w b u h1 h2 h3)
    · exact owe_part rfl wA rfl (k := 0) rfl (by kernel_rfl) rfl (fun ρ w b h => part_ival1 ρ _ _ w b 0 h)
    · exact owe_pload rfl wA rfl (oO 2 5) (k := 0) rfl (by kernel_rfl) rfl (fun ρ w b u h1 h2 h3 => ploadI rfl load1_f64 ρ _ _ w b u h1 h2 h3)
    · exact owe_fcmp rfl wA rfl ((oO 1 4).imp (fl_is hx)) ((oO 3 6).imp (fl_is hy)) h rfl
  intro B2 a2 W2 (S2 : Sta w 8 [(1, (.box 38 (SF [(Is (.float .f64 x)), (Is (.float .f64 y))])))] [(7, bT)] _ _ _)
  refine wp_cond_true (S2.bool 0 7 rfl) ?_
  refine wp_stmt_seq [.val (iV 0)] [.inr 0] [.inl 0] follows S2 rfl (by kernel_rfl) ?_ ?_
  · refine ⟨trivial, ?_⟩
    · exact mC
  intro B3 a3 W3 (S3 : Sta w 8 [(1, (.box 38 (SF [(Is (.float .f64 x)), (Is (.float .f64 y))])))] [(2, iV 0)] _ _ _)
  refine wp_ret ?_
  refine thenR ?_
  exact end_one S3 rfl (res_tmp S3 0 2 rfl)
set_option maxHeartbeats 400000 in
theorem rvalid_t (w : World) (x y : Nat) (hx : x < 18446744073709551616) (hy : y < 18446744073709551616) (h : okI x y = true) :
    Calls Tryz.prog 19 #[(.agg #[.float .f64 x, .float .f64 y])] w (Gives (IS (.bool true)) w) := by
  refine calls_sta (sl := [(0, (SF [(Is (.float .f64 x)), (Is (.float .f64 y))]))]) Tryz.func19 rfl Tryz.ntmps19 (by simp) (args_cons rfl (ix_has) args_nil) ?_
  intro a0 S0
  refine wp_stmt_seq [.new (.box 38 (SF [(Is (.float .f64 x)), (Is (.float .f64 y))])), kF] [.inl 0] [] follows S0 rfl (by kernel_rfl) ?_ ?_
  · refine ⟨⟨trivial, ?_⟩, ?_⟩
    · exact owe_box rfl wA rfl (oS 0 0) rfl (fun ρ w h => box_ival shp_iv ρ _ _ w h)
    · exact mC
  intro B1 a1 W1 (S1 : Sta w 8 [(1, (.box 38 (SF [(Is (.float .f64 x)), (Is (.float .f64 y))])))] [] _ _ _)
  refine wp_stmt_seq [.val (Part a1 1 0), .val (Is (.float .f64 x)), .val (Part a1 1 1), .val (Is (.float .f64 y)), kT, kT] [.inr 0] [.inl 5] follows S1 rfl (by kernel_rfl) ?_ ?_
  · refine ⟨⟨⟨⟨⟨⟨trivial, ?_⟩, ?_⟩, ?_⟩, ?_⟩, ?_⟩, ?_⟩
    · exact owe_part rfl wA rfl (k := 0) rfl (by kernel_rfl) rfl (fun ρ w b h => part_ival0 ρ _ _ w b 0 h)
    · exact owe_pload rfl wA rfl (oO 0 3) (k := 0) rfl (by kernel_rfl) rfl (fun ρ w b u h1 h2 h3 => ploadI rfl load1_f64 ρ _ _ w b u h1 h2 h3)
    · exact owe_part rfl wA rfl (k := 0) rfl (by kernel_rfl) rfl (fun ρ w b h => part_ival1 ρ _ _ w b 0 h)
    · exact owe_pload rfl wA rfl (oO 2 5) (k := 0) rfl (by kernel_rfl) rfl (fun ρ w b u h1 h2 h3 => ploadI rfl load1_f64 ρ _ _ w b u h1 h2 h3)
    · exact owe_fcmp rfl wA rfl ((oO 1 4).imp (fl_is hx)) ((oO 3 6).imp (fl_is hy)) h rfl
    · exact mO 4 7
  intro B2 a2 W2 (S2 : Sta w 8 [(1, (.box 38 (SF [(Is (.float .f64 x)), (Is (.float .f64 y))])))] [(2, bT)] _ _ _)
  refine wp_ret ?_
  exact end_one S2 rfl (res_tmp S2 0 2 rfl)
set_option maxHeartbeats 400000 in
theorem ivalid_f (w : World) (x y : Nat) (hx : x < 18446744073709551616) (hy : y < 18446744073709551616) (h : okI x y = false) :
    Calls Tryz.prog 29 #[(.agg #[.float .f64 x, .float .f64 y])] w (Gives (IS (.int .i64 90)) w) := by
  refine calls_sta (sl := [(0, (SF [(Is (.float .f64 x)), (Is (.float .f64 y))]))]) Tryz.func29 rfl Tryz.ntmps29 (by simp) (args_cons rfl (ix_has) args_nil) ?_
  intro a0 S0
  refine wp_stmt_seq [.new (.box 38 (SF [(Is (.float .f64 x)), (Is (.float .f64 y))])), .val (iV 0)] [.inl 0] [] follows S0 rfl (by kernel_rfl) ?_ ?_
  · refine ⟨⟨trivial, ?_⟩, ?_⟩
    · exact owe_box rfl wA rfl (oS 0 0) rfl (fun ρ w h => box_ival shp_iv ρ _ _ w h)
    · exact mC
  intro B1 a1 W1 (S1 : Sta w 8 [(1, (.box 38 (SF [(Is (.float .f64 x)), (Is (.float .f64 y))])))] [] _ _ _)
  refine wp_seq ?_
  refine wp_stmt_seq [.val (Part a1 1 0), .val (Is (.float .f64 x)), .val (Part a1 1 1), .val (Is (.float .f64 y)), kF] [.inr 0] [.inl 4] follows S1 rfl (by kernel_rfl) ?_ ?_
  · refine ⟨⟨⟨⟨⟨trivial, ?_⟩, ?_⟩, ?_⟩, ?_⟩, ?_⟩
    · exact owe_part rfl wA rfl (k := 0) rfl (by kernel_rfl) rfl (fun ρ w b h => part_ival0 ρ _ _ w b 0 h)
    · exact owe_pload rfl wA rfl (oO 0 3) (k := 0) rfl (by kernel_rfl) rfl (fun ρ w b u h1 h2 h3 => ploadI rfl load1_f64 ρ _ _ w b u h1 h2 h3)
    · exact owe_part rfl wA rfl (k := 0) rfl (by kernel_rfl) rfl (fun ρ w b h => part_ival1 ρ _ _ w b 0 h)
    · exact owe_pload rfl wA rfl (oO 2 5) (k := 0) rfl (by kernel_rfl) rfl (fun ρ w b u h1 h2 h3 => ploadI rfl load1_f64 ρ _ _ w b u h1 h2 h3)
    · exact owe_fcmp rfl wA rfl ((oO 1 4).imp (fl_is hx)) ((oO 3 6).imp (fl_is hy)) h rfl
  intro B2 a2 W2 (S2 : Sta w 8 [(1, (.box 38 (SF [(Is (.float .f64 x)), (Is (.float .f64 y))])))] [(7, bF)] _ _ _)
  refine wp_cond_false (S2.bool 0 7 rfl) ?_
  refine wp_skip ?_
  refine thenN ?_
  refine wp_stmt_seq [.val (iV 90)] [.inr 0] [.inl 0] follows S2 rfl (by kernel_rfl) ?_ ?_
  · refine ⟨trivial, ?_⟩
    · exact mC
  intro B3 a3 W3 (S3 : Sta w 8 [(1, (.box 38 (SF [(Is (.float .f64 x)), (Is (.float .f64 y))])))] [(2, iV 90)] _ _ _)
  refine wp_ret ?_
  exact end_one S3 rfl (res_tmp S3 0 2 rfl)
set_option maxHeartbeats 400000 in
theorem rvalid_f (w : World) (x y : Nat) (hx : x < 18446744073709551616) (hy : y < 18446744073709551616) (h : okI x y = false) :
    Calls Tryz.prog 19 #[(.agg #[.float .f64 x, .float .f64 y])] w (Gives (IS (.bool false)) w) := by
  refine calls_sta (sl := [(0, (SF [(Is (.float .f64 x)), (Is (.float .f64 y))]))]) Tryz.func19 rfl Tryz.ntmps19 (by simp) (args_cons rfl (ix_has) args_nil) ?_
  intro a0 S0
  refine wp_stmt_seq [.new (.box 38 (SF [(Is (.float .f64 x)), (Is (.float .f64 y))])), kF] [.inl 0] [] follows S0 rfl (by kernel_rfl) ?_ ?_
  · refine ⟨⟨trivial, ?_⟩, ?_⟩
    · exact owe_box rfl wA rfl (oS 0 0) rfl (fun ρ w h => box_ival shp_iv ρ _ _ w h)
    · exact mC
  intro B1 a1 W1 (S1 : Sta w 8 [(1, (.box 38 (SF [(Is (.float .f64 x)), (Is (.float .f64 y))])))] [] _ _ _)
  refine wp_stmt_seq [.val (Part a1 1 0), .val (Is (.float .f64 x)), .val (Part a1 1 1), .val (Is (.float .f64 y)), kF, kF] [.inr 0] [.inl 5] follows S1 rfl (by kernel_rfl) ?_ ?_
  · refine ⟨⟨⟨⟨⟨⟨trivial, ?_⟩, ?_⟩, ?_⟩, ?_⟩, ?_⟩, ?_⟩
    · exact owe_part rfl wA rfl (k := 0) rfl (by kernel_rfl) rfl (fun ρ w b h => part_ival0 ρ _ _ w b 0 h)
    · exact owe_pload rfl wA rfl (oO 0 3) (k := 0) rfl (by kernel_rfl) rfl (fun ρ w b u h1 h2 h3 => ploadI rfl load1_f64 ρ _ _ w b u h1 h2 h3)
    · exact owe_part rfl wA rfl (k := 0) rfl (by kernel_rfl) rfl (fun ρ w b h => part_ival1 ρ _ _ w b 0 h)
    · exact owe_pload rfl wA rfl (oO 2 5) (k := 0) rfl (by kernel_rfl) rfl (fun ρ w b u h1 h2 h3 => ploadI rfl load1_f64 ρ _ _ w b u h1 h2 h3)
    · exact owe_fcmp rfl wA rfl ((oO 1 4).imp (fl_is hx)) ((oO 3 6).imp (fl_is hy)) h rfl
    · exact mO 4 7
  intro B2 a2 W2 (S2 : Sta w 8 [(1, (.box 38 (SF [(Is (.float .f64 x)), (Is (.float .f64 y))])))] [(2, bF)] _ _ _)
  refine wp_ret ?_
  exact end_one S2 rfl (res_tmp S2 0 2 rfl)
set_option maxHeartbeats 400000 in
theorem ivalid2_tt (w : World) (x y x1 y1 : Nat) (hx : x < 18446744073709551616) (hy : y < 18446744073709551616) (hx1 : x1 < 18446744073709551616) (hy1 : y1 < 18446744073709551616) (h : okI x y = true) (h' : okI x1 y1 = true) :
    Calls Tryz.prog 52 #[(.agg #[.float .f64 x, .float .f64 y]), (.agg #[.float .f64 x1, .float .f64 y1])] w (Gives (IS (.int .i64 0)) w) := by
  refine calls_sta (sl := [(0, (SF [(Is (.float .f64 x)), (Is (.float .f64 y))])), (1, (SF [(Is (.float .f64 x1)), (Is (.float .f64 y1))]))]) Tryz.func52 rfl Tryz.ntmps52 (by simp) (args_cons rfl (ix_has) (args_cons rfl (ix_has) args_nil)) ?_
  intro a0 S0
  refine wp_stmt_seq [.new (.box 38 (SF [(Is (.float .f64 x)), (Is (.float .f64 y))])), .new (.box 38 (SF [(Is (.float .f64 x1)), (Is (.float .f64 y1))])), .val (iV 0)] [.inl 0, .inl 1] [] follows S0 rfl (by kernel_rfl) ?_ ?_
  · refine ⟨⟨⟨trivial, ?_⟩, ?_⟩, ?_⟩
    · exact owe_box rfl wA rfl (oS 0 0) rfl (fun ρ w h => box_ival shp_iv ρ _ _ w h)
    · exact owe_box rfl wA rfl (oS 1 1) rfl (fun ρ w h => box_ival shp_iv ρ _ _ w h)
    · exact mC
  intro B1 a1 W1 (S1 : Sta w 13 [(2, (.box 38 (SF [(Is (.float .f64 x)), (Is (.float .f64 y))]))), (3, (.box 38 (SF [(Is (.float .f64 x1)), (Is (.float .f64 y1))])))] [] _ _ _)
  refine wp_seq ?_
  refine wp_stmt_seq [.val (SF [(Is (.float .f64 x)), (Is (.float .f64 y))]), .val (iV 0), .val (iV 0)] [.inr 0, .inr 1] [.inl 2] follows S1 rfl (by kernel_rfl) ?_ ?_
  · refine ⟨⟨⟨trivial, ?_⟩, ?_⟩, ?_⟩
    · exact lod 0 wA (loads_of strct_ival shp_iv)
    · exact cc1 wA (qO 0 6 rfl) (fresh_is _) (ix1 (fun w => ivalid_t w _ _ hx hy h))
    · exact mO 1 7
  intro B2 a2 W2 (S2 : Sta w 13 [(2, (.box 38 (SF [(Is (.float .f64 x)), (Is (.float .f64 y))]))), (3, (.box 38 (SF [(Is (.float .f64 x1)), (Is (.float .f64 y1))])))] [(5, iV 0)] _ _ _)
  refine wp_stmt_seq [.val (iV 0), kF] [.inr 0, .inr 1] [.inl 1, .inr 0] follows S2 rfl (by kernel_rfl) ?_ ?_
  · refine ⟨⟨trivial, ?_⟩, ?_⟩
    · exact mS 0 5
    · exact b_neq_errno_f wA (oO 0 8) (opnd_const _) (h := by decide)
  intro B3 a3 W3 (S3 : Sta w 13 [(2, (.box 38 (SF [(Is (.float .f64 x)), (Is (.float .f64 y))]))), (3, (.box 38 (SF [(Is (.float .f64 x1)), (Is (.float .f64 y1))])))] [(9, bF), (5, iV 0)] _ _ _)
  refine wp_cond_false (S3.bool 0 9 rfl) ?_
  refine wp_skip ?_
  refine thenN ?_
  refine wp_stmt_seq [.val (SF [(Is (.float .f64 x1)), (Is (.float .f64 y1))]), .val (iV 0), .val (iV 0)] [.inr 0, .inr 1] [.inl 2] follows S3 rfl (by kernel_rfl) ?_ ?_
  · refine ⟨⟨⟨trivial, ?_⟩, ?_⟩, ?_⟩
    · exact lod 1 wA (loads_of strct_ival shp_iv)
    · exact cc1 wA (qO 0 11 rfl) (fresh_is _) (ix1 (fun w => ivalid_t w _ _ hx1 hy1 h'))
    · exact mO 1 12
  intro B4 a4 W4 (S4 : Sta w 13 [(2, (.box 38 (SF [(Is (.float .f64 x)), (Is (.float .f64 y))]))), (3, (.box 38 (SF [(Is (.float .f64 x1)), (Is (.float .f64 y1))])))] [(4, iV 0)] _ _ _)
  refine wp_ret ?_
  exact end_one S4 rfl (res_tmp S4 0 4 rfl)
set_option maxHeartbeats 400000 in
theorem ivalid2_tf (w : World) (x y x1 y1 : Nat) (hx : x < 18446744073709551616) (hy : y < 18446744073709551616) (hx1 : x1 < 18446744073709551616) (hy1 : y1 < 18446744073709551616) (h : okI x y = true) (h' : okI x1 y1 = false) :
    Calls Tryz.prog 52 #[(.agg #[.float .f64 x, .float .f64 y]), (.agg #[.float .f64 x1, .float .f64 y1])] w (Gives (IS (.int .i64 90)) w) := by
  refine calls_sta (sl := [(0, (SF [(Is (.float .f64 x)), (Is (.float .f64 y))])), (1, (SF [(Is (.float .f64 x1)), (Is (.float .f64 y1))]))]) Tryz.func52 rfl Tryz.ntmps52 (by simp) (args_cons rfl (ix_has) (args_cons rfl (ix_has) args_nil)) ?_
  intro a0 S0
  refine wp_stmt_seq [.new (.box 38 (SF [(Is (.float .f64 x)), (Is (.float .f64 y))])), .new (.box 38 (SF [(Is (.float .f64 x1)), (Is (.float .f64 y1))])), .val (iV 0)] [.inl 0, .inl 1] [] follows S0 rfl (by kernel_rfl) ?_ ?_
  · refine ⟨⟨⟨trivial, ?_⟩, ?_⟩, ?_⟩
    · exact owe_box rfl wA rfl (oS 0 0) rfl (fun ρ w h => box_ival shp_iv ρ _ _ w h)
    · exact owe_box rfl wA rfl (oS 1 1) rfl (fun ρ w h => box_ival shp_iv ρ _ _ w h)
    · exact mC
  intro B1 a1 W1 (S1 : Sta w 13 [(2, (.box 38 (SF [(Is (.float .f64 x)), (Is (.float .f64 y))]))), (3, (.box 38 (SF [(Is (.float .f64 x1)), (Is (.float .f64 y1))])))] [] _ _ _)
  refine wp_seq ?_
  refine wp_stmt_seq [.val (SF [(Is (.float .f64 x)), (Is (.float .f64 y))]), .val (iV 0), .val (iV 0)] [.inr 0, .inr 1] [.inl 2] follows S1 rfl (by kernel_rfl) ?_ ?_
  · refine ⟨⟨⟨trivial, ?_⟩, ?_⟩, ?_⟩
    · exact lod 0 wA (loads_of strct_ival shp_iv)
    · exact cc1 wA (qO 0 6 rfl) (fresh_is _) (ix1 (fun w => ivalid_t w _ _ hx hy h))
    · exact mO 1 7
  intro B2 a2 W2 (S2 : Sta w 13 [(2, (.box 38 (SF [(Is (.float .f64 x)), (Is (.float .f64 y))]))), (3, (.box 38 (SF [(Is (.float .f64 x1)), (Is (.float .f64 y1))])))] [(5, iV 0)] _ _ _)
  refine wp_stmt_seq [.val (iV 0), kF] [.inr 0, .inr 1] [.inl 1, .inr 0] follows S2 rfl (by kernel_rfl) ?_ ?_
  · refine ⟨⟨trivial, ?_⟩, ?_⟩
    · exact mS 0 5
    · exact b_neq_errno_f wA (oO 0 8) (opnd_const _) (h := by decide)
  intro B3 a3 W3 (S3 : Sta w 13 [(2, (.box 38 (SF [(Is (.float .f64 x)), (Is (.float .f64 y))]))), (3, (.box 38 (SF [(Is (.float .f64 x1)), (Is (.float .f64 y1))])))] [(9, bF), (5, iV 0)] _ _ _)
  refine wp_cond_false (S3.bool 0 9 rfl) ?_
  refine wp_skip ?_
  refine thenN ?_
  refine wp_stmt_seq [.val (SF [(Is (.float .f64 x1)), (Is (.float .f64 y1))]), .val (iV 90), .val (iV 90)] [.inr 0, .inr 1] [.inl 2] follows S3 rfl (by kernel_rfl) ?_ ?_
  · refine ⟨⟨⟨trivial, ?_⟩, ?_⟩, ?_⟩
    · exact lod 1 wA (loads_of strct_ival shp_iv)
    · exact cc1 wA (qO 0 11 rfl) (fresh_is _) (ix1 (fun w => ivalid_f w _ _ hx1 hy1 h'))
    · exact mO 1 12
  intro B4 a4 W4 (S4 : Sta w 13 [(2, (.box 38 (SF [(Is (.float .f64 x)), (Is (.float .f64 y))]))), (3, (.box 38 (SF [(Is (.float .f64 x1)), (Is (.float .f64 y1))])))] [(4, iV 90)] _ _ _)
  refine wp_ret ?_
  exact end_one S4 rfl (res_tmp S4 0 4 rfl)
set_option maxHeartbeats 400000 in
theorem ivalid2_f (w : World) (x y x1 y1 : Nat) (hx : x < 18446744073709551616) (hy : y < 18446744073709551616) (hx1 : x1 < 18446744073709551616) (hy1 : y1 < 18446744073709551616) (h : okI x y = false) :
    Calls Tryz.prog 52 #[(.agg #[.float .f64 x, .float .f64 y]), (.agg #[.float .f64 x1, .float .f64 y1])] w (Gives (IS (.int .i64 90)) w) := by
  refine calls_sta (sl := [(0, (SF [(Is (.float .f64 x)), (Is (.float .f64 y))])), (1, (SF [(Is (.float .f64 x1)), (Is (.float .f64 y1))]))]) Tryz.func52 rfl Tryz.ntmps52 (by simp) (args_cons rfl (ix_has) (args_cons rfl (ix_has) args_nil)) ?_
  intro a0 S0
  refine wp_stmt_seq [.new (.box 38 (SF [(Is (.float .f64 x)), (Is (.float .f64 y))])), .new (.box 38 (SF [(Is (.float .f64 x1)), (Is (.float .f64 y1))])), .val (iV 0)] [.inl 0, .inl 1] [] follows S0 rfl (by kernel_rfl) ?_ ?_
  · refine ⟨⟨⟨trivial, ?_⟩, ?_⟩, ?_⟩
    · exact owe_box rfl wA rfl (oS 0 0) rfl (fun ρ w h => box_ival shp_iv ρ _ _ w h)
    · exact owe_box rfl wA rfl (oS 1 1) rfl (fun ρ w h => box_ival shp_iv ρ _ _ w h)
    · exact mC
  intro B1 a1 W1 (S1 : Sta w 13 [(2, (.box 38 (SF [(Is (.float .f64 x)), (Is (.float .f64 y))]))), (3, (.box 38 (SF [(Is (.float .f64 x1)), (Is (.float .f64 y1))])))] [] _ _ _)
  refine wp_seq ?_
  refine wp_stmt_seq [.val (SF [(Is (.float .f64 x)), (Is (.float .f64 y))]), .val (iV 90), .val (iV 90)] [.inr 0, .inr 1] [.inl 2] follows S1 rfl (by kernel_rfl) ?_ ?_
  · refine ⟨⟨⟨trivial, ?_⟩, ?_⟩, ?_⟩
    · exact lod 0 wA (loads_of strct_ival shp_iv)
    · exact cc1 wA (qO 0 6 rfl) (fresh_is _) (ix1 (fun w => ivalid_f w _ _ hx hy h))
    · exact mO 1 7
  intro B2 a2 W2 (S2 : Sta w 13 [(2, (.box 38 (SF [(Is (.float .f64 x)), (Is (.float .f64 y))]))), (3, (.box 38 (SF [(Is (.float .f64 x1)), (Is (.float .f64 y1))])))] [(5, iV 90)] _ _ _)
  refine wp_stmt_seq [.val (iV 90), kT] [.inr 0, .inr 1] [.inl 1, .inr 0] follows S2 rfl (by kernel_rfl) ?_ ?_
  · refine ⟨⟨trivial, ?_⟩, ?_⟩
    · exact mS 0 5
    · exact b_neq_errno_t wA (oO 0 8) (opnd_const _) (h := by decide)
  intro B3 a3 W3 (S3 : Sta w 13 [(2, (.box 38 (SF [(Is (.float .f64 x)), (Is (.float .f64 y))]))), (3, (.box 38 (SF [(Is (.float .f64 x1)), (Is (.float .f64 y1))])))] [(9, bT), (5, iV 90)] _ _ _)
  refine wp_cond_true (S3.bool 0 9 rfl) ?_
  refine wp_stmt_seq [.val (iV 90), .val (iV 90)] [.inr 0, .inr 1] [.inl 1] follows S3 rfl (by kernel_rfl) ?_ ?_
  · refine ⟨⟨trivial, ?_⟩, ?_⟩
    · exact mS 1 5
    · exact mO 0 10
  intro B4 a4 W4 (S4 : Sta w 13 [(2, (.box 38 (SF [(Is (.float .f64 x)), (Is (.float .f64 y))]))), (3, (.box 38 (SF [(Is (.float .f64 x1)), (Is (.float .f64 y1))])))] [(4, iV 90)] _ _ _)
  refine wp_ret ?_
  refine thenR ?_
  exact end_one S4 rfl (res_tmp S4 0 4 rfl)
end Go.Proofs.YtgalppimdmjdcaaGreat
