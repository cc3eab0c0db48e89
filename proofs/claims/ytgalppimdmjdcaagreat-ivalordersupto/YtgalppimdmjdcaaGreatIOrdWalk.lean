/-
  IvalOrders' walk.
-/
import Derived.Test.YtgalppimdmjdcaaGreatIOrd
namespace Go.Proofs.YtgalppimdmjdcaaGreat
open Go Go.RowKit Nt
set_option linter.unusedSimpArgs false
set_option linter.unusedVariables false
set_option maxRecDepth 20000

theorem run_neq_self (ρ : Operand → Value) (o : Oper) (x y : Operand) (w : World) (b : Bool) (h1 : ρ x = .bool b) (h2 : ρ y = .bool b) : (execOp ρ { o with op := .binOp .neq 4 x y 4 }).run Tryz.prog w = .ok (.value (.bool false)) w := by
  have := run_neq_bool ρ o x y w b b h1 h2
  rwa [bne_self_eq_false] at this
theorem run_eql_self (ρ : Operand → Value) (o : Oper) (x y : Operand) (w : World) (b : Bool) (h1 : ρ x = .bool b) (h2 : ρ y = .bool b) : (execOp ρ { o with op := .binOp .eql 4 x y 4 }).run Tryz.prog w = .ok (.value (.bool true)) w := by
  have := run_eql_bool ρ o x y w b b h1 h2
  rwa [beq_self_eq_true] at this
set_option maxHeartbeats 2000000 in
theorem ivalorders_fb (w : World) (x y x1 y1 : Nat) (hx : x < 18446744073709551616) (hy : y < 18446744073709551616) (hx1 : x1 < 18446744073709551616) (hy1 : y1 < 18446744073709551616) (h : okI x y = false) (A D : Int) (k1 k2 : Nat) (r : Value) (hr : Has (fun _ => False) w (Rv A D k1 k2) r) (b1 : k1 ≤ 8388608) (b2 : k2 ≤ 8388608) :
    Calls Tryz.prog 6 #[(.agg #[.float .f64 x, .float .f64 y]), (.agg #[.float .f64 x1, .float .f64 y1]), r] w (Gives (IS (.bool true)) w) := by
  refine calls_sta (sl := [(0, (SF [(Is (.float .f64 x)), (Is (.float .f64 y))])), (1, (SF [(Is (.float .f64 x1)), (Is (.float .f64 y1))])), (2, (PR (Zv A k1) (Zv D k2)))]) Tryz.func6 rfl Tryz.ntmps6 (by simp) (args_cons rfl (ix_has) (args_cons rfl (ix_has) (args_cons rfl (hr) args_nil))) ?_
  intro a0 S0
  refine wp_stmt_seq [.new (.box 38 (SF [(Is (.float .f64 x)), (Is (.float .f64 y))])), .new (.box 38 (SF [(Is (.float .f64 x1)), (Is (.float .f64 y1))])), .new (.box 29 (PR (Zv A k1) (Zv D k2))), kF] [.inl 0, .inl 1, .inl 2] [] follows S0 rfl (by kernel_rfl) ?_ ?_
  · refine ⟨⟨⟨⟨trivial, ?_⟩, ?_⟩, ?_⟩, ?_⟩
    · exact owe_box rfl wA rfl (oS 0 0) rfl (fun ρ w h => box_ival shp_iv ρ _ _ w h)
    · exact owe_box rfl wA rfl (oS 1 1) rfl (fun ρ w h => box_ival shp_iv ρ _ _ w h)
    · exact owe_box rfl wA rfl (oS 2 2) rfl (fun ρ w h => box_rat (shp_pr shp_zv shp_zv) ρ _ _ w h)
    · exact mC
  intro B1 a1 W1 (S1 : Sta w 121 [(3, (.box 38 (SF [(Is (.float .f64 x)), (Is (.float .f64 y))]))), (4, (.box 38 (SF [(Is (.float .f64 x1)), (Is (.float .f64 y1))]))), (5, (.box 29 (PR (Zv A k1) (Zv D k2))))] [] _ _ _)
  refine wp_stmt_seq [.val (SF [(Is (.float .f64 x)), (Is (.float .f64 y))]), .val (SF [(Is (.float .f64 x1)), (Is (.float .f64 y1))]), .val ((THREE (IS (.int .i64 0)) (IS (.bool false)) (IS (.int .i64 90))) w.heap.size), .val ((THREE (IS (.int .i64 0)) (IS (.bool false)) (IS (.int .i64 90))) w.heap.size), .val (iV 0), kF, .val (iV 90), .val (iV 0), kF, .val (iV 90)] [.inr 0, .inr 1, .inr 2] [.inl 7, .inl 8, .inl 9] follows S1 rfl (by kernel_rfl) ?_ ?_
  · repeat' refine And.intro ?_ ?_
    · trivial
    · exact lod 0 wA (loads_of strct_ival shp_iv)
    · exact lod 1 wA (loads_of strct_ival shp_iv)
    · exact cc2 wA (qO 0 16 rfl) (qO 1 17 rfl) (fresh_three (fresh_is _) (fresh_is _) (fresh_is _)) (ix2 (fun w => icmp_f w x y x1 y1 hx hy hx1 hy1 h))
    · exact mO 2 18
    · exact e30 wA (oO 3 15)
    · exact e31 wA (oO 3 15)
    · exact e32 wA (oO 3 15)
    · exact mO 4 19
    · exact mO 5 20
    · exact mO 6 21
  intro B2 a2 W2 (S2 : Sta w 121 [(3, (.box 38 (SF [(Is (.float .f64 x)), (Is (.float .f64 y))]))), (4, (.box 38 (SF [(Is (.float .f64 x1)), (Is (.float .f64 y1))]))), (5, (.box 29 (PR (Zv A k1) (Zv D k2))))] [(7, iV 0), (8, bF), (9, iV 90)] _ _ _)
  refine wp_stmt_seq [.val (SF [(Is (.float .f64 x)), (Is (.float .f64 y))]), .val (PR (Zv A k1) (Zv D k2)), .val ((TWO (IS (.bool false)) (IS (.int .i64 90))) w.heap.size), .val ((TWO (IS (.bool false)) (IS (.int .i64 90))) w.heap.size), kF, .val (iV 90), kF, .val (iV 90)] [.inr 0, .inr 1, .inr 2] [.inl 6, .inl 7, .inr 0, .inr 1, .inr 2] follows S2 rfl (by kernel_rfl) ?_ ?_
  · repeat' refine And.intro ?_ ?_
    · trivial
    · exact lod 0 wA (loads_of strct_ival shp_iv)
    · exact lod 2 wA (loads_of strct_rat (shp_pr shp_zv shp_zv))
    · exact cc2 wA (qO 0 23 rfl) (qO 1 24 rfl) (fresh_two (fresh_is _) (fresh_is _)) (fun w u v e h1 => by rw [ix_eq e]; exact ihold_f w x y hx hy h A D k1 k2 v (rv_has h1) b1 b2)
    · exact mO 2 25
    · exact e20 wA (oO 3 22)
    · exact e21 wA (oO 3 22)
    · exact mO 4 26
    · exact mO 5 27
  intro B3 a3 W3 (S3 : Sta w 121 [(3, (.box 38 (SF [(Is (.float .f64 x)), (Is (.float .f64 y))]))), (4, (.box 38 (SF [(Is (.float .f64 x1)), (Is (.float .f64 y1))]))), (5, (.box 29 (PR (Zv A k1) (Zv D k2))))] [(10, bF), (11, iV 90), (7, iV 0), (8, bF), (9, iV 90)] _ _ _)
  refine wp_stmt_seq [.val (SF [(Is (.float .f64 x)), (Is (.float .f64 y))]), kF, kF] [.inr 0, .inr 1, .inr 2] [.inl 2, .inr 0, .inr 1, .inr 2, .inr 3, .inr 4] follows S3 rfl (by kernel_rfl) ?_ ?_
  · refine ⟨⟨⟨trivial, ?_⟩, ?_⟩, ?_⟩
    · exact lod 0 wA (loads_of strct_ival shp_iv)
    · exact cc1 wA (qO 0 28 rfl) (fresh_is _) (ix1 (fun w => rvalid_f w _ _ hx hy h))
    · exact mO 1 29
  intro B4 a4 W4 (S4 : Sta w 121 [(3, (.box 38 (SF [(Is (.float .f64 x)), (Is (.float .f64 y))]))), (4, (.box 38 (SF [(Is (.float .f64 x1)), (Is (.float .f64 y1))]))), (5, (.box 29 (PR (Zv A k1) (Zv D k2))))] [(12, bF), (10, bF), (11, iV 90), (7, iV 0), (8, bF), (9, iV 90)] _ _ _)
  refine wp_seq ?_
  refine wp_stmt_seq [.val (SF [(Is (.float .f64 x)), (Is (.float .f64 y))]), .val (iV 90), kF, kF, kF, kF, kF, kT, kT, .val (SF [(Is (.float .f64 x)), (Is (.float .f64 y))]), .val (iV 90), kF, kF, kF] [.inr 0, .inr 1, .inr 2] [.inl 13, .inr 0, .inr 1, .inr 2, .inr 3, .inr 4, .inr 5] follows S4 rfl (by kernel_rfl) ?_ ?_
  · repeat' refine And.intro ?_ ?_
    · trivial
    · exact lod 0 wA (loads_of strct_ival shp_iv)
    · exact cc1 wA (qO 0 30 rfl) (fresh_is _) (ix1 (fun w => ivalid_f w x y hx hy h))
    · exact b_eql_errno_f wA (oO 1 31) (opnd_const _) (h := by decide)
    · exact mS 0 12
    · exact b_neq_bool wA (oO 2 32) (oO 3 33)
    · exact mO 4 34
    · exact mW (wI 5 35) (oS 0 12)
    · exact b_not (wI 5 35) (oO 6 36)
    · exact mW (wI 5 35) (oO 7 37)
    · exact lod 0 (wI 8 38) (loads_of strct_ival shp_iv)
    · exact cc1 (wI 8 38) (qO 9 39 rfl) (fresh_is _) (ix1 (fun w => ivalid_f w x y hx hy h))
    · exact b_neq_errno_f (wI 8 38) (oO 10 40) (opnd_const _) (h := by decide)
    · exact pT (wI 5 35) (oO 8 38) (oO 11 41)
    · exact pF wA (oO 5 35) (oO 12 42)
  intro B5 a5 W5 (S5 : Sta w 121 [(3, (.box 38 (SF [(Is (.float .f64 x)), (Is (.float .f64 y))]))), (4, (.box 38 (SF [(Is (.float .f64 x1)), (Is (.float .f64 y1))]))), (5, (.box 29 (PR (Zv A k1) (Zv D k2))))] [(43, bF), (12, bF), (10, bF), (11, iV 90), (7, iV 0), (8, bF), (9, iV 90)] _ _ _)
  refine wp_cond_false (S5.bool 0 43 rfl) ?_
  refine wp_skip ?_
  refine thenN ?_
  refine wp_seq ?_
  refine wp_stmt_seq [kF, kT] [.inr 0, .inr 1, .inr 2] [.inl 1, .inr 2, .inr 3, .inr 4, .inr 5, .inr 6] follows S5 rfl (by kernel_rfl) ?_ ?_
  · refine ⟨⟨trivial, ?_⟩, ?_⟩
    · exact mS 1 12
    · exact b_not wA (oO 0 44)
  intro B6 a6 W6 (S6 : Sta w 121 [(3, (.box 38 (SF [(Is (.float .f64 x)), (Is (.float .f64 y))]))), (4, (.box 38 (SF [(Is (.float .f64 x1)), (Is (.float .f64 y1))]))), (5, (.box 29 (PR (Zv A k1) (Zv D k2))))] [(45, bT), (10, bF), (11, iV 90), (7, iV 0), (8, bF), (9, iV 90)] _ _ _)
  refine wp_cond_true (S6.bool 0 45 rfl) ?_
  refine wp_stmt_seq [.val (iV 90), kT, kT, .val (iV 90), kT, kT, kT, .val (iV 0), kT, kT, kT, kF, kT, kT, kT, kF, kT, kT, kT, kT, kT, kT] [.inr 0, .inr 1] [.inl 21] follows S6 rfl (by kernel_rfl) ?_ ?_
  · repeat' refine And.intro ?_ ?_
    · trivial
    · exact mS 5 9
    · exact b_eql_errno_t wA (oO 0 46) (opnd_const _) (h := by decide)
    · exact mO 1 47
    · exact mW (wI 2 48) (oS 2 11)
    · exact b_eql_errno_t (wI 2 48) (oO 3 49) (opnd_const _) (h := by decide)
    · exact pT wA (oO 2 48) (oO 4 50)
    · exact mO 5 51
    · exact mW (wI 6 52) (oS 3 7)
    · exact b_eql_int_t (wI 6 52) (oO 7 53) (opnd_const _) (h := rfl)
    · exact pT wA (oO 6 52) (oO 8 54)
    · exact mO 9 55
    · exact mW (wI 10 56) (oS 4 8)
    · exact b_not (wI 10 56) (oO 11 57)
    · exact pT wA (oO 10 56) (oO 12 58)
    · exact mO 13 59
    · exact mW (wI 14 60) (oS 1 10)
    · exact b_not (wI 14 60) (oO 15 61)
    · exact pT wA (oO 14 60) (oO 16 62)
    · exact mO 17 63
    · exact owe_call0 rfl (wI 18 64) rfl  (fresh_is _) rfl (fun args w => by go_simp) awake_w
    · exact pT wA (oO 18 64) (oO 19 65)
    · exact mO 20 66
  intro B7 a7 W7 (S7 : Sta w 121 [(3, (.box 38 (SF [(Is (.float .f64 x)), (Is (.float .f64 y))]))), (4, (.box 38 (SF [(Is (.float .f64 x1)), (Is (.float .f64 y1))])))] [(6, bT)] _ _ _)
  refine wp_ret ?_
  refine thenR ?_
  exact end_one S7 rfl (res_tmp S7 0 6 rfl)
set_option maxHeartbeats 2000000 in
theorem ivalorders_tfb (w : World) (x y x1 y1 : Nat) (hx : x < 18446744073709551616) (hy : y < 18446744073709551616) (hx1 : x1 < 18446744073709551616) (hy1 : y1 < 18446744073709551616) (h : okI x y = true) (h' : okI x1 y1 = false) (px py : Int) (hpx : plc x = some px) (hpy : plc y = some py) (A D : Int) (k1 k2 : Nat) (r : Value) (hr : Has (fun _ => False) w (Rv A D k1 k2) r) (b1 : k1 ≤ 8388608) (b2 : k2 ≤ 8388608) (hD : D ≤ 0) :
    Calls Tryz.prog 6 #[(.agg #[.float .f64 x, .float .f64 y]), (.agg #[.float .f64 x1, .float .f64 y1]), r] w (Gives (IS (.bool true)) w) := by
  refine calls_sta (sl := [(0, (SF [(Is (.float .f64 x)), (Is (.float .f64 y))])), (1, (SF [(Is (.float .f64 x1)), (Is (.float .f64 y1))])), (2, (PR (Zv A k1) (Zv D k2)))]) Tryz.func6 rfl Tryz.ntmps6 (by simp) (args_cons rfl (ix_has) (args_cons rfl (ix_has) (args_cons rfl (hr) args_nil))) ?_
  intro a0 S0
  refine wp_stmt_seq [.new (.box 38 (SF [(Is (.float .f64 x)), (Is (.float .f64 y))])), .new (.box 38 (SF [(Is (.float .f64 x1)), (Is (.float .f64 y1))])), .new (.box 29 (PR (Zv A k1) (Zv D k2))), kF] [.inl 0, .inl 1, .inl 2] [] follows S0 rfl (by kernel_rfl) ?_ ?_
  · refine ⟨⟨⟨⟨trivial, ?_⟩, ?_⟩, ?_⟩, ?_⟩
    · exact owe_box rfl wA rfl (oS 0 0) rfl (fun ρ w h => box_ival shp_iv ρ _ _ w h)
    · exact owe_box rfl wA rfl (oS 1 1) rfl (fun ρ w h => box_ival shp_iv ρ _ _ w h)
    · exact owe_box rfl wA rfl (oS 2 2) rfl (fun ρ w h => box_rat (shp_pr shp_zv shp_zv) ρ _ _ w h)
    · exact mC
  intro B1 a1 W1 (S1 : Sta w 121 [(3, (.box 38 (SF [(Is (.float .f64 x)), (Is (.float .f64 y))]))), (4, (.box 38 (SF [(Is (.float .f64 x1)), (Is (.float .f64 y1))]))), (5, (.box 29 (PR (Zv A k1) (Zv D k2))))] [] _ _ _)
  refine wp_stmt_seq [.val (SF [(Is (.float .f64 x)), (Is (.float .f64 y))]), .val (SF [(Is (.float .f64 x1)), (Is (.float .f64 y1))]), .val ((THREE (IS (.int .i64 0)) (IS (.bool false)) (IS (.int .i64 90))) w.heap.size), .val ((THREE (IS (.int .i64 0)) (IS (.bool false)) (IS (.int .i64 90))) w.heap.size), .val (iV 0), kF, .val (iV 90), .val (iV 0), kF, .val (iV 90)] [.inr 0, .inr 1, .inr 2] [.inl 7, .inl 8, .inl 9] follows S1 rfl (by kernel_rfl) ?_ ?_
  · repeat' refine And.intro ?_ ?_
    · trivial
    · exact lod 0 wA (loads_of strct_ival shp_iv)
    · exact lod 1 wA (loads_of strct_ival shp_iv)
    · exact cc2 wA (qO 0 16 rfl) (qO 1 17 rfl) (fresh_three (fresh_is _) (fresh_is _) (fresh_is _)) (ix2 (fun w => icmp_tf w x y x1 y1 hx hy hx1 hy1 h h'))
    · exact mO 2 18
    · exact e30 wA (oO 3 15)
    · exact e31 wA (oO 3 15)
    · exact e32 wA (oO 3 15)
    · exact mO 4 19
    · exact mO 5 20
    · exact mO 6 21
  intro B2 a2 W2 (S2 : Sta w 121 [(3, (.box 38 (SF [(Is (.float .f64 x)), (Is (.float .f64 y))]))), (4, (.box 38 (SF [(Is (.float .f64 x1)), (Is (.float .f64 y1))]))), (5, (.box 29 (PR (Zv A k1) (Zv D k2))))] [(7, iV 0), (8, bF), (9, iV 90)] _ _ _)
  refine wp_stmt_seq [.val (SF [(Is (.float .f64 x)), (Is (.float .f64 y))]), .val (PR (Zv A k1) (Zv D k2)), .val ((TWO (IS (.bool false)) (IS (.int .i64 30))) w.heap.size), .val ((TWO (IS (.bool false)) (IS (.int .i64 30))) w.heap.size), kF, .val (iV 30), kF, .val (iV 30)] [.inr 0, .inr 1, .inr 2] [.inl 6, .inl 7, .inr 0, .inr 1, .inr 2] follows S2 rfl (by kernel_rfl) ?_ ?_
  · repeat' refine And.intro ?_ ?_
    · trivial
    · exact lod 0 wA (loads_of strct_ival shp_iv)
    · exact lod 2 wA (loads_of strct_rat (shp_pr shp_zv shp_zv))
    · exact cc2 wA (qO 0 23 rfl) (qO 1 24 rfl) (fresh_two (fresh_is _) (fresh_is _)) (fun w u v e h1 => by rw [ix_eq e]; exact ihold_r w x y hx hy h A D k1 k2 v (rv_has h1) b1 b2 hD)
    · exact mO 2 25
    · exact e20 wA (oO 3 22)
    · exact e21 wA (oO 3 22)
    · exact mO 4 26
    · exact mO 5 27
  intro B3 a3 W3 (S3 : Sta w 121 [(3, (.box 38 (SF [(Is (.float .f64 x)), (Is (.float .f64 y))]))), (4, (.box 38 (SF [(Is (.float .f64 x1)), (Is (.float .f64 y1))]))), (5, (.box 29 (PR (Zv A k1) (Zv D k2))))] [(10, bF), (11, iV 30), (7, iV 0), (8, bF), (9, iV 90)] _ _ _)
  refine wp_stmt_seq [.val (SF [(Is (.float .f64 x)), (Is (.float .f64 y))]), kT, kT] [.inr 0, .inr 1, .inr 2] [.inl 2, .inr 0, .inr 1, .inr 2, .inr 3, .inr 4] follows S3 rfl (by kernel_rfl) ?_ ?_
  · refine ⟨⟨⟨trivial, ?_⟩, ?_⟩, ?_⟩
    · exact lod 0 wA (loads_of strct_ival shp_iv)
    · exact cc1 wA (qO 0 28 rfl) (fresh_is _) (ix1 (fun w => rvalid_t w _ _ hx hy h))
    · exact mO 1 29
  intro B4 a4 W4 (S4 : Sta w 121 [(3, (.box 38 (SF [(Is (.float .f64 x)), (Is (.float .f64 y))]))), (4, (.box 38 (SF [(Is (.float .f64 x1)), (Is (.float .f64 y1))]))), (5, (.box 29 (PR (Zv A k1) (Zv D k2))))] [(12, bT), (10, bF), (11, iV 30), (7, iV 0), (8, bF), (9, iV 90)] _ _ _)
  refine wp_seq ?_
  refine wp_stmt_seq [.val (SF [(Is (.float .f64 x)), (Is (.float .f64 y))]), .val (iV 0), kT, kT, kF, kF, kT, kF, kF, .off, .off, .off, kF, kF] [.inr 0, .inr 1, .inr 2] [.inl 13, .inr 0, .inr 1, .inr 2, .inr 3, .inr 4, .inr 5] follows S4 rfl (by kernel_rfl) ?_ ?_
  · repeat' refine And.intro ?_ ?_
    · trivial
    · exact lod 0 wA (loads_of strct_ival shp_iv)
    · exact cc1 wA (qO 0 30 rfl) (fresh_is _) (ix1 (fun w => ivalid_t w x y hx hy h))
    · exact b_eql_errno_t wA (oO 1 31) (opnd_const _) (h := by decide)
    · exact mS 0 12
    · exact b_neq_bool wA (oO 2 32) (oO 3 33)
    · exact mO 4 34
    · exact mW (wI 5 35) (oS 0 12)
    · exact b_not (wI 5 35) (oO 6 36)
    · exact mW (wI 5 35) (oO 7 37)
    · exact oF 8 38
    · exact oF 8 38
    · exact oF 8 38
    · exact pF (wI 5 35) (oO 8 38) (opnd_const _)
    · exact pF wA (oO 5 35) (oO 12 42)
  intro B5 a5 W5 (S5 : Sta w 121 [(3, (.box 38 (SF [(Is (.float .f64 x)), (Is (.float .f64 y))]))), (4, (.box 38 (SF [(Is (.float .f64 x1)), (Is (.float .f64 y1))]))), (5, (.box 29 (PR (Zv A k1) (Zv D k2))))] [(43, bF), (12, bT), (10, bF), (11, iV 30), (7, iV 0), (8, bF), (9, iV 90)] _ _ _)
  refine wp_cond_false (S5.bool 0 43 rfl) ?_
  refine wp_skip ?_
  refine thenN ?_
  refine wp_seq ?_
  refine wp_stmt_seq [kT, kF] [.inr 0, .inr 1, .inr 2] [.inl 1, .inr 2, .inr 3, .inr 4, .inr 5, .inr 6] follows S5 rfl (by kernel_rfl) ?_ ?_
  · refine ⟨⟨trivial, ?_⟩, ?_⟩
    · exact mS 1 12
    · exact b_not wA (oO 0 44)
  intro B6 a6 W6 (S6 : Sta w 121 [(3, (.box 38 (SF [(Is (.float .f64 x)), (Is (.float .f64 y))]))), (4, (.box 38 (SF [(Is (.float .f64 x1)), (Is (.float .f64 y1))]))), (5, (.box 29 (PR (Zv A k1) (Zv D k2))))] [(45, bF), (10, bF), (11, iV 30), (7, iV 0), (8, bF), (9, iV 90)] _ _ _)
  refine wp_cond_false (S6.bool 0 45 rfl) ?_
  refine wp_skip ?_
  refine thenN ?_
  refine wp_seq ?_
  refine wp_stmt_seq [.val (PR (Zv A k1) (Zv D k2)), kF, kT] [.inr 0, .inr 1, .inr 2] [.inl 2, .inr 1, .inr 2, .inr 3, .inr 4, .inr 5] follows S6 rfl (by kernel_rfl) ?_ ?_
  · refine ⟨⟨⟨trivial, ?_⟩, ?_⟩, ?_⟩
    · exact lod 2 wA (loads_of strct_rat (shp_pr shp_zv shp_zv))
    · exact cc1 wA (qO 0 67 rfl) (fresh_is _) (h_rval b1 b2 (decide_eq_false (Int.not_lt.2 (sgn_not hD))))
    · exact b_not wA (oO 1 68)
  intro B7 a7 W7 (S7 : Sta w 121 [(3, (.box 38 (SF [(Is (.float .f64 x)), (Is (.float .f64 y))]))), (4, (.box 38 (SF [(Is (.float .f64 x1)), (Is (.float .f64 y1))]))), (5, (.box 29 (PR (Zv A k1) (Zv D k2))))] [(69, bT), (10, bF), (11, iV 30), (7, iV 0), (8, bF), (9, iV 90)] _ _ _)
  refine wp_cond_true (S7.bool 0 69 rfl) ?_
  refine wp_stmt_seq [.val (iV 30), kF, kF, kF, kF] [.inr 0, .inr 1] [.inl 4, .inr 3, .inr 4, .inr 5] follows S7 rfl (by kernel_rfl) ?_ ?_
  · refine ⟨⟨⟨⟨⟨trivial, ?_⟩, ?_⟩, ?_⟩, ?_⟩, ?_⟩
    · exact mS 2 11
    · exact b_neq_errno_f wA (oO 0 70) (opnd_const _) (h := by decide)
    · exact mO 1 71
    · exact mW (wI 2 72) (oS 1 10)
    · exact pF wA (oO 2 72) (oO 3 73)
  intro B8 a8 W8 (S8 : Sta w 121 [(3, (.box 38 (SF [(Is (.float .f64 x)), (Is (.float .f64 y))]))), (4, (.box 38 (SF [(Is (.float .f64 x1)), (Is (.float .f64 y1))])))] [(74, bF), (7, iV 0), (8, bF), (9, iV 90)] _ _ _)
  refine wp_cond_false (S8.bool 0 74 rfl) ?_
  refine wp_skip ?_
  refine thenN ?_
  refine wp_seq ?_
  refine wp_stmt_seq [.val (SF [(Is (.float .f64 x1)), (Is (.float .f64 y1))]), kF, kT] [.inr 0, .inr 1] [.inl 2, .inr 1, .inr 2, .inr 3] follows S8 rfl (by kernel_rfl) ?_ ?_
  · refine ⟨⟨⟨trivial, ?_⟩, ?_⟩, ?_⟩
    · exact lod 1 wA (loads_of strct_ival shp_iv)
    · exact cc1 wA (qO 0 84 rfl) (fresh_is _) (ix1 (fun w => rvalid_f w _ _ hx1 hy1 h'))
    · exact b_not wA (oO 1 85)
  intro B9 a9 W9 (S9 : Sta w 121 [(3, (.box 38 (SF [(Is (.float .f64 x)), (Is (.float .f64 y))]))), (4, (.box 38 (SF [(Is (.float .f64 x1)), (Is (.float .f64 y1))])))] [(86, bT), (7, iV 0), (8, bF), (9, iV 90)] _ _ _)
  refine wp_cond_true (S9.bool 0 86 rfl) ?_
  refine wp_stmt_seq [.val (iV 90), kT, kT, .val (iV 0), kT, kT, kT, kF, kT, kT, kT, kT, kT, kT] [.inr 0, .inr 1] [.inl 13] follows S9 rfl (by kernel_rfl) ?_ ?_
  · repeat' refine And.intro ?_ ?_
    · trivial
    · exact mS 3 9
    · exact b_eql_errno_t wA (oO 0 87) (opnd_const _) (h := by decide)
    · exact mO 1 88
    · exact mW (wI 2 89) (oS 1 7)
    · exact b_eql_int_t (wI 2 89) (oO 3 90) (opnd_const _) (h := rfl)
    · exact pT wA (oO 2 89) (oO 4 91)
    · exact mO 5 92
    · exact mW (wI 6 93) (oS 2 8)
    · exact b_not (wI 6 93) (oO 7 94)
    · exact pT wA (oO 6 93) (oO 8 95)
    · exact mO 9 96
    · exact owe_call0 rfl (wI 10 97) rfl  (fresh_is _) rfl (fun args w => by go_simp) awake_w
    · exact pT wA (oO 10 97) (oO 11 98)
    · exact mO 12 99
  intro B10 a10 W10 (S10 : Sta w 121 [(3, (.box 38 (SF [(Is (.float .f64 x)), (Is (.float .f64 y))]))), (4, (.box 38 (SF [(Is (.float .f64 x1)), (Is (.float .f64 y1))])))] [(6, bT)] _ _ _)
  refine wp_ret ?_
  refine thenR ?_
  exact end_one S10 rfl (res_tmp S10 0 6 rfl)
set_option maxHeartbeats 2000000 in
theorem ivalorders_tfg (w : World) (x y x1 y1 : Nat) (hx : x < 18446744073709551616) (hy : y < 18446744073709551616) (hx1 : x1 < 18446744073709551616) (hy1 : y1 < 18446744073709551616) (h : okI x y = true) (h' : okI x1 y1 = false) (px py : Int) (hpx : plc x = some px) (hpy : plc y = some py) (A : Int) (D k1 k2 : Nat) (r : Value) (hr : Has (fun _ => False) w (Rv A ((D : Nat) : Int) k1 k2) r) (hD : D ≠ 0) (b1 : k1 ≤ 8388608) (b2 : k2 ≤ 8388608) :
    Calls Tryz.prog 6 #[(.agg #[.float .f64 x, .float .f64 y]), (.agg #[.float .f64 x1, .float .f64 y1]), r] w (Gives (IS (.bool true)) w) := by
  refine calls_sta (sl := [(0, (SF [(Is (.float .f64 x)), (Is (.float .f64 y))])), (1, (SF [(Is (.float .f64 x1)), (Is (.float .f64 y1))])), (2, (PR (Zv A k1) (Zv (((D : Nat) : Int)) k2)))]) Tryz.func6 rfl Tryz.ntmps6 (by simp) (args_cons rfl (ix_has) (args_cons rfl (ix_has) (args_cons rfl (hr) args_nil))) ?_
  intro a0 S0
  refine wp_stmt_seq [.new (.box 38 (SF [(Is (.float .f64 x)), (Is (.float .f64 y))])), .new (.box 38 (SF [(Is (.float .f64 x1)), (Is (.float .f64 y1))])), .new (.box 29 (PR (Zv A k1) (Zv (((D : Nat) : Int)) k2))), kF] [.inl 0, .inl 1, .inl 2] [] follows S0 rfl (by kernel_rfl) ?_ ?_
  · refine ⟨⟨⟨⟨trivial, ?_⟩, ?_⟩, ?_⟩, ?_⟩
    · exact owe_box rfl wA rfl (oS 0 0) rfl (fun ρ w h => box_ival shp_iv ρ _ _ w h)
    · exact owe_box rfl wA rfl (oS 1 1) rfl (fun ρ w h => box_ival shp_iv ρ _ _ w h)
    · exact owe_box rfl wA rfl (oS 2 2) rfl (fun ρ w h => box_rat (shp_pr shp_zv shp_zv) ρ _ _ w h)
    · exact mC
  intro B1 a1 W1 (S1 : Sta w 121 [(3, (.box 38 (SF [(Is (.float .f64 x)), (Is (.float .f64 y))]))), (4, (.box 38 (SF [(Is (.float .f64 x1)), (Is (.float .f64 y1))]))), (5, (.box 29 (PR (Zv A k1) (Zv (((D : Nat) : Int)) k2))))] [] _ _ _)
  refine wp_stmt_seq [.val (SF [(Is (.float .f64 x)), (Is (.float .f64 y))]), .val (SF [(Is (.float .f64 x1)), (Is (.float .f64 y1))]), .val ((THREE (IS (.int .i64 0)) (IS (.bool false)) (IS (.int .i64 90))) w.heap.size), .val ((THREE (IS (.int .i64 0)) (IS (.bool false)) (IS (.int .i64 90))) w.heap.size), .val (iV 0), kF, .val (iV 90), .val (iV 0), kF, .val (iV 90)] [.inr 0, .inr 1, .inr 2] [.inl 7, .inl 8, .inl 9] follows S1 rfl (by kernel_rfl) ?_ ?_
  · repeat' refine And.intro ?_ ?_
    · trivial
    · exact lod 0 wA (loads_of strct_ival shp_iv)
    · exact lod 1 wA (loads_of strct_ival shp_iv)
    · exact cc2 wA (qO 0 16 rfl) (qO 1 17 rfl) (fresh_three (fresh_is _) (fresh_is _) (fresh_is _)) (ix2 (fun w => icmp_tf w x y x1 y1 hx hy hx1 hy1 h h'))
    · exact mO 2 18
    · exact e30 wA (oO 3 15)
    · exact e31 wA (oO 3 15)
    · exact e32 wA (oO 3 15)
    · exact mO 4 19
    · exact mO 5 20
    · exact mO 6 21
  intro B2 a2 W2 (S2 : Sta w 121 [(3, (.box 38 (SF [(Is (.float .f64 x)), (Is (.float .f64 y))]))), (4, (.box 38 (SF [(Is (.float .f64 x1)), (Is (.float .f64 y1))]))), (5, (.box 29 (PR (Zv A k1) (Zv (((D : Nat) : Int)) k2))))] [(7, iV 0), (8, bF), (9, iV 90)] _ _ _)
  refine wp_stmt_seq [.val (SF [(Is (.float .f64 x)), (Is (.float .f64 y))]), .val (PR (Zv A k1) (Zv (((D : Nat) : Int)) k2)), .val ((TWO (IS (.bool (hoB px py A D))) (IS (.int .i64 0))) w.heap.size), .val ((TWO (IS (.bool (hoB px py A D))) (IS (.int .i64 0))) w.heap.size), .val (Is (.bool (hoB px py A D))), .val (iV 0), .val (Is (.bool (hoB px py A D))), .val (iV 0)] [.inr 0, .inr 1, .inr 2] [.inl 6, .inl 7, .inr 0, .inr 1, .inr 2] follows S2 rfl (by kernel_rfl) ?_ ?_
  · repeat' refine And.intro ?_ ?_
    · trivial
    · exact lod 0 wA (loads_of strct_ival shp_iv)
    · exact lod 2 wA (loads_of strct_rat (shp_pr shp_zv shp_zv))
    · exact cc2 wA (qO 0 23 rfl) (qO 1 24 rfl) (fresh_two (fresh_is _) (fresh_is _)) (h_holds hx hy h hpx hpy hD b1 b2)
    · exact mO 2 25
    · exact e20 wA (oO 3 22)
    · exact e21 wA (oO 3 22)
    · exact mO 4 26
    · exact mO 5 27
  intro B3 a3 W3 (S3 : Sta w 121 [(3, (.box 38 (SF [(Is (.float .f64 x)), (Is (.float .f64 y))]))), (4, (.box 38 (SF [(Is (.float .f64 x1)), (Is (.float .f64 y1))]))), (5, (.box 29 (PR (Zv A k1) (Zv (((D : Nat) : Int)) k2))))] [(10, Is (.bool (hoB px py A D))), (11, iV 0), (7, iV 0), (8, bF), (9, iV 90)] _ _ _)
  refine wp_stmt_seq [.val (SF [(Is (.float .f64 x)), (Is (.float .f64 y))]), kT, kT] [.inr 0, .inr 1, .inr 2] [.inl 2, .inr 0, .inr 1, .inr 2, .inr 3, .inr 4] follows S3 rfl (by kernel_rfl) ?_ ?_
  · refine ⟨⟨⟨trivial, ?_⟩, ?_⟩, ?_⟩
    · exact lod 0 wA (loads_of strct_ival shp_iv)
    · exact cc1 wA (qO 0 28 rfl) (fresh_is _) (ix1 (fun w => rvalid_t w _ _ hx hy h))
    · exact mO 1 29
  intro B4 a4 W4 (S4 : Sta w 121 [(3, (.box 38 (SF [(Is (.float .f64 x)), (Is (.float .f64 y))]))), (4, (.box 38 (SF [(Is (.float .f64 x1)), (Is (.float .f64 y1))]))), (5, (.box 29 (PR (Zv A k1) (Zv (((D : Nat) : Int)) k2))))] [(12, bT), (10, Is (.bool (hoB px py A D))), (11, iV 0), (7, iV 0), (8, bF), (9, iV 90)] _ _ _)
  refine wp_seq ?_
  refine wp_stmt_seq [.val (SF [(Is (.float .f64 x)), (Is (.float .f64 y))]), .val (iV 0), kT, kT, kF, kF, kT, kF, kF, .off, .off, .off, kF, kF] [.inr 0, .inr 1, .inr 2] [.inl 13, .inr 0, .inr 1, .inr 2, .inr 3, .inr 4, .inr 5] follows S4 rfl (by kernel_rfl) ?_ ?_
  · repeat' refine And.intro ?_ ?_
    · trivial
    · exact lod 0 wA (loads_of strct_ival shp_iv)
    · exact cc1 wA (qO 0 30 rfl) (fresh_is _) (ix1 (fun w => ivalid_t w x y hx hy h))
    · exact b_eql_errno_t wA (oO 1 31) (opnd_const _) (h := by decide)
    · exact mS 0 12
    · exact b_neq_bool wA (oO 2 32) (oO 3 33)
    · exact mO 4 34
    · exact mW (wI 5 35) (oS 0 12)
    · exact b_not (wI 5 35) (oO 6 36)
    · exact mW (wI 5 35) (oO 7 37)
    · exact oF 8 38
    · exact oF 8 38
    · exact oF 8 38
    · exact pF (wI 5 35) (oO 8 38) (opnd_const _)
    · exact pF wA (oO 5 35) (oO 12 42)
  intro B5 a5 W5 (S5 : Sta w 121 [(3, (.box 38 (SF [(Is (.float .f64 x)), (Is (.float .f64 y))]))), (4, (.box 38 (SF [(Is (.float .f64 x1)), (Is (.float .f64 y1))]))), (5, (.box 29 (PR (Zv A k1) (Zv (((D : Nat) : Int)) k2))))] [(43, bF), (12, bT), (10, Is (.bool (hoB px py A D))), (11, iV 0), (7, iV 0), (8, bF), (9, iV 90)] _ _ _)
  refine wp_cond_false (S5.bool 0 43 rfl) ?_
  refine wp_skip ?_
  refine thenN ?_
  refine wp_seq ?_
  refine wp_stmt_seq [kT, kF] [.inr 0, .inr 1, .inr 2] [.inl 1, .inr 2, .inr 3, .inr 4, .inr 5, .inr 6] follows S5 rfl (by kernel_rfl) ?_ ?_
  · refine ⟨⟨trivial, ?_⟩, ?_⟩
    · exact mS 1 12
    · exact b_not wA (oO 0 44)
  intro B6 a6 W6 (S6 : Sta w 121 [(3, (.box 38 (SF [(Is (.float .f64 x)), (Is (.float .f64 y))]))), (4, (.box 38 (SF [(Is (.float .f64 x1)), (Is (.float .f64 y1))]))), (5, (.box 29 (PR (Zv A k1) (Zv (((D : Nat) : Int)) k2))))] [(45, bF), (10, Is (.bool (hoB px py A D))), (11, iV 0), (7, iV 0), (8, bF), (9, iV 90)] _ _ _)
  refine wp_cond_false (S6.bool 0 45 rfl) ?_
  refine wp_skip ?_
  refine thenN ?_
  refine wp_seq ?_
  refine wp_stmt_seq [.val (PR (Zv A k1) (Zv (((D : Nat) : Int)) k2)), kT, kF] [.inr 0, .inr 1, .inr 2] [.inl 2, .inr 1, .inr 2, .inr 3, .inr 4, .inr 5] follows S6 rfl (by kernel_rfl) ?_ ?_
  · refine ⟨⟨⟨trivial, ?_⟩, ?_⟩, ?_⟩
    · exact lod 2 wA (loads_of strct_rat (shp_pr shp_zv shp_zv))
    · exact cc1 wA (qO 0 67 rfl) (fresh_is _) (h_rval b1 b2 (decide_eq_true (sgn_pos hD)))
    · exact b_not wA (oO 1 68)
  intro B7 a7 W7 (S7 : Sta w 121 [(3, (.box 38 (SF [(Is (.float .f64 x)), (Is (.float .f64 y))]))), (4, (.box 38 (SF [(Is (.float .f64 x1)), (Is (.float .f64 y1))]))), (5, (.box 29 (PR (Zv A k1) (Zv (((D : Nat) : Int)) k2))))] [(69, bF), (10, Is (.bool (hoB px py A D))), (11, iV 0), (7, iV 0), (8, bF), (9, iV 90)] _ _ _)
  refine wp_cond_false (S7.bool 0 69 rfl) ?_
  refine wp_stmt_seq [.val (iV 0), kF, kF, .val (Is (.bool (hoB px py A D))), .val (SF [(Is (.float .f64 x)), (Is (.float .f64 y))]), .val (PR (Zv A k1) (Zv (((D : Nat) : Int)) k2)), .val (Is (.bool (hoB px py A D))), kF, kF] [.inr 0, .inr 1] [.inl 8, .inr 3, .inr 4, .inr 5] follows S7 rfl (by kernel_rfl) ?_ ?_
  · repeat' refine And.intro ?_ ?_
    · trivial
    · exact mS 2 11
    · exact b_neq_errno_f wA (oO 0 75) (opnd_const _) (h := by decide)
    · exact mO 1 76
    · exact mW (wI 2 77) (oS 1 10)
    · exact lod 0 (wI 2 77) (loads_of strct_ival shp_iv)
    · exact lod 2 (wI 2 77) (loads_of strct_rat (shp_pr shp_zv shp_zv))
    · exact cc2 (wI 2 77) (qO 4 79 rfl) (qO 5 80 rfl) (fresh_is _) (h_rholds hx hy hpx hpy hD b1 b2)
    · exact owe_bin rfl (wI 2 77) rfl (oO 3 78) (oO 6 81) rfl (fun ρ w h1 h2 => by exact run_neq_self ρ _ _ _ w _ h1 h2)
    · exact pF wA (oO 2 77) (oO 7 82)
  intro B8 a8 W8 (S8 : Sta w 121 [(3, (.box 38 (SF [(Is (.float .f64 x)), (Is (.float .f64 y))]))), (4, (.box 38 (SF [(Is (.float .f64 x1)), (Is (.float .f64 y1))])))] [(83, bF), (7, iV 0), (8, bF), (9, iV 90)] _ _ _)
  refine wp_cond_false (S8.bool 0 83 rfl) ?_
  refine wp_skip ?_
  refine thenN ?_
  refine wp_seq ?_
  refine wp_stmt_seq [.val (SF [(Is (.float .f64 x1)), (Is (.float .f64 y1))]), kF, kT] [.inr 0, .inr 1] [.inl 2, .inr 1, .inr 2, .inr 3] follows S8 rfl (by kernel_rfl) ?_ ?_
  · refine ⟨⟨⟨trivial, ?_⟩, ?_⟩, ?_⟩
    · exact lod 1 wA (loads_of strct_ival shp_iv)
    · exact cc1 wA (qO 0 84 rfl) (fresh_is _) (ix1 (fun w => rvalid_f w _ _ hx1 hy1 h'))
    · exact b_not wA (oO 1 85)
  intro B9 a9 W9 (S9 : Sta w 121 [(3, (.box 38 (SF [(Is (.float .f64 x)), (Is (.float .f64 y))]))), (4, (.box 38 (SF [(Is (.float .f64 x1)), (Is (.float .f64 y1))])))] [(86, bT), (7, iV 0), (8, bF), (9, iV 90)] _ _ _)
  refine wp_cond_true (S9.bool 0 86 rfl) ?_
  refine wp_stmt_seq [.val (iV 90), kT, kT, .val (iV 0), kT, kT, kT, kF, kT, kT, kT, kT, kT, kT] [.inr 0, .inr 1] [.inl 13] follows S9 rfl (by kernel_rfl) ?_ ?_
  · repeat' refine And.intro ?_ ?_
    · trivial
    · exact mS 3 9
    · exact b_eql_errno_t wA (oO 0 87) (opnd_const _) (h := by decide)
    · exact mO 1 88
    · exact mW (wI 2 89) (oS 1 7)
    · exact b_eql_int_t (wI 2 89) (oO 3 90) (opnd_const _) (h := rfl)
    · exact pT wA (oO 2 89) (oO 4 91)
    · exact mO 5 92
    · exact mW (wI 6 93) (oS 2 8)
    · exact b_not (wI 6 93) (oO 7 94)
    · exact pT wA (oO 6 93) (oO 8 95)
    · exact mO 9 96
    · exact owe_call0 rfl (wI 10 97) rfl  (fresh_is _) rfl (fun args w => by go_simp) awake_w
    · exact pT wA (oO 10 97) (oO 11 98)
    · exact mO 12 99
  intro B10 a10 W10 (S10 : Sta w 121 [(3, (.box 38 (SF [(Is (.float .f64 x)), (Is (.float .f64 y))]))), (4, (.box 38 (SF [(Is (.float .f64 x1)), (Is (.float .f64 y1))])))] [(6, bT)] _ _ _)
  refine wp_ret ?_
  refine thenR ?_
  exact end_one S10 rfl (res_tmp S10 0 6 rfl)
set_option maxHeartbeats 2000000 in
theorem ivalorders_ttb (w : World) (x y x1 y1 : Nat) (hx : x < 18446744073709551616) (hy : y < 18446744073709551616) (hx1 : x1 < 18446744073709551616) (hy1 : y1 < 18446744073709551616) (h : okI x y = true) (h' : okI x1 y1 = true) (px py qx qy : Int) (hpx : plc x = some px) (hpy : plc y = some py) (hqx : plc x1 = some qx) (hqy : plc y1 = some qy) (A D : Int) (k1 k2 : Nat) (r : Value) (hr : Has (fun _ => False) w (Rv A D k1 k2) r) (b1 : k1 ≤ 8388608) (b2 : k2 ≤ 8388608) (hD : D ≤ 0) :
    Calls Tryz.prog 6 #[(.agg #[.float .f64 x, .float .f64 y]), (.agg #[.float .f64 x1, .float .f64 y1]), r] w (Gives (IS (.bool true)) w) := by
  refine calls_sta (sl := [(0, (SF [(Is (.float .f64 x)), (Is (.float .f64 y))])), (1, (SF [(Is (.float .f64 x1)), (Is (.float .f64 y1))])), (2, (PR (Zv A k1) (Zv D k2)))]) Tryz.func6 rfl Tryz.ntmps6 (by simp) (args_cons rfl (ix_has) (args_cons rfl (ix_has) (args_cons rfl (hr) args_nil))) ?_
  intro a0 S0
  refine wp_stmt_seq [.new (.box 38 (SF [(Is (.float .f64 x)), (Is (.float .f64 y))])), .new (.box 38 (SF [(Is (.float .f64 x1)), (Is (.float .f64 y1))])), .new (.box 29 (PR (Zv A k1) (Zv D k2))), kF] [.inl 0, .inl 1, .inl 2] [] follows S0 rfl (by kernel_rfl) ?_ ?_
  · refine ⟨⟨⟨⟨trivial, ?_⟩, ?_⟩, ?_⟩, ?_⟩
    · exact owe_box rfl wA rfl (oS 0 0) rfl (fun ρ w h => box_ival shp_iv ρ _ _ w h)
    · exact owe_box rfl wA rfl (oS 1 1) rfl (fun ρ w h => box_ival shp_iv ρ _ _ w h)
    · exact owe_box rfl wA rfl (oS 2 2) rfl (fun ρ w h => box_rat (shp_pr shp_zv shp_zv) ρ _ _ w h)
    · exact mC
  intro B1 a1 W1 (S1 : Sta w 121 [(3, (.box 38 (SF [(Is (.float .f64 x)), (Is (.float .f64 y))]))), (4, (.box 38 (SF [(Is (.float .f64 x1)), (Is (.float .f64 y1))]))), (5, (.box 29 (PR (Zv A k1) (Zv D k2))))] [] _ _ _)
  refine wp_stmt_seq [.val (SF [(Is (.float .f64 x)), (Is (.float .f64 y))]), .val (SF [(Is (.float .f64 x1)), (Is (.float .f64 y1))]), .val ((THREE (IS (.int .i64 (cmN px py qx qy))) (IS (.bool (cmS px py qx qy))) (IS (.int .i64 0))) w.heap.size), .val ((THREE (IS (.int .i64 (cmN px py qx qy))) (IS (.bool (cmS px py qx qy))) (IS (.int .i64 0))) w.heap.size), .val (iV (cmN px py qx qy)), .val (Is (.bool (cmS px py qx qy))), .val (iV 0), .val (iV (cmN px py qx qy)), .val (Is (.bool (cmS px py qx qy))), .val (iV 0)] [.inr 0, .inr 1, .inr 2] [.inl 7, .inl 8, .inl 9] follows S1 rfl (by kernel_rfl) ?_ ?_
  · repeat' refine And.intro ?_ ?_
    · trivial
    · exact lod 0 wA (loads_of strct_ival shp_iv)
    · exact lod 1 wA (loads_of strct_ival shp_iv)
    · exact cc2 wA (qO 0 16 rfl) (qO 1 17 rfl) (fresh_three (fresh_is _) (fresh_is _) (fresh_is _)) (ix2 (fun w => icmp_tt w x y x1 y1 hx hy hx1 hy1 h h' px py qx qy hpx hpy hqx hqy))
    · exact mO 2 18
    · exact e30 wA (oO 3 15)
    · exact e31 wA (oO 3 15)
    · exact e32 wA (oO 3 15)
    · exact mO 4 19
    · exact mO 5 20
    · exact mO 6 21
  intro B2 a2 W2 (S2 : Sta w 121 [(3, (.box 38 (SF [(Is (.float .f64 x)), (Is (.float .f64 y))]))), (4, (.box 38 (SF [(Is (.float .f64 x1)), (Is (.float .f64 y1))]))), (5, (.box 29 (PR (Zv A k1) (Zv D k2))))] [(7, iV (cmN px py qx qy)), (8, Is (.bool (cmS px py qx qy))), (9, iV 0)] _ _ _)
  refine wp_stmt_seq [.val (SF [(Is (.float .f64 x)), (Is (.float .f64 y))]), .val (PR (Zv A k1) (Zv D k2)), .val ((TWO (IS (.bool false)) (IS (.int .i64 30))) w.heap.size), .val ((TWO (IS (.bool false)) (IS (.int .i64 30))) w.heap.size), kF, .val (iV 30), kF, .val (iV 30)] [.inr 0, .inr 1, .inr 2] [.inl 6, .inl 7, .inr 0, .inr 1, .inr 2] follows S2 rfl (by kernel_rfl) ?_ ?_
  · repeat' refine And.intro ?_ ?_
    · trivial
    · exact lod 0 wA (loads_of strct_ival shp_iv)
    · exact lod 2 wA (loads_of strct_rat (shp_pr shp_zv shp_zv))
    · exact cc2 wA (qO 0 23 rfl) (qO 1 24 rfl) (fresh_two (fresh_is _) (fresh_is _)) (fun w u v e h1 => by rw [ix_eq e]; exact ihold_r w x y hx hy h A D k1 k2 v (rv_has h1) b1 b2 hD)
    · exact mO 2 25
    · exact e20 wA (oO 3 22)
    · exact e21 wA (oO 3 22)
    · exact mO 4 26
    · exact mO 5 27
  intro B3 a3 W3 (S3 : Sta w 121 [(3, (.box 38 (SF [(Is (.float .f64 x)), (Is (.float .f64 y))]))), (4, (.box 38 (SF [(Is (.float .f64 x1)), (Is (.float .f64 y1))]))), (5, (.box 29 (PR (Zv A k1) (Zv D k2))))] [(10, bF), (11, iV 30), (7, iV (cmN px py qx qy)), (8, Is (.bool (cmS px py qx qy))), (9, iV 0)] _ _ _)
  refine wp_stmt_seq [.val (SF [(Is (.float .f64 x)), (Is (.float .f64 y))]), kT, kT] [.inr 0, .inr 1, .inr 2] [.inl 2, .inr 0, .inr 1, .inr 2, .inr 3, .inr 4] follows S3 rfl (by kernel_rfl) ?_ ?_
  · refine ⟨⟨⟨trivial, ?_⟩, ?_⟩, ?_⟩
    · exact lod 0 wA (loads_of strct_ival shp_iv)
    · exact cc1 wA (qO 0 28 rfl) (fresh_is _) (ix1 (fun w => rvalid_t w _ _ hx hy h))
    · exact mO 1 29
  intro B4 a4 W4 (S4 : Sta w 121 [(3, (.box 38 (SF [(Is (.float .f64 x)), (Is (.float .f64 y))]))), (4, (.box 38 (SF [(Is (.float .f64 x1)), (Is (.float .f64 y1))]))), (5, (.box 29 (PR (Zv A k1) (Zv D k2))))] [(12, bT), (10, bF), (11, iV 30), (7, iV (cmN px py qx qy)), (8, Is (.bool (cmS px py qx qy))), (9, iV 0)] _ _ _)
  refine wp_seq ?_
  refine wp_stmt_seq [.val (SF [(Is (.float .f64 x)), (Is (.float .f64 y))]), .val (iV 0), kT, kT, kF, kF, kT, kF, kF, .off, .off, .off, kF, kF] [.inr 0, .inr 1, .inr 2] [.inl 13, .inr 0, .inr 1, .inr 2, .inr 3, .inr 4, .inr 5] follows S4 rfl (by kernel_rfl) ?_ ?_
  · repeat' refine And.intro ?_ ?_
    · trivial
    · exact lod 0 wA (loads_of strct_ival shp_iv)
    · exact cc1 wA (qO 0 30 rfl) (fresh_is _) (ix1 (fun w => ivalid_t w x y hx hy h))
    · exact b_eql_errno_t wA (oO 1 31) (opnd_const _) (h := by decide)
    · exact mS 0 12
    · exact b_neq_bool wA (oO 2 32) (oO 3 33)
    · exact mO 4 34
    · exact mW (wI 5 35) (oS 0 12)
    · exact b_not (wI 5 35) (oO 6 36)
    · exact mW (wI 5 35) (oO 7 37)
    · exact oF 8 38
    · exact oF 8 38
    · exact oF 8 38
    · exact pF (wI 5 35) (oO 8 38) (opnd_const _)
    · exact pF wA (oO 5 35) (oO 12 42)
  intro B5 a5 W5 (S5 : Sta w 121 [(3, (.box 38 (SF [(Is (.float .f64 x)), (Is (.float .f64 y))]))), (4, (.box 38 (SF [(Is (.float .f64 x1)), (Is (.float .f64 y1))]))), (5, (.box 29 (PR (Zv A k1) (Zv D k2))))] [(43, bF), (12, bT), (10, bF), (11, iV 30), (7, iV (cmN px py qx qy)), (8, Is (.bool (cmS px py qx qy))), (9, iV 0)] _ _ _)
  refine wp_cond_false (S5.bool 0 43 rfl) ?_
  refine wp_skip ?_
  refine thenN ?_
  refine wp_seq ?_
  refine wp_stmt_seq [kT, kF] [.inr 0, .inr 1, .inr 2] [.inl 1, .inr 2, .inr 3, .inr 4, .inr 5, .inr 6] follows S5 rfl (by kernel_rfl) ?_ ?_
  · refine ⟨⟨trivial, ?_⟩, ?_⟩
    · exact mS 1 12
    · exact b_not wA (oO 0 44)
  intro B6 a6 W6 (S6 : Sta w 121 [(3, (.box 38 (SF [(Is (.float .f64 x)), (Is (.float .f64 y))]))), (4, (.box 38 (SF [(Is (.float .f64 x1)), (Is (.float .f64 y1))]))), (5, (.box 29 (PR (Zv A k1) (Zv D k2))))] [(45, bF), (10, bF), (11, iV 30), (7, iV (cmN px py qx qy)), (8, Is (.bool (cmS px py qx qy))), (9, iV 0)] _ _ _)
  refine wp_cond_false (S6.bool 0 45 rfl) ?_
  refine wp_skip ?_
  refine thenN ?_
  refine wp_seq ?_
  refine wp_stmt_seq [.val (PR (Zv A k1) (Zv D k2)), kF, kT] [.inr 0, .inr 1, .inr 2] [.inl 2, .inr 1, .inr 2, .inr 3, .inr 4, .inr 5] follows S6 rfl (by kernel_rfl) ?_ ?_
  · refine ⟨⟨⟨trivial, ?_⟩, ?_⟩, ?_⟩
    · exact lod 2 wA (loads_of strct_rat (shp_pr shp_zv shp_zv))
    · exact cc1 wA (qO 0 67 rfl) (fresh_is _) (h_rval b1 b2 (decide_eq_false (Int.not_lt.2 (sgn_not hD))))
    · exact b_not wA (oO 1 68)
  intro B7 a7 W7 (S7 : Sta w 121 [(3, (.box 38 (SF [(Is (.float .f64 x)), (Is (.float .f64 y))]))), (4, (.box 38 (SF [(Is (.float .f64 x1)), (Is (.float .f64 y1))]))), (5, (.box 29 (PR (Zv A k1) (Zv D k2))))] [(69, bT), (10, bF), (11, iV 30), (7, iV (cmN px py qx qy)), (8, Is (.bool (cmS px py qx qy))), (9, iV 0)] _ _ _)
  refine wp_cond_true (S7.bool 0 69 rfl) ?_
  refine wp_stmt_seq [.val (iV 30), kF, kF, kF, kF] [.inr 0, .inr 1] [.inl 4, .inr 3, .inr 4, .inr 5] follows S7 rfl (by kernel_rfl) ?_ ?_
  · refine ⟨⟨⟨⟨⟨trivial, ?_⟩, ?_⟩, ?_⟩, ?_⟩, ?_⟩
    · exact mS 2 11
    · exact b_neq_errno_f wA (oO 0 70) (opnd_const _) (h := by decide)
    · exact mO 1 71
    · exact mW (wI 2 72) (oS 1 10)
    · exact pF wA (oO 2 72) (oO 3 73)
  intro B8 a8 W8 (S8 : Sta w 121 [(3, (.box 38 (SF [(Is (.float .f64 x)), (Is (.float .f64 y))]))), (4, (.box 38 (SF [(Is (.float .f64 x1)), (Is (.float .f64 y1))])))] [(74, bF), (7, iV (cmN px py qx qy)), (8, Is (.bool (cmS px py qx qy))), (9, iV 0)] _ _ _)
  refine wp_cond_false (S8.bool 0 74 rfl) ?_
  refine wp_skip ?_
  refine thenN ?_
  refine wp_seq ?_
  refine wp_stmt_seq [.val (SF [(Is (.float .f64 x1)), (Is (.float .f64 y1))]), kT, kF] [.inr 0, .inr 1] [.inl 2, .inr 1, .inr 2, .inr 3] follows S8 rfl (by kernel_rfl) ?_ ?_
  · refine ⟨⟨⟨trivial, ?_⟩, ?_⟩, ?_⟩
    · exact lod 1 wA (loads_of strct_ival shp_iv)
    · exact cc1 wA (qO 0 84 rfl) (fresh_is _) (ix1 (fun w => rvalid_t w _ _ hx1 hy1 h'))
    · exact b_not wA (oO 1 85)
  intro B9 a9 W9 (S9 : Sta w 121 [(3, (.box 38 (SF [(Is (.float .f64 x)), (Is (.float .f64 y))]))), (4, (.box 38 (SF [(Is (.float .f64 x1)), (Is (.float .f64 y1))])))] [(86, bF), (7, iV (cmN px py qx qy)), (8, Is (.bool (cmS px py qx qy))), (9, iV 0)] _ _ _)
  refine wp_cond_false (S9.bool 0 86 rfl) ?_
  refine wp_skip ?_
  refine thenN ?_
  refine wp_stmt_seq [.val (SF [(Is (.float .f64 x)), (Is (.float .f64 y))]), .val (SF [(Is (.float .f64 x1)), (Is (.float .f64 y1))]), .val ((TWO (IS (.int .i64 (cmN px py qx qy))) (IS (.bool (cmS px py qx qy)))) w.heap.size), .val ((TWO (IS (.int .i64 (cmN px py qx qy))) (IS (.bool (cmS px py qx qy)))) w.heap.size), .val (iV (cmN px py qx qy)), .val (Is (.bool (cmS px py qx qy))), .val (iV (cmN px py qx qy)), .val (Is (.bool (cmS px py qx qy)))] [.inr 0, .inr 1] [.inl 6, .inl 7, .inr 1, .inr 2, .inr 3] follows S9 rfl (by kernel_rfl) ?_ ?_
  · repeat' refine And.intro ?_ ?_
    · trivial
    · exact lod 0 wA (loads_of strct_ival shp_iv)
    · exact lod 1 wA (loads_of strct_ival shp_iv)
    · exact cc2 wA (qO 0 101 rfl) (qO 1 102 rfl) (fresh_two (fresh_is _) (fresh_is _)) (ix2 (fun w => ircmp_w w x y x1 y1 hx hy hx1 hy1 px py qx qy hpx hpy hqx hqy))
    · exact mO 2 103
    · exact e20 wA (oO 3 100)
    · exact e21 wA (oO 3 100)
    · exact mO 4 104
    · exact mO 5 105
  intro B10 a10 W10 (S10 : Sta w 121 [(3, (.box 38 (SF [(Is (.float .f64 x)), (Is (.float .f64 y))]))), (4, (.box 38 (SF [(Is (.float .f64 x1)), (Is (.float .f64 y1))])))] [(13, iV (cmN px py qx qy)), (14, Is (.bool (cmS px py qx qy))), (7, iV (cmN px py qx qy)), (8, Is (.bool (cmS px py qx qy))), (9, iV 0)] _ _ _)
  refine wp_stmt_seq [.val (iV 0), kT, kT, .val (iV (cmN px py qx qy)), .val (iV (cmN px py qx qy)), kT, kT, kT, .val (Is (.bool (cmS px py qx qy))), .val (Is (.bool (cmS px py qx qy))), kT, kT, kT, kT, kT, kT] [.inr 0, .inr 1] [.inl 15] follows S10 rfl (by kernel_rfl) ?_ ?_
  · repeat' refine And.intro ?_ ?_
    · trivial
    · exact mS 4 9
    · exact b_eql_errno_t wA (oO 0 106) (opnd_const _) (h := by decide)
    · exact mO 1 107
    · exact mW (wI 2 108) (oS 2 7)
    · exact mW (wI 2 108) (oS 0 13)
    · exact b_eql_int_t (wI 2 108) (oO 3 109) (oO 4 110) (h := rfl)
    · exact pT wA (oO 2 108) (oO 5 111)
    · exact mO 6 112
    · exact mW (wI 7 113) (oS 3 8)
    · exact mW (wI 7 113) (oS 1 14)
    · exact owe_bin rfl (wI 7 113) rfl (oO 8 114) (oO 9 115) rfl (fun ρ w h1 h2 => by exact run_eql_self ρ _ _ _ w _ h1 h2)
    · exact pT wA (oO 7 113) (oO 10 116)
    · exact mO 11 117
    · exact owe_call0 rfl (wI 12 118) rfl  (fresh_is _) rfl (fun args w => by go_simp) awake_w
    · exact pT wA (oO 12 118) (oO 13 119)
    · exact mO 14 120
  intro B11 a11 W11 (S11 : Sta w 121 [(3, (.box 38 (SF [(Is (.float .f64 x)), (Is (.float .f64 y))]))), (4, (.box 38 (SF [(Is (.float .f64 x1)), (Is (.float .f64 y1))])))] [(6, bT)] _ _ _)
  refine wp_ret ?_
  exact end_one S11 rfl (res_tmp S11 0 6 rfl)
set_option maxHeartbeats 2000000 in
theorem ivalorders_ttg (w : World) (x y x1 y1 : Nat) (hx : x < 18446744073709551616) (hy : y < 18446744073709551616) (hx1 : x1 < 18446744073709551616) (hy1 : y1 < 18446744073709551616) (h : okI x y = true) (h' : okI x1 y1 = true) (px py qx qy : Int) (hpx : plc x = some px) (hpy : plc y = some py) (hqx : plc x1 = some qx) (hqy : plc y1 = some qy) (A : Int) (D k1 k2 : Nat) (r : Value) (hr : Has (fun _ => False) w (Rv A ((D : Nat) : Int) k1 k2) r) (hD : D ≠ 0) (b1 : k1 ≤ 8388608) (b2 : k2 ≤ 8388608) :
    Calls Tryz.prog 6 #[(.agg #[.float .f64 x, .float .f64 y]), (.agg #[.float .f64 x1, .float .f64 y1]), r] w (Gives (IS (.bool true)) w) := by
  refine calls_sta (sl := [(0, (SF [(Is (.float .f64 x)), (Is (.float .f64 y))])), (1, (SF [(Is (.float .f64 x1)), (Is (.float .f64 y1))])), (2, (PR (Zv A k1) (Zv (((D : Nat) : Int)) k2)))]) Tryz.func6 rfl Tryz.ntmps6 (by simp) (args_cons rfl (ix_has) (args_cons rfl (ix_has) (args_cons rfl (hr) args_nil))) ?_
  intro a0 S0
  refine wp_stmt_seq [.new (.box 38 (SF [(Is (.float .f64 x)), (Is (.float .f64 y))])), .new (.box 38 (SF [(Is (.float .f64 x1)), (Is (.float .f64 y1))])), .new (.box 29 (PR (Zv A k1) (Zv (((D : Nat) : Int)) k2))), kF] [.inl 0, .inl 1, .inl 2] [] follows S0 rfl (by kernel_rfl) ?_ ?_
  · refine ⟨⟨⟨⟨trivial, ?_⟩, ?_⟩, ?_⟩, ?_⟩
    · exact owe_box rfl wA rfl (oS 0 0) rfl (fun ρ w h => box_ival shp_iv ρ _ _ w h)
    · exact owe_box rfl wA rfl (oS 1 1) rfl (fun ρ w h => box_ival shp_iv ρ _ _ w h)
    · exact owe_box rfl wA rfl (oS 2 2) rfl (fun ρ w h => box_rat (shp_pr shp_zv shp_zv) ρ _ _ w h)
    · exact mC
  intro B1 a1 W1 (S1 : Sta w 121 [(3, (.box 38 (SF [(Is (.float .f64 x)), (Is (.float .f64 y))]))), (4, (.box 38 (SF [(Is (.float .f64 x1)), (Is (.float .f64 y1))]))), (5, (.box 29 (PR (Zv A k1) (Zv (((D : Nat) : Int)) k2))))] [] _ _ _)
  refine wp_stmt_seq [.val (SF [(Is (.float .f64 x)), (Is (.float .f64 y))]), .val (SF [(Is (.float .f64 x1)), (Is (.float .f64 y1))]), .val ((THREE (IS (.int .i64 (cmN px py qx qy))) (IS (.bool (cmS px py qx qy))) (IS (.int .i64 0))) w.heap.size), .val ((THREE (IS (.int .i64 (cmN px py qx qy))) (IS (.bool (cmS px py qx qy))) (IS (.int .i64 0))) w.heap.size), .val (iV (cmN px py qx qy)), .val (Is (.bool (cmS px py qx qy))), .val (iV 0), .val (iV (cmN px py qx qy)), .val (Is (.bool (cmS px py qx qy))), .val (iV 0)] [.inr 0, .inr 1, .inr 2] [.inl 7, .inl 8, .inl 9] follows S1 rfl (by kernel_rfl) ?_ ?_
  · repeat' refine And.intro ?_ ?_
    · trivial
    · exact lod 0 wA (loads_of strct_ival shp_iv)
    · exact lod 1 wA (loads_of strct_ival shp_iv)
    · exact cc2 wA (qO 0 16 rfl) (qO 1 17 rfl) (fresh_three (fresh_is _) (fresh_is _) (fresh_is _)) (ix2 (fun w => icmp_tt w x y x1 y1 hx hy hx1 hy1 h h' px py qx qy hpx hpy hqx hqy))
    · exact mO 2 18
    · exact e30 wA (oO 3 15)
    · exact e31 wA (oO 3 15)
    · exact e32 wA (oO 3 15)
    · exact mO 4 19
    · exact mO 5 20
    · exact mO 6 21
  intro B2 a2 W2 (S2 : Sta w 121 [(3, (.box 38 (SF [(Is (.float .f64 x)), (Is (.float .f64 y))]))), (4, (.box 38 (SF [(Is (.float .f64 x1)), (Is (.float .f64 y1))]))), (5, (.box 29 (PR (Zv A k1) (Zv (((D : Nat) : Int)) k2))))] [(7, iV (cmN px py qx qy)), (8, Is (.bool (cmS px py qx qy))), (9, iV 0)] _ _ _)
  refine wp_stmt_seq [.val (SF [(Is (.float .f64 x)), (Is (.float .f64 y))]), .val (PR (Zv A k1) (Zv (((D : Nat) : Int)) k2)), .val ((TWO (IS (.bool (hoB px py A D))) (IS (.int .i64 0))) w.heap.size), .val ((TWO (IS (.bool (hoB px py A D))) (IS (.int .i64 0))) w.heap.size), .val (Is (.bool (hoB px py A D))), .val (iV 0), .val (Is (.bool (hoB px py A D))), .val (iV 0)] [.inr 0, .inr 1, .inr 2] [.inl 6, .inl 7, .inr 0, .inr 1, .inr 2] follows S2 rfl (by kernel_rfl) ?_ ?_
  · repeat' refine And.intro ?_ ?_
    · trivial
    · exact lod 0 wA (loads_of strct_ival shp_iv)
    · exact lod 2 wA (loads_of strct_rat (shp_pr shp_zv shp_zv))
    · exact cc2 wA (qO 0 23 rfl) (qO 1 24 rfl) (fresh_two (fresh_is _) (fresh_is _)) (h_holds hx hy h hpx hpy hD b1 b2)
    · exact mO 2 25
    · exact e20 wA (oO 3 22)
    · exact e21 wA (oO 3 22)
    · exact mO 4 26
    · exact mO 5 27
  intro B3 a3 W3 (S3 : Sta w 121 [(3, (.box 38 (SF [(Is (.float .f64 x)), (Is (.float .f64 y))]))), (4, (.box 38 (SF [(Is (.float .f64 x1)), (Is (.float .f64 y1))]))), (5, (.box 29 (PR (Zv A k1) (Zv (((D : Nat) : Int)) k2))))] [(10, Is (.bool (hoB px py A D))), (11, iV 0), (7, iV (cmN px py qx qy)), (8, Is (.bool (cmS px py qx qy))), (9, iV 0)] _ _ _)
  refine wp_stmt_seq [.val (SF [(Is (.float .f64 x)), (Is (.float .f64 y))]), kT, kT] [.inr 0, .inr 1, .inr 2] [.inl 2, .inr 0, .inr 1, .inr 2, .inr 3, .inr 4] follows S3 rfl (by kernel_rfl) ?_ ?_
  · refine ⟨⟨⟨trivial, ?_⟩, ?_⟩, ?_⟩
    · exact lod 0 wA (loads_of strct_ival shp_iv)
    · exact cc1 wA (qO 0 28 rfl) (fresh_is _) (ix1 (fun w => rvalid_t w _ _ hx hy h))
    · exact mO 1 29
  intro B4 a4 W4 (S4 : Sta w 121 [(3, (.box 38 (SF [(Is (.float .f64 x)), (Is (.float .f64 y))]))), (4, (.box 38 (SF [(Is (.float .f64 x1)), (Is (.float .f64 y1))]))), (5, (.box 29 (PR (Zv A k1) (Zv (((D : Nat) : Int)) k2))))] [(12, bT), (10, Is (.bool (hoB px py A D))), (11, iV 0), (7, iV (cmN px py qx qy)), (8, Is (.bool (cmS px py qx qy))), (9, iV 0)] _ _ _)
  refine wp_seq ?_
  refine wp_stmt_seq [.val (SF [(Is (.float .f64 x)), (Is (.float .f64 y))]), .val (iV 0), kT, kT, kF, kF, kT, kF, kF, .off, .off, .off, kF, kF] [.inr 0, .inr 1, .inr 2] [.inl 13, .inr 0, .inr 1, .inr 2, .inr 3, .inr 4, .inr 5] follows S4 rfl (by kernel_rfl) ?_ ?_
  · repeat' refine And.intro ?_ ?_
    · trivial
    · exact lod 0 wA (loads_of strct_ival shp_iv)
    · exact cc1 wA (qO 0 30 rfl) (fresh_is _) (ix1 (fun w => ivalid_t w x y hx hy h))
    · exact b_eql_errno_t wA (oO 1 31) (opnd_const _) (h := by decide)
    · exact mS 0 12
    · exact b_neq_bool wA (oO 2 32) (oO 3 33)
    · exact mO 4 34
    · exact mW (wI 5 35) (oS 0 12)
    · exact b_not (wI 5 35) (oO 6 36)
    · exact mW (wI 5 35) (oO 7 37)
    · exact oF 8 38
    · exact oF 8 38
    · exact oF 8 38
    · exact pF (wI 5 35) (oO 8 38) (opnd_const _)
    · exact pF wA (oO 5 35) (oO 12 42)
  intro B5 a5 W5 (S5 : Sta w 121 [(3, (.box 38 (SF [(Is (.float .f64 x)), (Is (.float .f64 y))]))), (4, (.box 38 (SF [(Is (.float .f64 x1)), (Is (.float .f64 y1))]))), (5, (.box 29 (PR (Zv A k1) (Zv (((D : Nat) : Int)) k2))))] [(43, bF), (12, bT), (10, Is (.bool (hoB px py A D))), (11, iV 0), (7, iV (cmN px py qx qy)), (8, Is (.bool (cmS px py qx qy))), (9, iV 0)] _ _ _)
  refine wp_cond_false (S5.bool 0 43 rfl) ?_
  refine wp_skip ?_
  refine thenN ?_
  refine wp_seq ?_
  refine wp_stmt_seq [kT, kF] [.inr 0, .inr 1, .inr 2] [.inl 1, .inr 2, .inr 3, .inr 4, .inr 5, .inr 6] follows S5 rfl (by kernel_rfl) ?_ ?_
  · refine ⟨⟨trivial, ?_⟩, ?_⟩
    · exact mS 1 12
    · exact b_not wA (oO 0 44)
  intro B6 a6 W6 (S6 : Sta w 121 [(3, (.box 38 (SF [(Is (.float .f64 x)), (Is (.float .f64 y))]))), (4, (.box 38 (SF [(Is (.float .f64 x1)), (Is (.float .f64 y1))]))), (5, (.box 29 (PR (Zv A k1) (Zv (((D : Nat) : Int)) k2))))] [(45, bF), (10, Is (.bool (hoB px py A D))), (11, iV 0), (7, iV (cmN px py qx qy)), (8, Is (.bool (cmS px py qx qy))), (9, iV 0)] _ _ _)
  refine wp_cond_false (S6.bool 0 45 rfl) ?_
  refine wp_skip ?_
  refine thenN ?_
  refine wp_seq ?_
  refine wp_stmt_seq [.val (PR (Zv A k1) (Zv (((D : Nat) : Int)) k2)), kT, kF] [.inr 0, .inr 1, .inr 2] [.inl 2, .inr 1, .inr 2, .inr 3, .inr 4, .inr 5] follows S6 rfl (by kernel_rfl) ?_ ?_
  · refine ⟨⟨⟨trivial, ?_⟩, ?_⟩, ?_⟩
    · exact lod 2 wA (loads_of strct_rat (shp_pr shp_zv shp_zv))
    · exact cc1 wA (qO 0 67 rfl) (fresh_is _) (h_rval b1 b2 (decide_eq_true (sgn_pos hD)))
    · exact b_not wA (oO 1 68)
  intro B7 a7 W7 (S7 : Sta w 121 [(3, (.box 38 (SF [(Is (.float .f64 x)), (Is (.float .f64 y))]))), (4, (.box 38 (SF [(Is (.float .f64 x1)), (Is (.float .f64 y1))]))), (5, (.box 29 (PR (Zv A k1) (Zv (((D : Nat) : Int)) k2))))] [(69, bF), (10, Is (.bool (hoB px py A D))), (11, iV 0), (7, iV (cmN px py qx qy)), (8, Is (.bool (cmS px py qx qy))), (9, iV 0)] _ _ _)
  refine wp_cond_false (S7.bool 0 69 rfl) ?_
  refine wp_stmt_seq [.val (iV 0), kF, kF, .val (Is (.bool (hoB px py A D))), .val (SF [(Is (.float .f64 x)), (Is (.float .f64 y))]), .val (PR (Zv A k1) (Zv (((D : Nat) : Int)) k2)), .val (Is (.bool (hoB px py A D))), kF, kF] [.inr 0, .inr 1] [.inl 8, .inr 3, .inr 4, .inr 5] follows S7 rfl (by kernel_rfl) ?_ ?_
  · repeat' refine And.intro ?_ ?_
    · trivial
    · exact mS 2 11
    · exact b_neq_errno_f wA (oO 0 75) (opnd_const _) (h := by decide)
    · exact mO 1 76
    · exact mW (wI 2 77) (oS 1 10)
    · exact lod 0 (wI 2 77) (loads_of strct_ival shp_iv)
    · exact lod 2 (wI 2 77) (loads_of strct_rat (shp_pr shp_zv shp_zv))
    · exact cc2 (wI 2 77) (qO 4 79 rfl) (qO 5 80 rfl) (fresh_is _) (h_rholds hx hy hpx hpy hD b1 b2)
    · exact owe_bin rfl (wI 2 77) rfl (oO 3 78) (oO 6 81) rfl (fun ρ w h1 h2 => by exact run_neq_self ρ _ _ _ w _ h1 h2)
    · exact pF wA (oO 2 77) (oO 7 82)
  intro B8 a8 W8 (S8 : Sta w 121 [(3, (.box 38 (SF [(Is (.float .f64 x)), (Is (.float .f64 y))]))), (4, (.box 38 (SF [(Is (.float .f64 x1)), (Is (.float .f64 y1))])))] [(83, bF), (7, iV (cmN px py qx qy)), (8, Is (.bool (cmS px py qx qy))), (9, iV 0)] _ _ _)
  refine wp_cond_false (S8.bool 0 83 rfl) ?_
  refine wp_skip ?_
  refine thenN ?_
  refine wp_seq ?_
  refine wp_stmt_seq [.val (SF [(Is (.float .f64 x1)), (Is (.float .f64 y1))]), kT, kF] [.inr 0, .inr 1] [.inl 2, .inr 1, .inr 2, .inr 3] follows S8 rfl (by kernel_rfl) ?_ ?_
  · refine ⟨⟨⟨trivial, ?_⟩, ?_⟩, ?_⟩
    · exact lod 1 wA (loads_of strct_ival shp_iv)
    · exact cc1 wA (qO 0 84 rfl) (fresh_is _) (ix1 (fun w => rvalid_t w _ _ hx1 hy1 h'))
    · exact b_not wA (oO 1 85)
  intro B9 a9 W9 (S9 : Sta w 121 [(3, (.box 38 (SF [(Is (.float .f64 x)), (Is (.float .f64 y))]))), (4, (.box 38 (SF [(Is (.float .f64 x1)), (Is (.float .f64 y1))])))] [(86, bF), (7, iV (cmN px py qx qy)), (8, Is (.bool (cmS px py qx qy))), (9, iV 0)] _ _ _)
  refine wp_cond_false (S9.bool 0 86 rfl) ?_
  refine wp_skip ?_
  refine thenN ?_
  refine wp_stmt_seq [.val (SF [(Is (.float .f64 x)), (Is (.float .f64 y))]), .val (SF [(Is (.float .f64 x1)), (Is (.float .f64 y1))]), .val ((TWO (IS (.int .i64 (cmN px py qx qy))) (IS (.bool (cmS px py qx qy)))) w.heap.size), .val ((TWO (IS (.int .i64 (cmN px py qx qy))) (IS (.bool (cmS px py qx qy)))) w.heap.size), .val (iV (cmN px py qx qy)), .val (Is (.bool (cmS px py qx qy))), .val (iV (cmN px py qx qy)), .val (Is (.bool (cmS px py qx qy)))] [.inr 0, .inr 1] [.inl 6, .inl 7, .inr 1, .inr 2, .inr 3] follows S9 rfl (by kernel_rfl) ?_ ?_
  · repeat' refine And.intro ?_ ?_
    · trivial
    · exact lod 0 wA (loads_of strct_ival shp_iv)
    · exact lod 1 wA (loads_of strct_ival shp_iv)
    · exact cc2 wA (qO 0 101 rfl) (qO 1 102 rfl) (fresh_two (fresh_is _) (fresh_is _)) (ix2 (fun w => ircmp_w w x y x1 y1 hx hy hx1 hy1 px py qx qy hpx hpy hqx hqy))
    · exact mO 2 103
    · exact e20 wA (oO 3 100)
    · exact e21 wA (oO 3 100)
    · exact mO 4 104
    · exact mO 5 105
  intro B10 a10 W10 (S10 : Sta w 121 [(3, (.box 38 (SF [(Is (.float .f64 x)), (Is (.float .f64 y))]))), (4, (.box 38 (SF [(Is (.float .f64 x1)), (Is (.float .f64 y1))])))] [(13, iV (cmN px py qx qy)), (14, Is (.bool (cmS px py qx qy))), (7, iV (cmN px py qx qy)), (8, Is (.bool (cmS px py qx qy))), (9, iV 0)] _ _ _)
  refine wp_stmt_seq [.val (iV 0), kT, kT, .val (iV (cmN px py qx qy)), .val (iV (cmN px py qx qy)), kT, kT, kT, .val (Is (.bool (cmS px py qx qy))), .val (Is (.bool (cmS px py qx qy))), kT, kT, kT, kT, kT, kT] [.inr 0, .inr 1] [.inl 15] follows S10 rfl (by kernel_rfl) ?_ ?_
  · repeat' refine And.intro ?_ ?_
    · trivial
    · exact mS 4 9
    · exact b_eql_errno_t wA (oO 0 106) (opnd_const _) (h := by decide)
    · exact mO 1 107
    · exact mW (wI 2 108) (oS 2 7)
    · exact mW (wI 2 108) (oS 0 13)
    · exact b_eql_int_t (wI 2 108) (oO 3 109) (oO 4 110) (h := rfl)
    · exact pT wA (oO 2 108) (oO 5 111)
    · exact mO 6 112
    · exact mW (wI 7 113) (oS 3 8)
    · exact mW (wI 7 113) (oS 1 14)
    · exact owe_bin rfl (wI 7 113) rfl (oO 8 114) (oO 9 115) rfl (fun ρ w h1 h2 => by exact run_eql_self ρ _ _ _ w _ h1 h2)
    · exact pT wA (oO 7 113) (oO 10 116)
    · exact mO 11 117
    · exact owe_call0 rfl (wI 12 118) rfl  (fresh_is _) rfl (fun args w => by go_simp) awake_w
    · exact pT wA (oO 12 118) (oO 13 119)
    · exact mO 14 120
  intro B11 a11 W11 (S11 : Sta w 121 [(3, (.box 38 (SF [(Is (.float .f64 x)), (Is (.float .f64 y))]))), (4, (.box 38 (SF [(Is (.float .f64 x1)), (Is (.float .f64 y1))])))] [(6, bT)] _ _ _)
  refine wp_ret ?_
  exact end_one S11 rfl (res_tmp S11 0 6 rfl)

theorem ivalorders_walk (w : World) (x y x1 y1 : Nat) (s : Bool) (p : Option Addr) (n c : Nat) (xs : List Nat) (t : Bool) (q : Option Addr) (m d : Nat) (ys : List Nat) (h2 : Sl w p n c xs) (h3 : Sl w q m d ys) (hx : x < 18446744073709551616) (hy : y < 18446744073709551616) (hx1 : x1 < 18446744073709551616) (hy1 : y1 < 18446744073709551616) (c1 : c ≤ 1048576) (c2 : d ≤ 1048576) : Calls Tryz.prog 6 #[.agg #[.float .f64 x, .float .f64 y], .agg #[.float .f64 x1, .float .f64 y1], .agg #[.bool s, .slice p n c, .bool t, .slice q m d]] w fun e w' => e = .returned (.bool true) ∧ Below w.heap.size w w' := by
  refine Calls.mono (R := Gives (IS (.bool true)) w) ?_ (fun e w' ⟨v, he, hb, hv⟩ => ⟨by rw [he, show v = _ from hv], hb⟩)
  obtain ⟨hn, hm⟩ : n ≤ 8388608 ∧ m ≤ 8388608 := ⟨by have := h2.cap; omega, by have := h3.cap; omega⟩
  have hr : ∀ E, sg t (val ys) = E → Has (fun _ => False) w (Rv (sg s (val xs)) E n m) (.agg #[.bool s, .slice p n c, .bool t, .slice q m d]) := fun E hE => rv_has ⟨_, _, _, _, rfl, ⟨s, p, n, c, xs, rfl, h2, rfl, Nat.le_refl _⟩, ⟨t, q, m, d, ys, rfl, h3, hE, Nat.le_refl _⟩⟩
  cases h : okI x y with
  | false => exact ivalorders_fb w x y x1 y1 hx hy hx1 hy1 h _ _ n m _ (hr _ rfl) hn hm
  | true =>
    obtain ⟨px, py, hpx, hpy, _⟩ := ok_some h
    by_cases hD : sg t (val ys) ≤ 0
    · cases h' : okI x1 y1 with
      | false => exact ivalorders_tfb w x y x1 y1 hx hy hx1 hy1 h h' px py hpx hpy _ _ n m _ (hr _ rfl) hn hm hD
      | true =>
        obtain ⟨qx, qy, hqx, hqy, _⟩ := ok_some h'
        exact ivalorders_ttb w x y x1 y1 hx hy hx1 hy1 h h' px py qx qy hpx hpy hqx hqy _ _ n m _ (hr _ rfl) hn hm hD
    · obtain ⟨D, hE⟩ : ∃ D : Nat, sg t (val ys) = (D : Int) := ⟨(sg t (val ys)).toNat, by omega⟩
      have hD0 : D ≠ 0 := by omega
      cases h' : okI x1 y1 with
      | false => exact ivalorders_tfg w x y x1 y1 hx hy hx1 hy1 h h' px py hpx hpy _ D n m _ (hr _ hE) hD0 hn hm
      | true =>
        obtain ⟨qx, qy, hqx, hqy, _⟩ := ok_some h'
        exact ivalorders_ttg w x y x1 y1 hx hy hx1 hy1 h h' px py qx qy hpx hpy hqx hqy _ D n m _ (hr _ hE) hD0 hn hm
end Go.Proofs.YtgalppimdmjdcaaGreat
