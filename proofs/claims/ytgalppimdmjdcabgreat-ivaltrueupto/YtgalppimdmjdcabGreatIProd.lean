/-
  Products and squares of intervals, and IvalProducts.
-/
import Derived.Test.YtgalppimdmjdcabGreatFlC
import Derived.Test.YtgalppimdmjdcabGreatIAwake
import Derived.Test.YtgalppimdmjdcabGreatJoins
namespace Go.Proofs.YtgalppimdmjdcabGreat
open Go Go.RowKit Nt
set_option linter.unusedSimpArgs false
set_option linter.unusedVariables false
set_option maxRecDepth 20000

theorem gives_f0 {w : World} {e : Ending} {w' : World} (h : Gives (IS (.float .f64 0)) w e w') : Gives (FLN (some 0)) w e w' := by
  obtain ⟨v, he, hb, hv⟩ := h
  exact ⟨v, he, hb, 0, hv, by decide, rfl⟩
theorem lt_t {p q : Int} (h : p < q) : (ordP (some p) (some q) == some .lt) = true := by simp only [ordP]; rw [cmp_lt, decide_eq_true h]
theorem lt_f {p q : Int} (h : ¬ p < q) : (ordP (some p) (some q) == some .lt) = false := by simp only [ordP]; rw [cmp_lt, decide_eq_false h]
theorem gt_t {p q : Int} (h : q < p) : (ordP (some p) (some q) == some .gt) = true := by simp only [ordP]; rw [cmp_gt, decide_eq_true h]
theorem gt_f {p q : Int} (h : ¬ q < p) : (ordP (some p) (some q) == some .gt) = false := by simp only [ordP]; rw [cmp_gt, decide_eq_false h]
theorem le_t {p q : Int} (h : p ≤ q) : (ordP (some p) (some q) == some .lt || ordP (some p) (some q) == some .eq) = true := by simp only [ordP]; rw [cmp_lt, cmp_eq]; simp; omega
theorem le_f {p q : Int} (h : q < p) : (ordP (some p) (some q) == some .lt || ordP (some p) (some q) == some .eq) = false := by simp only [ordP]; rw [cmp_lt, cmp_eq]; simp; omega
theorem ge_t {p q : Int} (h : q ≤ p) : (ordP (some p) (some q) == some .gt || ordP (some p) (some q) == some .eq) = true := by simp only [ordP]; rw [cmp_gt, cmp_eq]; simp; omega
theorem ge_f {p q : Int} (h : p < q) : (ordP (some p) (some q) == some .gt || ordP (some p) (some q) == some .eq) = false := by simp only [ordP]; rw [cmp_gt, cmp_eq]; simp; omega
set_option maxHeartbeats 400000 in
theorem it_z1 (w : World) (b c : Nat) (hb : b < 18446744073709551616) (hc : c < 18446744073709551616) (h : plc b = some 0) :
    Calls Tryz.prog 25 #[(.float .f64 b), (.float .f64 c)] w (Gives (IS (.float .f64 0)) w) := by
  refine calls_sta (sl := [(0, (Is (.float .f64 b))), (1, (Is (.float .f64 c)))]) Tryz.func25 rfl Tryz.ntmps25 (by simp) (args_cons rfl (is_has _) (args_cons rfl (is_has _) args_nil)) ?_
  intro a0 S0
  refine wp_stmt_seq [.val (Is (.float FloatKind.f64 0))] [] [.inr 0, .inr 1] follows S0 rfl (by kernel_rfl) ?_ ?_
  · refine ⟨trivial, ?_⟩
    · exact mC
  intro B1 a1 W1 (S1 : Sta w 14 [] [(0, Is (.float .f64 b)), (1, Is (.float .f64 c))] _ _ _)
  refine wp_seq ?_
  refine wp_stmt_seq [.val (Is (.float .f64 b)), kT, kT, .off, .off, kT] [] [.inl 5, .inr 0, .inr 1] follows S1 rfl (by kernel_rfl) ?_ ?_
  · refine ⟨⟨⟨⟨⟨⟨trivial, ?_⟩, ?_⟩, ?_⟩, ?_⟩, ?_⟩, ?_⟩
    · exact mS 0 0
    · exact owe_fcmp rfl wA rfl ((oO 0 5).imp (fl_is hb)) ((opnd_const _).imp (fl_is (by decide))) (eq0_t h) rfl
    · exact mO 1 6
    · exact oF 2 7
    · exact oF 2 7
    · exact pT wA (oO 2 7) (opnd_const _)
  intro B2 a2 W2 (S2 : Sta w 14 [] [(10, bT), (0, Is (.float .f64 b)), (1, Is (.float .f64 c))] _ _ _)
  refine wp_cond_true (S2.bool 0 10 rfl) ?_
  refine wp_stmt_seq [.val (Is (.float FloatKind.f64 0))] [] [.inl 0] follows S2 rfl (by kernel_rfl) ?_ ?_
  · refine ⟨trivial, ?_⟩
    · exact mC
  intro B3 a3 W3 (S3 : Sta w 14 [] [(4, Is (.float FloatKind.f64 0))] _ _ _)
  refine wp_ret ?_
  refine thenR ?_
  exact end_one S3 rfl (res_tmp S3 0 4 rfl)
set_option maxHeartbeats 400000 in
theorem it_z2 (w : World) (b c : Nat) (hb : b < 18446744073709551616) (hc : c < 18446744073709551616) (h : plc b ≠ some 0) (h' : plc c = some 0) :
    Calls Tryz.prog 25 #[(.float .f64 b), (.float .f64 c)] w (Gives (IS (.float .f64 0)) w) := by
  refine calls_sta (sl := [(0, (Is (.float .f64 b))), (1, (Is (.float .f64 c)))]) Tryz.func25 rfl Tryz.ntmps25 (by simp) (args_cons rfl (is_has _) (args_cons rfl (is_has _) args_nil)) ?_
  intro a0 S0
  refine wp_stmt_seq [.val (Is (.float FloatKind.f64 0))] [] [.inr 0, .inr 1] follows S0 rfl (by kernel_rfl) ?_ ?_
  · refine ⟨trivial, ?_⟩
    · exact mC
  intro B1 a1 W1 (S1 : Sta w 14 [] [(0, Is (.float .f64 b)), (1, Is (.float .f64 c))] _ _ _)
  refine wp_seq ?_
  refine wp_stmt_seq [.val (Is (.float .f64 b)), kF, kF, .val (Is (.float .f64 c)), kT, kT] [] [.inl 5, .inr 0, .inr 1] follows S1 rfl (by kernel_rfl) ?_ ?_
  · refine ⟨⟨⟨⟨⟨⟨trivial, ?_⟩, ?_⟩, ?_⟩, ?_⟩, ?_⟩, ?_⟩
    · exact mS 0 0
    · exact owe_fcmp rfl wA rfl ((oO 0 5).imp (fl_is hb)) ((opnd_const _).imp (fl_is (by decide))) (eq0_f h) rfl
    · exact mO 1 6
    · exact mW (wI 2 7) (oS 1 1)
    · exact owe_fcmp rfl (wI 2 7) rfl ((oO 3 8).imp (fl_is hc)) ((opnd_const _).imp (fl_is (by decide))) (eq0_t h') rfl
    · exact pF wA (oO 2 7) (oO 4 9)
  intro B2 a2 W2 (S2 : Sta w 14 [] [(10, bT), (0, Is (.float .f64 b)), (1, Is (.float .f64 c))] _ _ _)
  refine wp_cond_true (S2.bool 0 10 rfl) ?_
  refine wp_stmt_seq [.val (Is (.float FloatKind.f64 0))] [] [.inl 0] follows S2 rfl (by kernel_rfl) ?_ ?_
  · refine ⟨trivial, ?_⟩
    · exact mC
  intro B3 a3 W3 (S3 : Sta w 14 [] [(4, Is (.float FloatKind.f64 0))] _ _ _)
  refine wp_ret ?_
  refine thenR ?_
  exact end_one S3 rfl (res_tmp S3 0 4 rfl)
set_option maxHeartbeats 400000 in
theorem it_nz (w : World) (b c : Nat) (hb : b < 18446744073709551616) (hc : c < 18446744073709551616) (h : plc b ≠ some 0) (h' : plc c ≠ some 0) :
    Calls Tryz.prog 25 #[(.float .f64 b), (.float .f64 c)] w (Gives (FLN (arP .mul b c)) w) := by
  refine calls_sta (sl := [(0, (Is (.float .f64 b))), (1, (Is (.float .f64 c)))]) Tryz.func25 rfl Tryz.ntmps25 (by simp) (args_cons rfl (is_has _) (args_cons rfl (is_has _) args_nil)) ?_
  intro a0 S0
  refine wp_stmt_seq [.val (Is (.float FloatKind.f64 0))] [] [.inr 0, .inr 1] follows S0 rfl (by kernel_rfl) ?_ ?_
  · refine ⟨trivial, ?_⟩
    · exact mC
  intro B1 a1 W1 (S1 : Sta w 14 [] [(0, Is (.float .f64 b)), (1, Is (.float .f64 c))] _ _ _)
  refine wp_seq ?_
  refine wp_stmt_seq [.val (Is (.float .f64 b)), kF, kF, .val (Is (.float .f64 c)), kF, kF] [] [.inl 5, .inr 0, .inr 1] follows S1 rfl (by kernel_rfl) ?_ ?_
  · refine ⟨⟨⟨⟨⟨⟨trivial, ?_⟩, ?_⟩, ?_⟩, ?_⟩, ?_⟩, ?_⟩
    · exact mS 0 0
    · exact owe_fcmp rfl wA rfl ((oO 0 5).imp (fl_is hb)) ((opnd_const _).imp (fl_is (by decide))) (eq0_f h) rfl
    · exact mO 1 6
    · exact mW (wI 2 7) (oS 1 1)
    · exact owe_fcmp rfl (wI 2 7) rfl ((oO 3 8).imp (fl_is hc)) ((opnd_const _).imp (fl_is (by decide))) (eq0_f h') rfl
    · exact pF wA (oO 2 7) (oO 4 9)
  intro B2 a2 W2 (S2 : Sta w 14 [] [(10, bF), (0, Is (.float .f64 b)), (1, Is (.float .f64 c))] _ _ _)
  refine wp_cond_false (S2.bool 0 10 rfl) ?_
  refine wp_skip ?_
  refine thenN ?_
  refine wp_stmt_seq [.val (Is (.float .f64 b)), .val (Is (.float .f64 c)), .val (FL (arP .mul b c)), .val (FL (arP .mul b c))] [] [.inl 3] follows S2 rfl (by kernel_rfl) ?_ ?_
  · refine ⟨⟨⟨⟨trivial, ?_⟩, ?_⟩, ?_⟩, ?_⟩
    · exact mS 1 0
    · exact mS 2 1
    · exact owe_farith (by simp) rfl wA rfl (oO 0 11) (oO 1 12) rfl
    · exact mO 2 13
  intro B3 a3 W3 (S3 : Sta w 14 [] [(4, (FL (arP .mul b c)))] _ _ _)
  refine wp_ret ?_
  exact end_one S3 rfl (res_tmp S3 0 4 rfl)

theorem h_it {b c : Nat} (hb : b < 18446744073709551616) (hc : c < 18446744073709551616) {r : Int} (hr : tmP b c = some r) : ∀ w u v, Is (.float .f64 b) u w → Is (.float .f64 c) v w → Calls Tryz.prog 25 #[u, v] w (Gives (FLN (some r)) w) := fun w u v e e' => by
  obtain rfl : u = _ := e
  obtain rfl : v = _ := e'
  rw [← hr]
  by_cases h : plc b = some 0
  · rw [tm_1 h]; exact (it_z1 w b c hb hc h).mono fun e w' => gives_f0
  · by_cases h' : plc c = some 0
    · rw [tm_2 h']; exact (it_z2 w b c hb hc h h').mono fun e w' => gives_f0
    · rw [tm_3 h h']; exact it_nz w b c hb hc h h'
set_option maxHeartbeats 2000000 in
theorem mul_tt (w : World) (x y x1 y1 : Nat) (hx : x < 18446744073709551616) (hy : y < 18446744073709551616) (hx1 : x1 < 18446744073709551616) (hy1 : y1 < 18446744073709551616) (h : okI x y = true) (h' : okI x1 y1 = true) (p0 p1 p2 p3 : Int) (h0 : tmP x x1 = some p0) (h1 : tmP x y1 = some p1) (h2 : tmP y x1 = some p2) (h3 : tmP y y1 = some p3) :
    Calls Tryz.prog 10 #[(.agg #[.float .f64 x, .float .f64 y]), (.agg #[.float .f64 x1, .float .f64 y1])] w (Gives (TWO (IVN (loP (some (mnP (q4 p0 p1 p2 p3) 3))) (hiP (some (mxP (q4 p0 p1 p2 p3) 3)))) (IS (.int .i64 0))) w) := by
  refine calls_sta (sl := [(0, (SF [(Is (.float .f64 x)), (Is (.float .f64 y))])), (1, (SF [(Is (.float .f64 x1)), (Is (.float .f64 y1))]))]) Tryz.func10 rfl Tryz.ntmps10 (by simp) (args_cons rfl (ix_has) (args_cons rfl (ix_has) args_nil)) ?_
  intro a0 S0
  refine wp_stmt_seq [.new (.box 24 (SF [(Is (.float .f64 x)), (Is (.float .f64 y))])), .new (.box 24 (SF [(Is (.float .f64 x1)), (Is (.float .f64 y1))])), .new (.box 24 (Is (.agg #[.float .f64 0, .float .f64 0]))), .val (iV 0)] [.inl 0, .inl 1, .inl 2] [] follows S0 rfl (by kernel_rfl) ?_ ?_
  · refine ⟨⟨⟨⟨trivial, ?_⟩, ?_⟩, ?_⟩, ?_⟩
    · exact owe_box rfl wA rfl (oS 0 0) rfl (fun ρ w h => box_ival shp_iv ρ _ _ w h)
    · exact owe_box rfl wA rfl (oS 1 1) rfl (fun ρ w h => box_ival shp_iv ρ _ _ w h)
    · exact owe_new rfl wA rfl rfl (fun ρ w => alloc_ival ρ _ w)
    · exact mC
  intro B1 a1 W1 (S1 : Sta w 55 [(2, (.box 24 (SF [(Is (.float .f64 x)), (Is (.float .f64 y))]))), (3, (.box 24 (SF [(Is (.float .f64 x1)), (Is (.float .f64 y1))]))), (4, (.box 24 (Is (.agg #[.float .f64 0, .float .f64 0]))))] [] _ _ _)
  refine wp_seq ?_
  refine wp_stmt_seq [.val (SF [(Is (.float .f64 x)), (Is (.float .f64 y))]), .val (SF [(Is (.float .f64 x1)), (Is (.float .f64 y1))]), .val (iV 0), .val (iV 0)] [.inr 0, .inr 1, .inr 2] [.inl 3] follows S1 rfl (by kernel_rfl) ?_ ?_
  · refine ⟨⟨⟨⟨trivial, ?_⟩, ?_⟩, ?_⟩, ?_⟩
    · exact lod 0 wA (loads_of strct_ival shp_iv)
    · exact lod 1 wA (loads_of strct_ival shp_iv)
    · exact cc2 wA (qO 0 8 rfl) (qO 1 9 rfl) (fresh_is _) (ix2 (fun w => ivalid2_tt w x y x1 y1 hx hy hx1 hy1 h h'))
    · exact mO 2 10
  intro B2 a2 W2 (S2 : Sta w 55 [(2, (.box 24 (SF [(Is (.float .f64 x)), (Is (.float .f64 y))]))), (3, (.box 24 (SF [(Is (.float .f64 x1)), (Is (.float .f64 y1))]))), (4, (.box 24 (Is (.agg #[.float .f64 0, .float .f64 0]))))] [(6, iV 0)] _ _ _)
  refine wp_stmt_seq [.val (iV 0), kF] [.inr 0, .inr 1, .inr 2] [.inl 1, .inr 0] follows S2 rfl (by kernel_rfl) ?_ ?_
  · refine ⟨⟨trivial, ?_⟩, ?_⟩
    · exact mS 0 6
    · exact b_neq_errno_f wA (oO 0 11) (opnd_const _) (h := by decide)
  intro B3 a3 W3 (S3 : Sta w 55 [(2, (.box 24 (SF [(Is (.float .f64 x)), (Is (.float .f64 y))]))), (3, (.box 24 (SF [(Is (.float .f64 x1)), (Is (.float .f64 y1))]))), (4, (.box 24 (Is (.agg #[.float .f64 0, .float .f64 0]))))] [(12, bF), (6, iV 0)] _ _ _)
  refine wp_cond_false (S3.bool 0 12 rfl) ?_
  refine wp_skip ?_
  refine thenN ?_
  refine wp_stmt_seq [.val (Part a3 2 0), .val (Is (.float .f64 x)), .val (Part a3 3 0), .val (Is (.float .f64 x1)), .val (FL (some p0)), .val (Part a3 2 0), .val (Is (.float .f64 x)), .val (Part a3 3 1), .val (Is (.float .f64 y1)), .val (FL (some p1)), .val (Part a3 2 1), .val (Is (.float .f64 y)), .val (Part a3 3 0), .val (Is (.float .f64 x1)), .val (FL (some p2)), .val (Part a3 2 1), .val (Is (.float .f64 y)), .val (Part a3 3 1), .val (Is (.float .f64 y1)), .val (FL (some p3)), .val (SF [(FL (some p0)), (FL (some p1)), (FL (some p2)), (FL (some p3))]), .new (.box 52 (Is (.agg #[.float .f64 0, .float .f64 0, .float .f64 0, .float .f64 0]))), .put (.inr 21) (.box 52 (SF [(FL (some p0)), (FL (some p1)), (FL (some p2)), (FL (some p3))]))] [.inr 0, .inr 1, .inr 2, .inl 21] [] follows S3 rfl (by kernel_rfl) ?_ ?_
  · repeat' refine And.intro ?_ ?_
    · trivial
    · exact owe_part rfl wA rfl (k := 0) rfl (by kernel_rfl) rfl (fun ρ w b h => part_ival0 ρ _ _ w b 0 h)
    · exact owe_pload rfl wA rfl (oO 0 15) (k := 0) rfl (by kernel_rfl) rfl (fun ρ w b u h1 h2 h3 => ploadI rfl load1_f64 ρ _ _ w b u h1 h2 h3)
    · exact owe_part rfl wA rfl (k := 1) rfl (by kernel_rfl) rfl (fun ρ w b h => part_ival0 ρ _ _ w b 0 h)
    · exact owe_pload rfl wA rfl (oO 2 17) (k := 1) rfl (by kernel_rfl) rfl (fun ρ w b u h1 h2 h3 => ploadI rfl load1_f64 ρ _ _ w b u h1 h2 h3)
    · exact cc2 wA (qO 1 16 rfl) (qO 3 18 rfl) (fresh_fl _) (h_it hx hx1 h0)
    · exact owe_part rfl wA rfl (k := 0) rfl (by kernel_rfl) rfl (fun ρ w b h => part_ival0 ρ _ _ w b 0 h)
    · exact owe_pload rfl wA rfl (oO 5 20) (k := 0) rfl (by kernel_rfl) rfl (fun ρ w b u h1 h2 h3 => ploadI rfl load1_f64 ρ _ _ w b u h1 h2 h3)
    · exact owe_part rfl wA rfl (k := 1) rfl (by kernel_rfl) rfl (fun ρ w b h => part_ival1 ρ _ _ w b 0 h)
    · exact owe_pload rfl wA rfl (oO 7 22) (k := 1) rfl (by kernel_rfl) rfl (fun ρ w b u h1 h2 h3 => ploadI rfl load1_f64 ρ _ _ w b u h1 h2 h3)
    · exact cc2 wA (qO 6 21 rfl) (qO 8 23 rfl) (fresh_fl _) (h_it hx hy1 h1)
    · exact owe_part rfl wA rfl (k := 0) rfl (by kernel_rfl) rfl (fun ρ w b h => part_ival1 ρ _ _ w b 0 h)
    · exact owe_pload rfl wA rfl (oO 10 25) (k := 0) rfl (by kernel_rfl) rfl (fun ρ w b u h1 h2 h3 => ploadI rfl load1_f64 ρ _ _ w b u h1 h2 h3)
    · exact owe_part rfl wA rfl (k := 1) rfl (by kernel_rfl) rfl (fun ρ w b h => part_ival0 ρ _ _ w b 0 h)
    · exact owe_pload rfl wA rfl (oO 12 27) (k := 1) rfl (by kernel_rfl) rfl (fun ρ w b u h1 h2 h3 => ploadI rfl load1_f64 ρ _ _ w b u h1 h2 h3)
    · exact cc2 wA (qO 11 26 rfl) (qO 13 28 rfl) (fresh_fl _) (h_it hy hx1 h2)
    · exact owe_part rfl wA rfl (k := 0) rfl (by kernel_rfl) rfl (fun ρ w b h => part_ival1 ρ _ _ w b 0 h)
    · exact owe_pload rfl wA rfl (oO 15 30) (k := 0) rfl (by kernel_rfl) rfl (fun ρ w b u h1 h2 h3 => ploadI rfl load1_f64 ρ _ _ w b u h1 h2 h3)
    · exact owe_part rfl wA rfl (k := 1) rfl (by kernel_rfl) rfl (fun ρ w b h => part_ival1 ρ _ _ w b 0 h)
    · exact owe_pload rfl wA rfl (oO 17 32) (k := 1) rfl (by kernel_rfl) rfl (fun ρ w b u h1 h2 h3 => ploadI rfl load1_f64 ρ _ _ w b u h1 h2 h3)
    · exact cc2 wA (qO 16 31 rfl) (qO 18 33 rfl) (fresh_fl _) (h_it hy hy1 h3)
    · exact owe_build_f4 rfl wA rfl (oO 4 19) (oO 9 24) (oO 14 29) (oO 19 34) flt_fl flt_fl flt_fl flt_fl rfl
    · exact owe_new rfl wA rfl rfl (fun ρ w => alloc_f4 ρ _ w)
    · exact owe_put 21 rfl wA rfl (by kernel_rfl) rfl (oO 20 35) (stores_of strct_f4 shp_f40 shp_f4) rfl
  intro B4 a4 W4 (S4 : Sta w 55 [(2, (.box 24 (SF [(Is (.float .f64 x)), (Is (.float .f64 y))]))), (3, (.box 24 (SF [(Is (.float .f64 x1)), (Is (.float .f64 y1))]))), (4, (.box 24 (Is (.agg #[.float .f64 0, .float .f64 0])))), (7, (.box 52 (SF [(FL (some p0)), (FL (some p1)), (FL (some p2)), (FL (some p3))])))] [] _ _ _)
  refine wp_stmt_seq [.val (Part a4 7 0), .val (FL (some p0)), .val (Part a4 7 1), .val (FL (some p1)), .val (Part a4 7 2), .val (FL (some p2)), .val (Part a4 7 3), .val (FL (some p3)), .val (FL (some (mnP (q4 p0 p1 p2 p3) 3))), .val (Part a4 7 0), .val (FL (some p0)), .val (Part a4 7 1), .val (FL (some p1)), .val (Part a4 7 2), .val (FL (some p2)), .val (Part a4 7 3), .val (FL (some p3)), .val (FL (some (mxP (q4 p0 p1 p2 p3) 3))), .val (SF [(FL (loP (some (mnP (q4 p0 p1 p2 p3) 3)))), (FL (hiP (some (mxP (q4 p0 p1 p2 p3) 3))))]), .put (.inl 4) (.box 24 (SF [(FL (loP (some (mnP (q4 p0 p1 p2 p3) 3)))), (FL (hiP (some (mxP (q4 p0 p1 p2 p3) 3))))])), .val (iV 0)] [.inr 0, .inr 1, .inr 2, .inr 3] [.inl 20] follows S4 rfl (by kernel_rfl) ?_ ?_
  · repeat' refine And.intro ?_ ?_
    · trivial
    · exact owe_ipart (f := 0) rfl wA rfl (opnd_const _) (by decide) (k := 3) rfl (by kernel_rfl) rfl
    · exact owe_pload rfl wA rfl (oO 0 36) (k := 3) rfl (by kernel_rfl) rfl (fun ρ w b u h1 h2 h3 => ploadI rfl load1_f64 ρ _ _ w b u h1 h2 h3)
    · exact owe_ipart (f := 1) rfl wA rfl (opnd_const _) (by decide) (k := 3) rfl (by kernel_rfl) rfl
    · exact owe_pload rfl wA rfl (oO 2 38) (k := 3) rfl (by kernel_rfl) rfl (fun ρ w b u h1 h2 h3 => ploadI rfl load1_f64 ρ _ _ w b u h1 h2 h3)
    · exact owe_ipart (f := 2) rfl wA rfl (opnd_const _) (by decide) (k := 3) rfl (by kernel_rfl) rfl
    · exact owe_pload rfl wA rfl (oO 4 40) (k := 3) rfl (by kernel_rfl) rfl (fun ρ w b u h1 h2 h3 => ploadI rfl load1_f64 ρ _ _ w b u h1 h2 h3)
    · exact owe_ipart (f := 3) rfl wA rfl (opnd_const _) (by decide) (k := 3) rfl (by kernel_rfl) rfl
    · exact owe_pload rfl wA rfl (oO 6 42) (k := 3) rfl (by kernel_rfl) rfl (fun ρ w b u h1 h2 h3 => ploadI rfl load1_f64 ρ _ _ w b u h1 h2 h3)
    · exact owe_fmin4 rfl wA rfl (oO 1 37) (oO 3 39) (oO 5 41) (oO 7 43) rfl
    · exact owe_ipart (f := 0) rfl wA rfl (opnd_const _) (by decide) (k := 3) rfl (by kernel_rfl) rfl
    · exact owe_pload rfl wA rfl (oO 9 45) (k := 3) rfl (by kernel_rfl) rfl (fun ρ w b u h1 h2 h3 => ploadI rfl load1_f64 ρ _ _ w b u h1 h2 h3)
    · exact owe_ipart (f := 1) rfl wA rfl (opnd_const _) (by decide) (k := 3) rfl (by kernel_rfl) rfl
    · exact owe_pload rfl wA rfl (oO 11 47) (k := 3) rfl (by kernel_rfl) rfl (fun ρ w b u h1 h2 h3 => ploadI rfl load1_f64 ρ _ _ w b u h1 h2 h3)
    · exact owe_ipart (f := 2) rfl wA rfl (opnd_const _) (by decide) (k := 3) rfl (by kernel_rfl) rfl
    · exact owe_pload rfl wA rfl (oO 13 49) (k := 3) rfl (by kernel_rfl) rfl (fun ρ w b u h1 h2 h3 => ploadI rfl load1_f64 ρ _ _ w b u h1 h2 h3)
    · exact owe_ipart (f := 3) rfl wA rfl (opnd_const _) (by decide) (k := 3) rfl (by kernel_rfl) rfl
    · exact owe_pload rfl wA rfl (oO 15 51) (k := 3) rfl (by kernel_rfl) rfl (fun ρ w b u h1 h2 h3 => ploadI rfl load1_f64 ρ _ _ w b u h1 h2 h3)
    · exact owe_fmax4 rfl wA rfl (oO 10 46) (oO 12 48) (oO 14 50) (oO 16 52) rfl
    · exact cc2 wA (qO 8 44 rfl) (qO 17 53 rfl) (fresh_iv _ _) h_outward
    · exact owe_set rfl wA rfl (k := 2) rfl (by kernel_rfl) (oO 18 54) (stores_of strct_ival shp_i0 shp_iv) rfl
    · exact mC
  intro B5 a5 W5 (S5 : Sta w 55 [(2, (.box 24 (SF [(Is (.float .f64 x)), (Is (.float .f64 y))]))), (3, (.box 24 (SF [(Is (.float .f64 x1)), (Is (.float .f64 y1))]))), (4, (.box 24 (SF [(FL (loP (some (mnP (q4 p0 p1 p2 p3) 3)))), (FL (hiP (some (mxP (q4 p0 p1 p2 p3) 3))))]))), (7, (.box 52 (SF [(FL (some p0)), (FL (some p1)), (FL (some p2)), (FL (some p3))])))] [(5, iV 0)] _ _ _)
  refine wp_ret ?_
  exact end_two S5 rfl (res_cell S5 2 4 rfl strct_ival shp_iv) (res_tmp S5 0 5 rfl)
def dnI (m : Int) : Int := if m = -9218868437227405312 then m else m - 1
theorem le0_t {x : Nat} {p : Int} (h : plc x = some p) (hp : p ≤ 0) : (ordP (plc x) (plc 0) == some .lt || ordP (plc x) (plc 0) == some .eq) = true := by rw [h]; exact le_t hp
theorem le0_f {x : Nat} {p : Int} (h : plc x = some p) (hp : 0 < p) : (ordP (plc x) (plc 0) == some .lt || ordP (plc x) (plc 0) == some .eq) = false := by rw [h]; exact le_f hp
theorem ge0_t {x : Nat} {p : Int} (h : plc x = some p) (hp : 0 ≤ p) : (ordP (plc x) (plc 0) == some .gt || ordP (plc x) (plc 0) == some .eq) = true := by rw [h]; exact ge_t hp
theorem ge0_f {x : Nat} {p : Int} (h : plc x = some p) (hp : p < 0) : (ordP (plc x) (plc 0) == some .gt || ordP (plc x) (plc 0) == some .eq) = false := by rw [h]; exact ge_f hp
section
variable {ops : Array Oper} {l : List Kd} {bx : Bxs} {sl : List (Tmp × Pr)} {i : Nat} {o : Oper} {Q : Exit → Act → World → Prop} {a0 : Act} {n : Nat} {w0 : World}
end
set_option maxHeartbeats 1000000 in
theorem sqr_A (w : World) (x y : Nat) (hx : x < 18446744073709551616) (hy : y < 18446744073709551616) (h : okI x y = true) (px py p0 p1 : Int) (hpx : plc x = some px) (hpy : plc y = some py) (h0 : tmP x x = some p0) (h1 : tmP y y = some p1) (hd : dnI (mnP (q2 p0 p1) 1) < 0) :
    Calls Tryz.prog 11 #[(.agg #[.float .f64 x, .float .f64 y])] w (Gives (TWO (IVN (plc 0) (hiP (some (mxP (q2 p0 p1) 1)))) (IS (.int .i64 0))) w) := by
  refine calls_sta (sl := [(0, (SF [(Is (.float .f64 x)), (Is (.float .f64 y))]))]) Tryz.func11 rfl Tryz.ntmps11 (by simp) (args_cons rfl (ix_has) args_nil) ?_
  intro a0 S0
  refine wp_stmt_seq [.new (.box 24 (SF [(Is (.float .f64 x)), (Is (.float .f64 y))])), .new (.box 24 (Is (.agg #[.float .f64 0, .float .f64 0]))), .val (iV 0)] [.inl 0, .inl 1] [] follows S0 rfl (by kernel_rfl) ?_ ?_
  · refine ⟨⟨⟨trivial, ?_⟩, ?_⟩, ?_⟩
    · exact owe_box rfl wA rfl (oS 0 0) rfl (fun ρ w h => box_ival shp_iv ρ _ _ w h)
    · exact owe_new rfl wA rfl rfl (fun ρ w => alloc_ival ρ _ w)
    · exact mC
  intro B1 a1 W1 (S1 : Sta w 46 [(1, (.box 24 (SF [(Is (.float .f64 x)), (Is (.float .f64 y))]))), (2, (.box 24 (Is (.agg #[.float .f64 0, .float .f64 0]))))] [] _ _ _)
  refine wp_seq ?_
  refine wp_stmt_seq [.val (SF [(Is (.float .f64 x)), (Is (.float .f64 y))]), .val (iV 0), .val (iV 0)] [.inr 0, .inr 1] [.inl 2] follows S1 rfl (by kernel_rfl) ?_ ?_
  · refine ⟨⟨⟨trivial, ?_⟩, ?_⟩, ?_⟩
    · exact lod 0 wA (loads_of strct_ival shp_iv)
    · exact cc1 wA (qO 0 8 rfl) (fresh_is _) (ix1 (fun w => ivalid_t w _ _ hx hy h))
    · exact mO 1 9
  intro B2 a2 W2 (S2 : Sta w 46 [(1, (.box 24 (SF [(Is (.float .f64 x)), (Is (.float .f64 y))]))), (2, (.box 24 (Is (.agg #[.float .f64 0, .float .f64 0]))))] [(4, iV 0)] _ _ _)
  refine wp_stmt_seq [.val (iV 0), kF] [.inr 0, .inr 1] [.inl 1, .inr 0] follows S2 rfl (by kernel_rfl) ?_ ?_
  · refine ⟨⟨trivial, ?_⟩, ?_⟩
    · exact mS 0 4
    · exact b_neq_errno_f wA (oO 0 10) (opnd_const _) (h := by decide)
  intro B3 a3 W3 (S3 : Sta w 46 [(1, (.box 24 (SF [(Is (.float .f64 x)), (Is (.float .f64 y))]))), (2, (.box 24 (Is (.agg #[.float .f64 0, .float .f64 0]))))] [(11, bF), (4, iV 0)] _ _ _)
  refine wp_cond_false (S3.bool 0 11 rfl) ?_
  refine wp_skip ?_
  refine thenN ?_
  refine wp_stmt_seq [.val (Part a3 1 0), .val (Is (.float .f64 x)), .val (Part a3 1 0), .val (Is (.float .f64 x)), .val (FL (some p0)), .val (Part a3 1 1), .val (Is (.float .f64 y)), .val (Part a3 1 1), .val (Is (.float .f64 y)), .val (FL (some p1)), .val (FL (some p0)), .val (FL (some p1))] [.inr 0, .inr 1] [.inl 10, .inl 11] follows S3 rfl (by kernel_rfl) ?_ ?_
  · repeat' refine And.intro ?_ ?_
    · trivial
    · exact owe_part rfl wA rfl (k := 0) rfl (by kernel_rfl) rfl (fun ρ w b h => part_ival0 ρ _ _ w b 0 h)
    · exact owe_pload rfl wA rfl (oO 0 14) (k := 0) rfl (by kernel_rfl) rfl (fun ρ w b u h1 h2 h3 => ploadI rfl load1_f64 ρ _ _ w b u h1 h2 h3)
    · exact owe_part rfl wA rfl (k := 0) rfl (by kernel_rfl) rfl (fun ρ w b h => part_ival0 ρ _ _ w b 0 h)
    · exact owe_pload rfl wA rfl (oO 2 16) (k := 0) rfl (by kernel_rfl) rfl (fun ρ w b u h1 h2 h3 => ploadI rfl load1_f64 ρ _ _ w b u h1 h2 h3)
    · exact cc2 wA (qO 1 15 rfl) (qO 3 17 rfl) (fresh_fl _) (h_it hx hx h0)
    · exact owe_part rfl wA rfl (k := 0) rfl (by kernel_rfl) rfl (fun ρ w b h => part_ival1 ρ _ _ w b 0 h)
    · exact owe_pload rfl wA rfl (oO 5 19) (k := 0) rfl (by kernel_rfl) rfl (fun ρ w b u h1 h2 h3 => ploadI rfl load1_f64 ρ _ _ w b u h1 h2 h3)
    · exact owe_part rfl wA rfl (k := 0) rfl (by kernel_rfl) rfl (fun ρ w b h => part_ival1 ρ _ _ w b 0 h)
    · exact owe_pload rfl wA rfl (oO 7 21) (k := 0) rfl (by kernel_rfl) rfl (fun ρ w b u h1 h2 h3 => ploadI rfl load1_f64 ρ _ _ w b u h1 h2 h3)
    · exact cc2 wA (qO 6 20 rfl) (qO 8 22 rfl) (fresh_fl _) (h_it hy hy h1)
    · exact mO 4 18
    · exact mO 9 23
  intro B4 a4 W4 (S4 : Sta w 46 [(1, (.box 24 (SF [(Is (.float .f64 x)), (Is (.float .f64 y))]))), (2, (.box 24 (Is (.agg #[.float .f64 0, .float .f64 0]))))] [(5, (FL (some p0))), (6, (FL (some p1)))] _ _ _)
  refine wp_stmt_seq [.val (FL (some p0)), .val (FL (some p1)), .val (FL (some (mnP (q2 p0 p1) 1))), .val (FL (some p0)), .val (FL (some p1)), .val (FL (some (mxP (q2 p0 p1) 1))), .val (SF [(FL (loP (some (mnP (q2 p0 p1) 1)))), (FL (hiP (some (mxP (q2 p0 p1) 1))))]), .new (.box 24 (Is (.agg #[.float .f64 0, .float .f64 0]))), .put (.inr 7) (.box 24 (SF [(FL (loP (some (mnP (q2 p0 p1) 1)))), (FL (hiP (some (mxP (q2 p0 p1) 1))))]))] [.inr 0, .inr 1, .inl 7] [] follows S4 rfl (by kernel_rfl) ?_ ?_
  · repeat' refine And.intro ?_ ?_
    · trivial
    · exact mS 0 5
    · exact mS 1 6
    · exact owe_fmin2 rfl wA rfl (oO 0 24) (oO 1 25) rfl
    · exact mS 0 5
    · exact mS 1 6
    · exact owe_fmax2 rfl wA rfl (oO 3 27) (oO 4 28) rfl
    · exact cc2 wA (qO 2 26 rfl) (qO 5 29 rfl) (fresh_iv _ _) h_outward
    · exact owe_new rfl wA rfl rfl (fun ρ w => alloc_ival ρ _ w)
    · exact owe_put 7 rfl wA rfl (by kernel_rfl) rfl (oO 6 30) (stores_of strct_ival shp_i0 shp_iv) rfl
  intro B5 a5 W5 (S5 : Sta w 46 [(1, (.box 24 (SF [(Is (.float .f64 x)), (Is (.float .f64 y))]))), (2, (.box 24 (Is (.agg #[.float .f64 0, .float .f64 0])))), (7, (.box 24 (SF [(FL (loP (some (mnP (q2 p0 p1) 1)))), (FL (hiP (some (mxP (q2 p0 p1) 1))))])))] [] _ _ _)
  refine wp_seq ?_
  refine wp_stmt_seq [.val (Part a5 7 0), .val (FL (loP (some (mnP (q2 p0 p1) 1)))), kT, kT, .off, .off, .off, .val (Is (undef)), .off, .off, .off, .off, kT] [.inr 0, .inr 1, .inr 2] [.inl 12] follows S5 rfl (by kernel_rfl) ?_ ?_
  · repeat' refine And.intro ?_ ?_
    · trivial
    · exact owe_part rfl wA rfl (k := 2) rfl (by kernel_rfl) rfl (fun ρ w b h => part_ival0 ρ _ _ w b 0 h)
    · exact owe_pload rfl wA rfl (oO 0 31) (k := 2) rfl (by kernel_rfl) rfl (fun ρ w b u h1 h2 h3 => ploadI rfl load1_f64 ρ _ _ w b u h1 h2 h3)
    · exact owe_fcmp rfl wA rfl (oO 1 32) ((opnd_const _).imp (fl_is (by decide))) (lt_t (p := dnI (mnP (q2 p0 p1) 1)) hd) rfl
    · exact mO 2 33
    · exact oF 3 34
    · exact oF 3 34
    · exact oF 3 34
    · exact owe_offv 3 34 rfl rfl rfl (by kernel_rfl) rfl (by decide)
    · exact owe_offu 7 38 rfl rfl rfl (by kernel_rfl) rfl
    · exact owe_offu 7 38 rfl rfl rfl (by kernel_rfl) rfl
    · exact owe_offu 7 38 rfl rfl rfl (by kernel_rfl) rfl
    · exact oF 3 34
    · exact pT wA (oO 3 34) (opnd_const _)
  intro B6 a6 W6 (S6 : Sta w 46 [(1, (.box 24 (SF [(Is (.float .f64 x)), (Is (.float .f64 y))]))), (2, (.box 24 (Is (.agg #[.float .f64 0, .float .f64 0])))), (7, (.box 24 (SF [(FL (loP (some (mnP (q2 p0 p1) 1)))), (FL (hiP (some (mxP (q2 p0 p1) 1))))])))] [(43, bT)] _ _ _)
  refine wp_cond_true (S6.bool 0 43 rfl) ?_
  refine wp_stmt [.val (Part a6 7 0), .put (.inl 7) (.box 24 (SF [(FL (plc 0)), (FL (hiP (some (mxP (q2 p0 p1) 1))))]))] [.inr 0, .inr 1, .inr 2] [] follows S6 rfl (by kernel_rfl) ?_ ?_
  · refine ⟨⟨trivial, ?_⟩, ?_⟩
    · exact owe_part rfl wA rfl (k := 2) rfl (by kernel_rfl) rfl (fun ρ w b h => part_ival0 ρ _ _ w b 0 h)
    · exact owe_pput (f := 0) rfl wA rfl (oO 0 44) (k := 2) rfl (by kernel_rfl) ((opnd_const _).imp (fl_is (by decide))) flt_fl (Nat.le_of_ble_eq_true rfl) rfl
  intro B7 a7 W7 (S7 : Sta w 46 [(1, (.box 24 (SF [(Is (.float .f64 x)), (Is (.float .f64 y))]))), (2, (.box 24 (Is (.agg #[.float .f64 0, .float .f64 0])))), (7, (.box 24 (SF [(FL (plc 0)), (FL (hiP (some (mxP (q2 p0 p1) 1))))])))] [] _ _ _)
  refine thenN ?_
  refine wp_stmt_seq [.val (SF [(FL (plc 0)), (FL (hiP (some (mxP (q2 p0 p1) 1))))]), .put (.inl 2) (.box 24 (SF [(FL (plc 0)), (FL (hiP (some (mxP (q2 p0 p1) 1))))])), .val (iV 0)] [.inr 0, .inr 1, .inr 2] [.inl 2] follows S7 rfl (by kernel_rfl) ?_ ?_
  · refine ⟨⟨⟨trivial, ?_⟩, ?_⟩, ?_⟩
    · exact lod 2 wA (loads_of strct_ival shp_iv)
    · exact owe_set rfl wA rfl (k := 1) rfl (by kernel_rfl) (oO 0 45) (stores_of strct_ival shp_i0 shp_iv) rfl
    · exact mC
  intro B8 a8 W8 (S8 : Sta w 46 [(1, (.box 24 (SF [(Is (.float .f64 x)), (Is (.float .f64 y))]))), (2, (.box 24 (SF [(FL (plc 0)), (FL (hiP (some (mxP (q2 p0 p1) 1))))]))), (7, (.box 24 (SF [(FL (plc 0)), (FL (hiP (some (mxP (q2 p0 p1) 1))))])))] [(3, iV 0)] _ _ _)
  refine wp_ret ?_
  exact end_two S8 rfl (res_cell S8 1 2 rfl strct_ival shp_iv) (res_tmp S8 0 3 rfl)
set_option maxHeartbeats 1000000 in
theorem sqr_B (w : World) (x y : Nat) (hx : x < 18446744073709551616) (hy : y < 18446744073709551616) (h : okI x y = true) (px py p0 p1 : Int) (hpx : plc x = some px) (hpy : plc y = some py) (h0 : tmP x x = some p0) (h1 : tmP y y = some p1) (hd : ¬ dnI (mnP (q2 p0 p1) 1) < 0) (ha : px ≤ 0) (hb : 0 ≤ py) :
    Calls Tryz.prog 11 #[(.agg #[.float .f64 x, .float .f64 y])] w (Gives (TWO (IVN (plc 0) (hiP (some (mxP (q2 p0 p1) 1)))) (IS (.int .i64 0))) w) := by
  refine calls_sta (sl := [(0, (SF [(Is (.float .f64 x)), (Is (.float .f64 y))]))]) Tryz.func11 rfl Tryz.ntmps11 (by simp) (args_cons rfl (ix_has) args_nil) ?_
  intro a0 S0
  refine wp_stmt_seq [.new (.box 24 (SF [(Is (.float .f64 x)), (Is (.float .f64 y))])), .new (.box 24 (Is (.agg #[.float .f64 0, .float .f64 0]))), .val (iV 0)] [.inl 0, .inl 1] [] follows S0 rfl (by kernel_rfl) ?_ ?_
  · refine ⟨⟨⟨trivial, ?_⟩, ?_⟩, ?_⟩
    · exact owe_box rfl wA rfl (oS 0 0) rfl (fun ρ w h => box_ival shp_iv ρ _ _ w h)
    · exact owe_new rfl wA rfl rfl (fun ρ w => alloc_ival ρ _ w)
    · exact mC
  intro B1 a1 W1 (S1 : Sta w 46 [(1, (.box 24 (SF [(Is (.float .f64 x)), (Is (.float .f64 y))]))), (2, (.box 24 (Is (.agg #[.float .f64 0, .float .f64 0]))))] [] _ _ _)
  refine wp_seq ?_
  refine wp_stmt_seq [.val (SF [(Is (.float .f64 x)), (Is (.float .f64 y))]), .val (iV 0), .val (iV 0)] [.inr 0, .inr 1] [.inl 2] follows S1 rfl (by kernel_rfl) ?_ ?_
  · refine ⟨⟨⟨trivial, ?_⟩, ?_⟩, ?_⟩
    · exact lod 0 wA (loads_of strct_ival shp_iv)
    · exact cc1 wA (qO 0 8 rfl) (fresh_is _) (ix1 (fun w => ivalid_t w _ _ hx hy h))
    · exact mO 1 9
  intro B2 a2 W2 (S2 : Sta w 46 [(1, (.box 24 (SF [(Is (.float .f64 x)), (Is (.float .f64 y))]))), (2, (.box 24 (Is (.agg #[.float .f64 0, .float .f64 0]))))] [(4, iV 0)] _ _ _)
  refine wp_stmt_seq [.val (iV 0), kF] [.inr 0, .inr 1] [.inl 1, .inr 0] follows S2 rfl (by kernel_rfl) ?_ ?_
  · refine ⟨⟨trivial, ?_⟩, ?_⟩
    · exact mS 0 4
    · exact b_neq_errno_f wA (oO 0 10) (opnd_const _) (h := by decide)
  intro B3 a3 W3 (S3 : Sta w 46 [(1, (.box 24 (SF [(Is (.float .f64 x)), (Is (.float .f64 y))]))), (2, (.box 24 (Is (.agg #[.float .f64 0, .float .f64 0]))))] [(11, bF), (4, iV 0)] _ _ _)
  refine wp_cond_false (S3.bool 0 11 rfl) ?_
  refine wp_skip ?_
  refine thenN ?_
  refine wp_stmt_seq [.val (Part a3 1 0), .val (Is (.float .f64 x)), .val (Part a3 1 0), .val (Is (.float .f64 x)), .val (FL (some p0)), .val (Part a3 1 1), .val (Is (.float .f64 y)), .val (Part a3 1 1), .val (Is (.float .f64 y)), .val (FL (some p1)), .val (FL (some p0)), .val (FL (some p1))] [.inr 0, .inr 1] [.inl 10, .inl 11] follows S3 rfl (by kernel_rfl) ?_ ?_
  · repeat' refine And.intro ?_ ?_
    · trivial
    · exact owe_part rfl wA rfl (k := 0) rfl (by kernel_rfl) rfl (fun ρ w b h => part_ival0 ρ _ _ w b 0 h)
    · exact owe_pload rfl wA rfl (oO 0 14) (k := 0) rfl (by kernel_rfl) rfl (fun ρ w b u h1 h2 h3 => ploadI rfl load1_f64 ρ _ _ w b u h1 h2 h3)
    · exact owe_part rfl wA rfl (k := 0) rfl (by kernel_rfl) rfl (fun ρ w b h => part_ival0 ρ _ _ w b 0 h)
    · exact owe_pload rfl wA rfl (oO 2 16) (k := 0) rfl (by kernel_rfl) rfl (fun ρ w b u h1 h2 h3 => ploadI rfl load1_f64 ρ _ _ w b u h1 h2 h3)
    · exact cc2 wA (qO 1 15 rfl) (qO 3 17 rfl) (fresh_fl _) (h_it hx hx h0)
    · exact owe_part rfl wA rfl (k := 0) rfl (by kernel_rfl) rfl (fun ρ w b h => part_ival1 ρ _ _ w b 0 h)
    · exact owe_pload rfl wA rfl (oO 5 19) (k := 0) rfl (by kernel_rfl) rfl (fun ρ w b u h1 h2 h3 => ploadI rfl load1_f64 ρ _ _ w b u h1 h2 h3)
    · exact owe_part rfl wA rfl (k := 0) rfl (by kernel_rfl) rfl (fun ρ w b h => part_ival1 ρ _ _ w b 0 h)
    · exact owe_pload rfl wA rfl (oO 7 21) (k := 0) rfl (by kernel_rfl) rfl (fun ρ w b u h1 h2 h3 => ploadI rfl load1_f64 ρ _ _ w b u h1 h2 h3)
    · exact cc2 wA (qO 6 20 rfl) (qO 8 22 rfl) (fresh_fl _) (h_it hy hy h1)
    · exact mO 4 18
    · exact mO 9 23
  intro B4 a4 W4 (S4 : Sta w 46 [(1, (.box 24 (SF [(Is (.float .f64 x)), (Is (.float .f64 y))]))), (2, (.box 24 (Is (.agg #[.float .f64 0, .float .f64 0]))))] [(5, (FL (some p0))), (6, (FL (some p1)))] _ _ _)
  refine wp_stmt_seq [.val (FL (some p0)), .val (FL (some p1)), .val (FL (some (mnP (q2 p0 p1) 1))), .val (FL (some p0)), .val (FL (some p1)), .val (FL (some (mxP (q2 p0 p1) 1))), .val (SF [(FL (loP (some (mnP (q2 p0 p1) 1)))), (FL (hiP (some (mxP (q2 p0 p1) 1))))]), .new (.box 24 (Is (.agg #[.float .f64 0, .float .f64 0]))), .put (.inr 7) (.box 24 (SF [(FL (loP (some (mnP (q2 p0 p1) 1)))), (FL (hiP (some (mxP (q2 p0 p1) 1))))]))] [.inr 0, .inr 1, .inl 7] [] follows S4 rfl (by kernel_rfl) ?_ ?_
  · repeat' refine And.intro ?_ ?_
    · trivial
    · exact mS 0 5
    · exact mS 1 6
    · exact owe_fmin2 rfl wA rfl (oO 0 24) (oO 1 25) rfl
    · exact mS 0 5
    · exact mS 1 6
    · exact owe_fmax2 rfl wA rfl (oO 3 27) (oO 4 28) rfl
    · exact cc2 wA (qO 2 26 rfl) (qO 5 29 rfl) (fresh_iv _ _) h_outward
    · exact owe_new rfl wA rfl rfl (fun ρ w => alloc_ival ρ _ w)
    · exact owe_put 7 rfl wA rfl (by kernel_rfl) rfl (oO 6 30) (stores_of strct_ival shp_i0 shp_iv) rfl
  intro B5 a5 W5 (S5 : Sta w 46 [(1, (.box 24 (SF [(Is (.float .f64 x)), (Is (.float .f64 y))]))), (2, (.box 24 (Is (.agg #[.float .f64 0, .float .f64 0])))), (7, (.box 24 (SF [(FL (loP (some (mnP (q2 p0 p1) 1)))), (FL (hiP (some (mxP (q2 p0 p1) 1))))])))] [] _ _ _)
  refine wp_seq ?_
  refine wp_stmt_seq [.val (Part a5 7 0), .val (FL (loP (some (mnP (q2 p0 p1) 1)))), kF, kF, .val (Part a5 1 0), .val (Is (.float .f64 x)), kT, kT, .val (Part a5 1 1), .val (Is (.float .f64 y)), kT, kT, kT] [.inr 0, .inr 1, .inr 2] [.inl 12] follows S5 rfl (by kernel_rfl) ?_ ?_
  · repeat' refine And.intro ?_ ?_
    · trivial
    · exact owe_part rfl wA rfl (k := 2) rfl (by kernel_rfl) rfl (fun ρ w b h => part_ival0 ρ _ _ w b 0 h)
    · exact owe_pload rfl wA rfl (oO 0 31) (k := 2) rfl (by kernel_rfl) rfl (fun ρ w b u h1 h2 h3 => ploadI rfl load1_f64 ρ _ _ w b u h1 h2 h3)
    · exact owe_fcmp rfl wA rfl (oO 1 32) ((opnd_const _).imp (fl_is (by decide))) (lt_f (p := dnI (mnP (q2 p0 p1) 1)) hd) rfl
    · exact mO 2 33
    · exact owe_part rfl (wI 3 34) rfl (k := 0) rfl (by kernel_rfl) rfl (fun ρ w b h => part_ival0 ρ _ _ w b 0 h)
    · exact owe_pload rfl (wI 3 34) rfl (oO 4 35) (k := 0) rfl (by kernel_rfl) rfl (fun ρ w b u h1 h2 h3 => ploadI rfl load1_f64 ρ _ _ w b u h1 h2 h3)
    · exact owe_fcmp rfl (wI 3 34) rfl ((oO 5 36).imp (fl_is hx)) ((opnd_const _).imp (fl_is (by decide))) (le0_t hpx ha) rfl
    · exact mW (wI 3 34) (oO 6 37)
    · exact owe_part rfl (wI 7 38) rfl (k := 0) rfl (by kernel_rfl) rfl (fun ρ w b h => part_ival1 ρ _ _ w b 0 h)
    · exact owe_pload rfl (wI 7 38) rfl (oO 8 39) (k := 0) rfl (by kernel_rfl) rfl (fun ρ w b u h1 h2 h3 => ploadI rfl load1_f64 ρ _ _ w b u h1 h2 h3)
    · exact owe_fcmp rfl (wI 7 38) rfl ((oO 9 40).imp (fl_is hy)) ((opnd_const _).imp (fl_is (by decide))) (ge0_t hpy hb) rfl
    · exact pT (wI 3 34) (oO 7 38) (oO 10 41)
    · exact pF wA (oO 3 34) (oO 11 42)
  intro B6 a6 W6 (S6 : Sta w 46 [(1, (.box 24 (SF [(Is (.float .f64 x)), (Is (.float .f64 y))]))), (2, (.box 24 (Is (.agg #[.float .f64 0, .float .f64 0])))), (7, (.box 24 (SF [(FL (loP (some (mnP (q2 p0 p1) 1)))), (FL (hiP (some (mxP (q2 p0 p1) 1))))])))] [(43, bT)] _ _ _)
  refine wp_cond_true (S6.bool 0 43 rfl) ?_
  refine wp_stmt [.val (Part a6 7 0), .put (.inl 7) (.box 24 (SF [(FL (plc 0)), (FL (hiP (some (mxP (q2 p0 p1) 1))))]))] [.inr 0, .inr 1, .inr 2] [] follows S6 rfl (by kernel_rfl) ?_ ?_
  · refine ⟨⟨trivial, ?_⟩, ?_⟩
    · exact owe_part rfl wA rfl (k := 2) rfl (by kernel_rfl) rfl (fun ρ w b h => part_ival0 ρ _ _ w b 0 h)
    · exact owe_pput (f := 0) rfl wA rfl (oO 0 44) (k := 2) rfl (by kernel_rfl) ((opnd_const _).imp (fl_is (by decide))) flt_fl (Nat.le_of_ble_eq_true rfl) rfl
  intro B7 a7 W7 (S7 : Sta w 46 [(1, (.box 24 (SF [(Is (.float .f64 x)), (Is (.float .f64 y))]))), (2, (.box 24 (Is (.agg #[.float .f64 0, .float .f64 0])))), (7, (.box 24 (SF [(FL (plc 0)), (FL (hiP (some (mxP (q2 p0 p1) 1))))])))] [] _ _ _)
  refine thenN ?_
  refine wp_stmt_seq [.val (SF [(FL (plc 0)), (FL (hiP (some (mxP (q2 p0 p1) 1))))]), .put (.inl 2) (.box 24 (SF [(FL (plc 0)), (FL (hiP (some (mxP (q2 p0 p1) 1))))])), .val (iV 0)] [.inr 0, .inr 1, .inr 2] [.inl 2] follows S7 rfl (by kernel_rfl) ?_ ?_
  · refine ⟨⟨⟨trivial, ?_⟩, ?_⟩, ?_⟩
    · exact lod 2 wA (loads_of strct_ival shp_iv)
    · exact owe_set rfl wA rfl (k := 1) rfl (by kernel_rfl) (oO 0 45) (stores_of strct_ival shp_i0 shp_iv) rfl
    · exact mC
  intro B8 a8 W8 (S8 : Sta w 46 [(1, (.box 24 (SF [(Is (.float .f64 x)), (Is (.float .f64 y))]))), (2, (.box 24 (SF [(FL (plc 0)), (FL (hiP (some (mxP (q2 p0 p1) 1))))]))), (7, (.box 24 (SF [(FL (plc 0)), (FL (hiP (some (mxP (q2 p0 p1) 1))))])))] [(3, iV 0)] _ _ _)
  refine wp_ret ?_
  exact end_two S8 rfl (res_cell S8 1 2 rfl strct_ival shp_iv) (res_tmp S8 0 3 rfl)
set_option maxHeartbeats 1000000 in
theorem sqr_C (w : World) (x y : Nat) (hx : x < 18446744073709551616) (hy : y < 18446744073709551616) (h : okI x y = true) (px py p0 p1 : Int) (hpx : plc x = some px) (hpy : plc y = some py) (h0 : tmP x x = some p0) (h1 : tmP y y = some p1) (hd : ¬ dnI (mnP (q2 p0 p1) 1) < 0) (ha : px ≤ 0) (hb : py < 0) :
    Calls Tryz.prog 11 #[(.agg #[.float .f64 x, .float .f64 y])] w (Gives (TWO (IVN (loP (some (mnP (q2 p0 p1) 1))) (hiP (some (mxP (q2 p0 p1) 1)))) (IS (.int .i64 0))) w) := by
  refine calls_sta (sl := [(0, (SF [(Is (.float .f64 x)), (Is (.float .f64 y))]))]) Tryz.func11 rfl Tryz.ntmps11 (by simp) (args_cons rfl (ix_has) args_nil) ?_
  intro a0 S0
  refine wp_stmt_seq [.new (.box 24 (SF [(Is (.float .f64 x)), (Is (.float .f64 y))])), .new (.box 24 (Is (.agg #[.float .f64 0, .float .f64 0]))), .val (iV 0)] [.inl 0, .inl 1] [] follows S0 rfl (by kernel_rfl) ?_ ?_
  · refine ⟨⟨⟨trivial, ?_⟩, ?_⟩, ?_⟩
    · exact owe_box rfl wA rfl (oS 0 0) rfl (fun ρ w h => box_ival shp_iv ρ _ _ w h)
    · exact owe_new rfl wA rfl rfl (fun ρ w => alloc_ival ρ _ w)
    · exact mC
  intro B1 a1 W1 (S1 : Sta w 46 [(1, (.box 24 (SF [(Is (.float .f64 x)), (Is (.float .f64 y))]))), (2, (.box 24 (Is (.agg #[.float .f64 0, .float .f64 0]))))] [] _ _ _)
  refine wp_seq ?_
  refine wp_stmt_seq [.val (SF [(Is (.float .f64 x)), (Is (.float .f64 y))]), .val (iV 0), .val (iV 0)] [.inr 0, .inr 1] [.inl 2] follows S1 rfl (by kernel_rfl) ?_ ?_
  · refine ⟨⟨⟨trivial, ?_⟩, ?_⟩, ?_⟩
    · exact lod 0 wA (loads_of strct_ival shp_iv)
    · exact cc1 wA (qO 0 8 rfl) (fresh_is _) (ix1 (fun w => ivalid_t w _ _ hx hy h))
    · exact mO 1 9
  intro B2 a2 W2 (S2 : Sta w 46 [(1, (.box 24 (SF [(Is (.float .f64 x)), (Is (.float .f64 y))]))), (2, (.box 24 (Is (.agg #[.float .f64 0, .float .f64 0]))))] [(4, iV 0)] _ _ _)
  refine wp_stmt_seq [.val (iV 0), kF] [.inr 0, .inr 1] [.inl 1, .inr 0] follows S2 rfl (by kernel_rfl) ?_ ?_
  · refine ⟨⟨trivial, ?_⟩, ?_⟩
    · exact mS 0 4
    · exact b_neq_errno_f wA (oO 0 10) (opnd_const _) (h := by decide)
  intro B3 a3 W3 (S3 : Sta w 46 [(1, (.box 24 (SF [(Is (.float .f64 x)), (Is (.float .f64 y))]))), (2, (.box 24 (Is (.agg #[.float .f64 0, .float .f64 0]))))] [(11, bF), (4, iV 0)] _ _ _)
  refine wp_cond_false (S3.bool 0 11 rfl) ?_
  refine wp_skip ?_
  refine thenN ?_
  refine wp_stmt_seq [.val (Part a3 1 0), .val (Is (.float .f64 x)), .val (Part a3 1 0), .val (Is (.float .f64 x)), .val (FL (some p0)), .val (Part a3 1 1), .val (Is (.float .f64 y)), .val (Part a3 1 1), .val (Is (.float .f64 y)), .val (FL (some p1)), .val (FL (some p0)), .val (FL (some p1))] [.inr 0, .inr 1] [.inl 10, .inl 11] follows S3 rfl (by kernel_rfl) ?_ ?_
  · repeat' refine And.intro ?_ ?_
    · trivial
    · exact owe_part rfl wA rfl (k := 0) rfl (by kernel_rfl) rfl (fun ρ w b h => part_ival0 ρ _ _ w b 0 h)
    · exact owe_pload rfl wA rfl (oO 0 14) (k := 0) rfl (by kernel_rfl) rfl (fun ρ w b u h1 h2 h3 => ploadI rfl load1_f64 ρ _ _ w b u h1 h2 h3)
    · exact owe_part rfl wA rfl (k := 0) rfl (by kernel_rfl) rfl (fun ρ w b h => part_ival0 ρ _ _ w b 0 h)
    · exact owe_pload rfl wA rfl (oO 2 16) (k := 0) rfl (by kernel_rfl) rfl (fun ρ w b u h1 h2 h3 => ploadI rfl load1_f64 ρ _ _ w b u h1 h2 h3)
    · exact cc2 wA (qO 1 15 rfl) (qO 3 17 rfl) (fresh_fl _) (h_it hx hx h0)
    · exact owe_part rfl wA rfl (k := 0) rfl (by kernel_rfl) rfl (fun ρ w b h => part_ival1 ρ _ _ w b 0 h)
    · exact owe_pload rfl wA rfl (oO 5 19) (k := 0) rfl (by kernel_rfl) rfl (fun ρ w b u h1 h2 h3 => ploadI rfl load1_f64 ρ _ _ w b u h1 h2 h3)
    · exact owe_part rfl wA rfl (k := 0) rfl (by kernel_rfl) rfl (fun ρ w b h => part_ival1 ρ _ _ w b 0 h)
    · exact owe_pload rfl wA rfl (oO 7 21) (k := 0) rfl (by kernel_rfl) rfl (fun ρ w b u h1 h2 h3 => ploadI rfl load1_f64 ρ _ _ w b u h1 h2 h3)
    · exact cc2 wA (qO 6 20 rfl) (qO 8 22 rfl) (fresh_fl _) (h_it hy hy h1)
    · exact mO 4 18
    · exact mO 9 23
  intro B4 a4 W4 (S4 : Sta w 46 [(1, (.box 24 (SF [(Is (.float .f64 x)), (Is (.float .f64 y))]))), (2, (.box 24 (Is (.agg #[.float .f64 0, .float .f64 0]))))] [(5, (FL (some p0))), (6, (FL (some p1)))] _ _ _)
  refine wp_stmt_seq [.val (FL (some p0)), .val (FL (some p1)), .val (FL (some (mnP (q2 p0 p1) 1))), .val (FL (some p0)), .val (FL (some p1)), .val (FL (some (mxP (q2 p0 p1) 1))), .val (SF [(FL (loP (some (mnP (q2 p0 p1) 1)))), (FL (hiP (some (mxP (q2 p0 p1) 1))))]), .new (.box 24 (Is (.agg #[.float .f64 0, .float .f64 0]))), .put (.inr 7) (.box 24 (SF [(FL (loP (some (mnP (q2 p0 p1) 1)))), (FL (hiP (some (mxP (q2 p0 p1) 1))))]))] [.inr 0, .inr 1, .inl 7] [] follows S4 rfl (by kernel_rfl) ?_ ?_
  · repeat' refine And.intro ?_ ?_
    · trivial
    · exact mS 0 5
    · exact mS 1 6
    · exact owe_fmin2 rfl wA rfl (oO 0 24) (oO 1 25) rfl
    · exact mS 0 5
    · exact mS 1 6
    · exact owe_fmax2 rfl wA rfl (oO 3 27) (oO 4 28) rfl
    · exact cc2 wA (qO 2 26 rfl) (qO 5 29 rfl) (fresh_iv _ _) h_outward
    · exact owe_new rfl wA rfl rfl (fun ρ w => alloc_ival ρ _ w)
    · exact owe_put 7 rfl wA rfl (by kernel_rfl) rfl (oO 6 30) (stores_of strct_ival shp_i0 shp_iv) rfl
  intro B5 a5 W5 (S5 : Sta w 46 [(1, (.box 24 (SF [(Is (.float .f64 x)), (Is (.float .f64 y))]))), (2, (.box 24 (Is (.agg #[.float .f64 0, .float .f64 0])))), (7, (.box 24 (SF [(FL (loP (some (mnP (q2 p0 p1) 1)))), (FL (hiP (some (mxP (q2 p0 p1) 1))))])))] [] _ _ _)
  refine wp_seq ?_
  refine wp_stmt_seq [.val (Part a5 7 0), .val (FL (loP (some (mnP (q2 p0 p1) 1)))), kF, kF, .val (Part a5 1 0), .val (Is (.float .f64 x)), kT, kT, .val (Part a5 1 1), .val (Is (.float .f64 y)), kF, kF, kF] [.inr 0, .inr 1, .inr 2] [.inl 12] follows S5 rfl (by kernel_rfl) ?_ ?_
  · repeat' refine And.intro ?_ ?_
    · trivial
    · exact owe_part rfl wA rfl (k := 2) rfl (by kernel_rfl) rfl (fun ρ w b h => part_ival0 ρ _ _ w b 0 h)
    · exact owe_pload rfl wA rfl (oO 0 31) (k := 2) rfl (by kernel_rfl) rfl (fun ρ w b u h1 h2 h3 => ploadI rfl load1_f64 ρ _ _ w b u h1 h2 h3)
    · exact owe_fcmp rfl wA rfl (oO 1 32) ((opnd_const _).imp (fl_is (by decide))) (lt_f (p := dnI (mnP (q2 p0 p1) 1)) hd) rfl
    · exact mO 2 33
    · exact owe_part rfl (wI 3 34) rfl (k := 0) rfl (by kernel_rfl) rfl (fun ρ w b h => part_ival0 ρ _ _ w b 0 h)
    · exact owe_pload rfl (wI 3 34) rfl (oO 4 35) (k := 0) rfl (by kernel_rfl) rfl (fun ρ w b u h1 h2 h3 => ploadI rfl load1_f64 ρ _ _ w b u h1 h2 h3)
    · exact owe_fcmp rfl (wI 3 34) rfl ((oO 5 36).imp (fl_is hx)) ((opnd_const _).imp (fl_is (by decide))) (le0_t hpx ha) rfl
    · exact mW (wI 3 34) (oO 6 37)
    · exact owe_part rfl (wI 7 38) rfl (k := 0) rfl (by kernel_rfl) rfl (fun ρ w b h => part_ival1 ρ _ _ w b 0 h)
    · exact owe_pload rfl (wI 7 38) rfl (oO 8 39) (k := 0) rfl (by kernel_rfl) rfl (fun ρ w b u h1 h2 h3 => ploadI rfl load1_f64 ρ _ _ w b u h1 h2 h3)
    · exact owe_fcmp rfl (wI 7 38) rfl ((oO 9 40).imp (fl_is hy)) ((opnd_const _).imp (fl_is (by decide))) (ge0_f hpy hb) rfl
    · exact pT (wI 3 34) (oO 7 38) (oO 10 41)
    · exact pF wA (oO 3 34) (oO 11 42)
  intro B6 a6 W6 (S6 : Sta w 46 [(1, (.box 24 (SF [(Is (.float .f64 x)), (Is (.float .f64 y))]))), (2, (.box 24 (Is (.agg #[.float .f64 0, .float .f64 0])))), (7, (.box 24 (SF [(FL (loP (some (mnP (q2 p0 p1) 1)))), (FL (hiP (some (mxP (q2 p0 p1) 1))))])))] [(43, bF)] _ _ _)
  refine wp_cond_false (S6.bool 0 43 rfl) ?_
  refine wp_skip ?_
  refine thenN ?_
  refine wp_stmt_seq [.val (SF [(FL (loP (some (mnP (q2 p0 p1) 1)))), (FL (hiP (some (mxP (q2 p0 p1) 1))))]), .put (.inl 2) (.box 24 (SF [(FL (loP (some (mnP (q2 p0 p1) 1)))), (FL (hiP (some (mxP (q2 p0 p1) 1))))])), .val (iV 0)] [.inr 0, .inr 1, .inr 2] [.inl 2] follows S6 rfl (by kernel_rfl) ?_ ?_
  · refine ⟨⟨⟨trivial, ?_⟩, ?_⟩, ?_⟩
    · exact lod 2 wA (loads_of strct_ival shp_iv)
    · exact owe_set rfl wA rfl (k := 1) rfl (by kernel_rfl) (oO 0 45) (stores_of strct_ival shp_i0 shp_iv) rfl
    · exact mC
  intro B7 a7 W7 (S7 : Sta w 46 [(1, (.box 24 (SF [(Is (.float .f64 x)), (Is (.float .f64 y))]))), (2, (.box 24 (SF [(FL (loP (some (mnP (q2 p0 p1) 1)))), (FL (hiP (some (mxP (q2 p0 p1) 1))))]))), (7, (.box 24 (SF [(FL (loP (some (mnP (q2 p0 p1) 1)))), (FL (hiP (some (mxP (q2 p0 p1) 1))))])))] [(3, iV 0)] _ _ _)
  refine wp_ret ?_
  exact end_two S7 rfl (res_cell S7 1 2 rfl strct_ival shp_iv) (res_tmp S7 0 3 rfl)
set_option maxHeartbeats 1000000 in
theorem sqr_D (w : World) (x y : Nat) (hx : x < 18446744073709551616) (hy : y < 18446744073709551616) (h : okI x y = true) (px py p0 p1 : Int) (hpx : plc x = some px) (hpy : plc y = some py) (h0 : tmP x x = some p0) (h1 : tmP y y = some p1) (hd : ¬ dnI (mnP (q2 p0 p1) 1) < 0) (ha : 0 < px) :
    Calls Tryz.prog 11 #[(.agg #[.float .f64 x, .float .f64 y])] w (Gives (TWO (IVN (loP (some (mnP (q2 p0 p1) 1))) (hiP (some (mxP (q2 p0 p1) 1)))) (IS (.int .i64 0))) w) := by
  refine calls_sta (sl := [(0, (SF [(Is (.float .f64 x)), (Is (.float .f64 y))]))]) Tryz.func11 rfl Tryz.ntmps11 (by simp) (args_cons rfl (ix_has) args_nil) ?_
  intro a0 S0
  refine wp_stmt_seq [.new (.box 24 (SF [(Is (.float .f64 x)), (Is (.float .f64 y))])), .new (.box 24 (Is (.agg #[.float .f64 0, .float .f64 0]))), .val (iV 0)] [.inl 0, .inl 1] [] follows S0 rfl (by kernel_rfl) ?_ ?_
  · refine ⟨⟨⟨trivial, ?_⟩, ?_⟩, ?_⟩
    · exact owe_box rfl wA rfl (oS 0 0) rfl (fun ρ w h => box_ival shp_iv ρ _ _ w h)
    · exact owe_new rfl wA rfl rfl (fun ρ w => alloc_ival ρ _ w)
    · exact mC
  intro B1 a1 W1 (S1 : Sta w 46 [(1, (.box 24 (SF [(Is (.float .f64 x)), (Is (.float .f64 y))]))), (2, (.box 24 (Is (.agg #[.float .f64 0, .float .f64 0]))))] [] _ _ _)
  refine wp_seq ?_
  refine wp_stmt_seq [.val (SF [(Is (.float .f64 x)), (Is (.float .f64 y))]), .val (iV 0), .val (iV 0)] [.inr 0, .inr 1] [.inl 2] follows S1 rfl (by kernel_rfl) ?_ ?_
  · refine ⟨⟨⟨trivial, ?_⟩, ?_⟩, ?_⟩
    · exact lod 0 wA (loads_of strct_ival shp_iv)
    · exact cc1 wA (qO 0 8 rfl) (fresh_is _) (ix1 (fun w => ivalid_t w _ _ hx hy h))
    · exact mO 1 9
  intro B2 a2 W2 (S2 : Sta w 46 [(1, (.box 24 (SF [(Is (.float .f64 x)), (Is (.float .f64 y))]))), (2, (.box 24 (Is (.agg #[.float .f64 0, .float .f64 0]))))] [(4, iV 0)] _ _ _)
  refine wp_stmt_seq [.val (iV 0), kF] [.inr 0, .inr 1] [.inl 1, .inr 0] follows S2 rfl (by kernel_rfl) ?_ ?_
  · refine ⟨⟨trivial, ?_⟩, ?_⟩
    · exact mS 0 4
    · exact b_neq_errno_f wA (oO 0 10) (opnd_const _) (h := by decide)
  intro B3 a3 W3 (S3 : Sta w 46 [(1, (.box 24 (SF [(Is (.float .f64 x)), (Is (.float .f64 y))]))), (2, (.box 24 (Is (.agg #[.float .f64 0, .float .f64 0]))))] [(11, bF), (4, iV 0)] _ _ _)
  refine wp_cond_false (S3.bool 0 11 rfl) ?_
  refine wp_skip ?_
  refine thenN ?_
  refine wp_stmt_seq [.val (Part a3 1 0), .val (Is (.float .f64 x)), .val (Part a3 1 0), .val (Is (.float .f64 x)), .val (FL (some p0)), .val (Part a3 1 1), .val (Is (.float .f64 y)), .val (Part a3 1 1), .val (Is (.float .f64 y)), .val (FL (some p1)), .val (FL (some p0)), .val (FL (some p1))] [.inr 0, .inr 1] [.inl 10, .inl 11] follows S3 rfl (by kernel_rfl) ?_ ?_
  · repeat' refine And.intro ?_ ?_
    · trivial
    · exact owe_part rfl wA rfl (k := 0) rfl (by kernel_rfl) rfl (fun ρ w b h => part_ival0 ρ _ _ w b 0 h)
    · exact owe_pload rfl wA rfl (oO 0 14) (k := 0) rfl (by kernel_rfl) rfl (fun ρ w b u h1 h2 h3 => ploadI rfl load1_f64 ρ _ _ w b u h1 h2 h3)
    · exact owe_part rfl wA rfl (k := 0) rfl (by kernel_rfl) rfl (fun ρ w b h => part_ival0 ρ _ _ w b 0 h)
    · exact owe_pload rfl wA rfl (oO 2 16) (k := 0) rfl (by kernel_rfl) rfl (fun ρ w b u h1 h2 h3 => ploadI rfl load1_f64 ρ _ _ w b u h1 h2 h3)
    · exact cc2 wA (qO 1 15 rfl) (qO 3 17 rfl) (fresh_fl _) (h_it hx hx h0)
    · exact owe_part rfl wA rfl (k := 0) rfl (by kernel_rfl) rfl (fun ρ w b h => part_ival1 ρ _ _ w b 0 h)
    · exact owe_pload rfl wA rfl (oO 5 19) (k := 0) rfl (by kernel_rfl) rfl (fun ρ w b u h1 h2 h3 => ploadI rfl load1_f64 ρ _ _ w b u h1 h2 h3)
    · exact owe_part rfl wA rfl (k := 0) rfl (by kernel_rfl) rfl (fun ρ w b h => part_ival1 ρ _ _ w b 0 h)
    · exact owe_pload rfl wA rfl (oO 7 21) (k := 0) rfl (by kernel_rfl) rfl (fun ρ w b u h1 h2 h3 => ploadI rfl load1_f64 ρ _ _ w b u h1 h2 h3)
    · exact cc2 wA (qO 6 20 rfl) (qO 8 22 rfl) (fresh_fl _) (h_it hy hy h1)
    · exact mO 4 18
    · exact mO 9 23
  intro B4 a4 W4 (S4 : Sta w 46 [(1, (.box 24 (SF [(Is (.float .f64 x)), (Is (.float .f64 y))]))), (2, (.box 24 (Is (.agg #[.float .f64 0, .float .f64 0]))))] [(5, (FL (some p0))), (6, (FL (some p1)))] _ _ _)
  refine wp_stmt_seq [.val (FL (some p0)), .val (FL (some p1)), .val (FL (some (mnP (q2 p0 p1) 1))), .val (FL (some p0)), .val (FL (some p1)), .val (FL (some (mxP (q2 p0 p1) 1))), .val (SF [(FL (loP (some (mnP (q2 p0 p1) 1)))), (FL (hiP (some (mxP (q2 p0 p1) 1))))]), .new (.box 24 (Is (.agg #[.float .f64 0, .float .f64 0]))), .put (.inr 7) (.box 24 (SF [(FL (loP (some (mnP (q2 p0 p1) 1)))), (FL (hiP (some (mxP (q2 p0 p1) 1))))]))] [.inr 0, .inr 1, .inl 7] [] follows S4 rfl (by kernel_rfl) ?_ ?_
  · repeat' refine And.intro ?_ ?_
    · trivial
    · exact mS 0 5
    · exact mS 1 6
    · exact owe_fmin2 rfl wA rfl (oO 0 24) (oO 1 25) rfl
    · exact mS 0 5
    · exact mS 1 6
    · exact owe_fmax2 rfl wA rfl (oO 3 27) (oO 4 28) rfl
    · exact cc2 wA (qO 2 26 rfl) (qO 5 29 rfl) (fresh_iv _ _) h_outward
    · exact owe_new rfl wA rfl rfl (fun ρ w => alloc_ival ρ _ w)
    · exact owe_put 7 rfl wA rfl (by kernel_rfl) rfl (oO 6 30) (stores_of strct_ival shp_i0 shp_iv) rfl
  intro B5 a5 W5 (S5 : Sta w 46 [(1, (.box 24 (SF [(Is (.float .f64 x)), (Is (.float .f64 y))]))), (2, (.box 24 (Is (.agg #[.float .f64 0, .float .f64 0])))), (7, (.box 24 (SF [(FL (loP (some (mnP (q2 p0 p1) 1)))), (FL (hiP (some (mxP (q2 p0 p1) 1))))])))] [] _ _ _)
  refine wp_seq ?_
  refine wp_stmt_seq [.val (Part a5 7 0), .val (FL (loP (some (mnP (q2 p0 p1) 1)))), kF, kF, .val (Part a5 1 0), .val (Is (.float .f64 x)), kF, kF, .off, .off, .off, kF, kF] [.inr 0, .inr 1, .inr 2] [.inl 12] follows S5 rfl (by kernel_rfl) ?_ ?_
  · repeat' refine And.intro ?_ ?_
    · trivial
    · exact owe_part rfl wA rfl (k := 2) rfl (by kernel_rfl) rfl (fun ρ w b h => part_ival0 ρ _ _ w b 0 h)
    · exact owe_pload rfl wA rfl (oO 0 31) (k := 2) rfl (by kernel_rfl) rfl (fun ρ w b u h1 h2 h3 => ploadI rfl load1_f64 ρ _ _ w b u h1 h2 h3)
    · exact owe_fcmp rfl wA rfl (oO 1 32) ((opnd_const _).imp (fl_is (by decide))) (lt_f (p := dnI (mnP (q2 p0 p1) 1)) hd) rfl
    · exact mO 2 33
    · exact owe_part rfl (wI 3 34) rfl (k := 0) rfl (by kernel_rfl) rfl (fun ρ w b h => part_ival0 ρ _ _ w b 0 h)
    · exact owe_pload rfl (wI 3 34) rfl (oO 4 35) (k := 0) rfl (by kernel_rfl) rfl (fun ρ w b u h1 h2 h3 => ploadI rfl load1_f64 ρ _ _ w b u h1 h2 h3)
    · exact owe_fcmp rfl (wI 3 34) rfl ((oO 5 36).imp (fl_is hx)) ((opnd_const _).imp (fl_is (by decide))) (le0_f hpx ha) rfl
    · exact mW (wI 3 34) (oO 6 37)
    · exact oF 7 38
    · exact oF 7 38
    · exact oF 7 38
    · exact pF (wI 3 34) (oO 7 38) (opnd_const _)
    · exact pF wA (oO 3 34) (oO 11 42)
  intro B6 a6 W6 (S6 : Sta w 46 [(1, (.box 24 (SF [(Is (.float .f64 x)), (Is (.float .f64 y))]))), (2, (.box 24 (Is (.agg #[.float .f64 0, .float .f64 0])))), (7, (.box 24 (SF [(FL (loP (some (mnP (q2 p0 p1) 1)))), (FL (hiP (some (mxP (q2 p0 p1) 1))))])))] [(43, bF)] _ _ _)
  refine wp_cond_false (S6.bool 0 43 rfl) ?_
  refine wp_skip ?_
  refine thenN ?_
  refine wp_stmt_seq [.val (SF [(FL (loP (some (mnP (q2 p0 p1) 1)))), (FL (hiP (some (mxP (q2 p0 p1) 1))))]), .put (.inl 2) (.box 24 (SF [(FL (loP (some (mnP (q2 p0 p1) 1)))), (FL (hiP (some (mxP (q2 p0 p1) 1))))])), .val (iV 0)] [.inr 0, .inr 1, .inr 2] [.inl 2] follows S6 rfl (by kernel_rfl) ?_ ?_
  · refine ⟨⟨⟨trivial, ?_⟩, ?_⟩, ?_⟩
    · exact lod 2 wA (loads_of strct_ival shp_iv)
    · exact owe_set rfl wA rfl (k := 1) rfl (by kernel_rfl) (oO 0 45) (stores_of strct_ival shp_i0 shp_iv) rfl
    · exact mC
  intro B7 a7 W7 (S7 : Sta w 46 [(1, (.box 24 (SF [(Is (.float .f64 x)), (Is (.float .f64 y))]))), (2, (.box 24 (SF [(FL (loP (some (mnP (q2 p0 p1) 1)))), (FL (hiP (some (mxP (q2 p0 p1) 1))))]))), (7, (.box 24 (SF [(FL (loP (some (mnP (q2 p0 p1) 1)))), (FL (hiP (some (mxP (q2 p0 p1) 1))))])))] [(3, iV 0)] _ _ _)
  refine wp_ret ?_
  exact end_two S7 rfl (res_cell S7 1 2 rfl strct_ival shp_iv) (res_tmp S7 0 3 rfl)
/-- The lower end of a square. -/
def sqL (px py p0 p1 : Int) : Option Int := if dnI (mnP (q2 p0 p1) 1) < 0 ∨ (px ≤ 0 ∧ 0 ≤ py) then some 0 else some (dnI (mnP (q2 p0 p1) 1))
def sqH (p0 p1 : Int) : Option Int := upP (some (mxP (q2 p0 p1) 1))
theorem sqr_w (w : World) (x y : Nat) (hx : x < 18446744073709551616) (hy : y < 18446744073709551616) (h : okI x y = true) (px py p0 p1 : Int) (hpx : plc x = some px) (hpy : plc y = some py) (h0 : tmP x x = some p0) (h1 : tmP y y = some p1) : Calls Tryz.prog 11 #[.agg #[.float .f64 x, .float .f64 y]] w (Gives (TWO (IVN (sqL px py p0 p1) (sqH p0 p1)) (IS (.int .i64 0))) w) := by
  unfold sqL sqH
  by_cases hd : dnI (mnP (q2 p0 p1) 1) < 0
  · rw [if_pos (Or.inl hd)]; exact sqr_A w x y hx hy h px py p0 p1 hpx hpy h0 h1 hd
  · by_cases ha : px ≤ 0
    · by_cases hb : 0 ≤ py
      · rw [if_pos (Or.inr ⟨ha, hb⟩)]; exact sqr_B w x y hx hy h px py p0 p1 hpx hpy h0 h1 hd ha hb
      · rw [if_neg (by omega)]; exact sqr_C w x y hx hy h px py p0 p1 hpx hpy h0 h1 hd ha (by omega)
    · rw [if_neg (by omega)]; exact sqr_D w x y hx hy h px py p0 p1 hpx hpy h0 h1 hd (by omega)
end Go.Proofs.YtgalppimdmjdcabGreat
