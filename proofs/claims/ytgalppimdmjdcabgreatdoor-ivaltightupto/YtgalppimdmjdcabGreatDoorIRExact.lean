/-
  The document's Exact.
-/
import Derived.Test.YtgalppimdmjdcabGreatDoorIfG
import Derived.Test.YtgalppimdmjdcabGreatDoorFlC
import Derived.Test.YtgalppimdmjdcabGreatDoorFlB
import Derived.Test.YtgalppimdmjdcabGreatDoorSetS
namespace Go.Proofs.YtgalppimdmjdcabGreatDoor
open Go Go.RowKit Nt
set_option linter.unusedSimpArgs false
set_option linter.unusedVariables false
set_option maxRecDepth 20000

theorem g_rmulI {x y ka kb : Nat} (hk : ka + kb ≤ 35184372088832) : ∀ w u v, Nv x ka u w → Nv y kb v w → Calls Tryz.prog 53 #[u, v] w (Gives (NN (x * y)) w) := by
  rintro w u v ⟨p, n, c, xs, rfl, h, rfl, hn⟩ ⟨q, m, d, ys, rfl, h', rfl, hm⟩
  refine (rmul_c w p q n c m d xs ys h h' (by omega)).mono ?_
  rintro e w' ⟨r, cr, rfl, A⟩
  exact ⟨_, rfl, A.below, ans_nn A⟩
set_option maxHeartbeats 400000 in
theorem rexact_inf (w : World) (b bm E f : Nat) (hb : b < 18446744073709551616) (e1 : b % 9223372036854775808 = bm) (e2 : bm / 4503599627370496 = E) (e3 : bm % 4503599627370496 = f) (hi : 9218868437227405312 ≤ bm) :
    Calls Tryz.prog 26 #[(.float .f64 b)] w (Gives (TWO (RN 0 1) (IS (.bool false))) w) := by
  refine calls_sta (sl := [(0, (Is (.float .f64 b)))]) Tryz.func26 rfl Tryz.ntmps26 (by simp) (args_cons rfl (is_has _) args_nil) ?_
  intro a0 S0
  refine wp_stmt_seq [.new (.box 26 zR), kF] [.inl 0] [.inr 0] follows S0 rfl (by kernel_rfl) ?_ ?_
  · refine ⟨⟨trivial, ?_⟩, ?_⟩
    · exact owe_new rfl wA rfl rfl (fun ρ w => alloc_rat ρ _ w)
    · exact mC
  intro B1 a1 W1 (S1 : Sta w 53 [(2, (.box 26 zR))] [(0, Is (.float .f64 b))] _ _ _)
  refine wp_stmt_seq [.val (Is (.float .f64 b)), .val (Is (.int .u64 ((b : Nat) : Int))), .val (Is (.int .u64 ((b : Nat) : Int)))] [.inr 0] [.inl 2] follows S1 rfl (by kernel_rfl) ?_ ?_
  · refine ⟨⟨⟨trivial, ?_⟩, ?_⟩, ?_⟩
    · exact mS 0 0
    · exact cc1 wA (qO 0 8 rfl) (fresh_is _) (pur1 (rbits_p b))
    · exact mO 1 9
  intro B2 a2 W2 (S2 : Sta w 53 [(2, (.box 26 zR))] [(4, Is (.int .u64 ((b : Nat) : Int)))] _ _ _)
  refine wp_stmt_seq [.val (Is (.int .u64 ((b : Nat) : Int))), .val (Is (.int .u64 ((bm : Nat) : Int))), .val (Is (.int .u64 ((bm : Nat) : Int)))] [.inr 0] [.inl 2, .inr 0] follows S2 rfl (by kernel_rfl) ?_ ?_
  · refine ⟨⟨⟨trivial, ?_⟩, ?_⟩, ?_⟩
    · exact mS 0 4
    · exact owe_bin rfl wA rfl (oO 0 10) (opnd_const _) rfl (fun ρ w h1 h2 => by rw [← e1]; exact u_rem ρ _ _ _ w b 9223372036854775808 (by decide) h1 h2)
    · exact mO 1 11
  intro B3 a3 W3 (S3 : Sta w 53 [(2, (.box 26 zR))] [(5, Is (.int .u64 ((bm : Nat) : Int))), (4, Is (.int .u64 ((b : Nat) : Int)))] _ _ _)
  refine wp_seq ?_
  refine wp_stmt_seq [.val (Is (.int .u64 ((bm : Nat) : Int))), kT] [.inr 0] [.inl 1, .inr 0, .inr 1] follows S3 rfl (by kernel_rfl) ?_ ?_
  · refine ⟨⟨trivial, ?_⟩, ?_⟩
    · exact mS 0 5
    · exact owe_bin rfl wA rfl (oO 0 12) (opnd_const _) rfl (fun ρ w h1 h2 => by exact u_geq_t ρ _ _ _ w _ _ (by omega) h1 h2)
  intro B4 a4 W4 (S4 : Sta w 53 [(2, (.box 26 zR))] [(13, bT), (5, Is (.int .u64 ((bm : Nat) : Int))), (4, Is (.int .u64 ((b : Nat) : Int)))] _ _ _)
  refine wp_cond_true (S4.bool 0 13 rfl) ?_
  refine wp_stmt_seq [.val zI, .val ((RN 0 1) w.heap.size), .put (.inl 2) (.box 26 ((RN 0 1) w.heap.size)), kF] [.inr 0] [.inl 3] follows S4 rfl (by kernel_rfl) ?_ ?_
  · refine ⟨⟨⟨⟨trivial, ?_⟩, ?_⟩, ?_⟩, ?_⟩
    · exact owe_build_int rfl wA rfl rfl
    · exact cc1 wA (qO 0 14 rfl) (fresh_rn _ _) (fun w u h1 => g_rofr (by omega) w u (zero_zv _ _ h1))
    · exact owe_set rfl wA rfl (k := 0) rfl (by kernel_rfl) (oO 1 15) (stores_of strct_rat shp_r0 (shp_pr shp_zn shp_zn)) rfl
    · exact mC
  intro B5 a5 W5 (S5 : Sta w 53 [(2, (.box 26 ((RN 0 1) w.heap.size)))] [(3, bF)] _ _ _)
  refine wp_ret ?_
  refine thenR ?_
  exact end_two S5 rfl (res_cell S5 0 2 rfl strct_rat (shp_pr shp_zn shp_zn)) (res_tmp S5 0 3 rfl)
set_option maxHeartbeats 2000000 in
theorem rexact_s (w : World) (b bm E f : Nat) (hb : b < 18446744073709551616) (e1 : b % 9223372036854775808 = bm) (e2 : bm / 4503599627370496 = E) (e3 : bm % 4503599627370496 = f) (sgn : Bool) (hsg : decide ((9223372036854775808 : Int) ≤ (b : Int)) = sgn) (hi : bm < 9218868437227405312) (hE : E = 0) (x : Nat) (hx : x = 1074) :
    Calls Tryz.prog 26 #[(.float .f64 b)] w (Gives (TWO (RN (nR (sg sgn f) (2 ^ x)) (dR (sg sgn f) (2 ^ x))) (IS (.bool true))) w) := by
  refine calls_sta (sl := [(0, (Is (.float .f64 b)))]) Tryz.func26 rfl Tryz.ntmps26 (by simp) (args_cons rfl (is_has _) args_nil) ?_
  intro a0 S0
  refine wp_stmt_seq [.new (.box 26 zR), kF] [.inl 0] [.inr 0] follows S0 rfl (by kernel_rfl) ?_ ?_
  · refine ⟨⟨trivial, ?_⟩, ?_⟩
    · exact owe_new rfl wA rfl rfl (fun ρ w => alloc_rat ρ _ w)
    · exact mC
  intro B1 a1 W1 (S1 : Sta w 53 [(2, (.box 26 zR))] [(0, Is (.float .f64 b))] _ _ _)
  refine wp_stmt_seq [.val (Is (.float .f64 b)), .val (Is (.int .u64 ((b : Nat) : Int))), .val (Is (.int .u64 ((b : Nat) : Int)))] [.inr 0] [.inl 2] follows S1 rfl (by kernel_rfl) ?_ ?_
  · refine ⟨⟨⟨trivial, ?_⟩, ?_⟩, ?_⟩
    · exact mS 0 0
    · exact cc1 wA (qO 0 8 rfl) (fresh_is _) (pur1 (rbits_p b))
    · exact mO 1 9
  intro B2 a2 W2 (S2 : Sta w 53 [(2, (.box 26 zR))] [(4, Is (.int .u64 ((b : Nat) : Int)))] _ _ _)
  refine wp_stmt_seq [.val (Is (.int .u64 ((b : Nat) : Int))), .val (Is (.int .u64 ((bm : Nat) : Int))), .val (Is (.int .u64 ((bm : Nat) : Int)))] [.inr 0] [.inl 2, .inr 0] follows S2 rfl (by kernel_rfl) ?_ ?_
  · refine ⟨⟨⟨trivial, ?_⟩, ?_⟩, ?_⟩
    · exact mS 0 4
    · exact owe_bin rfl wA rfl (oO 0 10) (opnd_const _) rfl (fun ρ w h1 h2 => by rw [← e1]; exact u_rem ρ _ _ _ w b 9223372036854775808 (by decide) h1 h2)
    · exact mO 1 11
  intro B3 a3 W3 (S3 : Sta w 53 [(2, (.box 26 zR))] [(5, Is (.int .u64 ((bm : Nat) : Int))), (4, Is (.int .u64 ((b : Nat) : Int)))] _ _ _)
  refine wp_seq ?_
  refine wp_stmt_seq [.val (Is (.int .u64 ((bm : Nat) : Int))), kF] [.inr 0] [.inl 1, .inr 0, .inr 1] follows S3 rfl (by kernel_rfl) ?_ ?_
  · refine ⟨⟨trivial, ?_⟩, ?_⟩
    · exact mS 0 5
    · exact owe_bin rfl wA rfl (oO 0 12) (opnd_const _) rfl (fun ρ w h1 h2 => by exact u_geq_f ρ _ _ _ w _ _ (by omega) h1 h2)
  intro B4 a4 W4 (S4 : Sta w 53 [(2, (.box 26 zR))] [(13, bF), (5, Is (.int .u64 ((bm : Nat) : Int))), (4, Is (.int .u64 ((b : Nat) : Int)))] _ _ _)
  refine wp_cond_false (S4.bool 0 13 rfl) ?_
  refine wp_skip ?_
  refine thenN ?_
  refine wp_stmt_seq [.val (Is (.int .u64 ((bm : Nat) : Int))), .val (Is (.int .u64 ((E : Nat) : Int))), .val (iV ((E : Nat) : Int)), .val (iV ((E : Nat) : Int))] [.inr 0] [.inl 3, .inr 1, .inr 2] follows S4 rfl (by kernel_rfl) ?_ ?_
  · refine ⟨⟨⟨⟨trivial, ?_⟩, ?_⟩, ?_⟩, ?_⟩
    · exact mS 1 5
    · exact owe_bin rfl wA rfl (oO 0 16) (opnd_const _) rfl (fun ρ w h1 h2 => by rw [← e2]; exact u_shr52 ρ _ _ _ w bm _ h1 h2)
    · exact owe_un (x := .tmp 17) rfl wA rfl (oO 1 17) rfl (fun ρ w h1 => by exact u_int ρ _ _ w E (by omega) h1)
    · exact mO 2 18
  intro B5 a5 W5 (S5 : Sta w 53 [(2, (.box 26 zR))] [(6, iV ((E : Nat) : Int)), (5, Is (.int .u64 ((bm : Nat) : Int))), (4, Is (.int .u64 ((b : Nat) : Int)))] _ _ _)
  refine wp_stmt_seq [.val (Is (.int .u64 ((bm : Nat) : Int))), .val (Is (.int .u64 ((f : Nat) : Int))), .val (Is (.int .u64 ((f : Nat) : Int)))] [.inr 0] [.inl 2, .inr 0, .inr 2] follows S5 rfl (by kernel_rfl) ?_ ?_
  · refine ⟨⟨⟨trivial, ?_⟩, ?_⟩, ?_⟩
    · exact mS 1 5
    · exact owe_bin rfl wA rfl (oO 0 19) (opnd_const _) rfl (fun ρ w h1 h2 => by rw [← e3]; exact u_rem ρ _ _ _ w bm 4503599627370496 (by decide) h1 h2)
    · exact mO 1 20
  intro B6 a6 W6 (S6 : Sta w 53 [(2, (.box 26 zR))] [(5, Is (.int .u64 ((f : Nat) : Int))), (6, iV ((E : Nat) : Int)), (4, Is (.int .u64 ((b : Nat) : Int)))] _ _ _)
  refine wp_seq ?_
  refine wp_stmt_seq [.val (iV ((E : Nat) : Int)), kT] [.inr 0] [.inl 1, .inr 0, .inr 1, .inr 2] follows S6 rfl (by kernel_rfl) ?_ ?_
  · refine ⟨⟨trivial, ?_⟩, ?_⟩
    · exact mS 1 6
    · exact b_eql_int_t wA (oO 0 21) (opnd_const _)
  intro B7 a7 W7 (S7 : Sta w 53 [(2, (.box 26 zR))] [(22, bT), (5, Is (.int .u64 ((f : Nat) : Int))), (6, iV ((E : Nat) : Int)), (4, Is (.int .u64 ((b : Nat) : Int)))] _ _ _)
  refine wp_cond_true (S7.bool 0 22 rfl) ?_
  refine wp_stmt [.val (iV 1)] [.inr 0] [.inl 0, .inr 1, .inr 3] follows S7 rfl (by kernel_rfl) ?_ ?_
  · refine ⟨trivial, ?_⟩
    · exact mC
  intro B8 a8 W8 (S8 : Sta w 53 [(2, (.box 26 zR))] [(6, iV 1), (5, Is (.int .u64 ((f : Nat) : Int))), (4, Is (.int .u64 ((b : Nat) : Int)))] _ _ _)
  refine thenN ?_
  refine wp_stmt_seq [.val (Is (.int .u64 ((b : Nat) : Int))), .val (Is (.bool sgn)), .val (Is (.int .u64 ((f : Nat) : Int))), .val (Is (.int .u64 ((f % 4294967296 : Nat) : Int))), .val (Is (.int .u32 ((f % 4294967296 : Nat) : Int))), .val (Is (.int .u64 ((f : Nat) : Int))), .val (Is (.int .u64 ((f / 4294967296 : Nat) : Int))), .val (Is (.int .u32 ((f / 4294967296 : Nat) : Int))), .val ((NW f 2) w.heap.size), .val (SF [(Is (.bool sgn)), ((NW f 2) w.heap.size)]), .new (.box 24 zI), .put (.inr 10) (.box 24 (SF [(Is (.bool sgn)), ((NW f 2) w.heap.size)]))] [.inr 0, .inl 10] [.inr 0] follows S8 rfl (by kernel_rfl) ?_ ?_
  · repeat' refine And.intro ?_ ?_
    · trivial
    · exact mS 2 4
    · exact owe_bin rfl wA rfl (oO 0 25) (opnd_const _) rfl (fun ρ w h1 h2 => by rw [← hsg]; exact u_geq ρ _ _ _ w _ _ h1 h2)
    · exact mS 1 5
    · exact owe_bin rfl wA rfl (oO 2 27) (opnd_const _) rfl (fun ρ w h1 h2 => by exact u_rem ρ _ _ _ w f 4294967296 (by decide) h1 h2)
    · exact owe_un (x := .tmp 28) rfl wA rfl (oO 3 28) rfl (fun ρ w h1 => by exact u_u32 ρ _ _ w _ (by omega) h1)
    · exact mS 1 5
    · exact owe_bin rfl wA rfl (oO 5 30) (opnd_const _) rfl (fun ρ w h1 h2 => by exact u_shr32 ρ _ _ _ w f _ h1 h2)
    · exact owe_un (x := .tmp 31) rfl wA rfl (oO 6 31) rfl (fun ρ w h1 => by exact u_u32 ρ _ _ w _ (by omega) h1)
    · exact owe_bs2 rfl wA rfl (oO 4 29) (oO 7 32) (by omega) (by omega) (by omega) rfl
    · exact owe_bintS rfl wA rfl (oO 1 26) (oO 8 33) nw_sl rfl
    · exact owe_new rfl wA rfl rfl (fun ρ w => alloc_int ρ _ w)
    · exact owe_put 10 rfl wA rfl (by kernel_rfl) rfl (oO 9 34) (stores_of strct_int shp_z0 shp_bs) rfl
  intro B9 a9 W9 (S9 : Sta w 53 [(2, (.box 26 zR)), (7, (.box 24 (SF [(Is (.bool sgn)), ((NW f 2) w.heap.size)])))] [(6, iV 1)] _ _ _)
  refine wp_seq ?_
  refine wp_stmt_seq [.val (iV 1), kF] [.inr 0, .inr 1] [.inl 1, .inr 0] follows S9 rfl (by kernel_rfl) ?_ ?_
  · refine ⟨⟨trivial, ?_⟩, ?_⟩
    · exact mS 0 6
    · exact b_geq_int_f wA (oO 0 35) (opnd_const _)
  intro B10 a10 W10 (S10 : Sta w 53 [(2, (.box 26 zR)), (7, (.box 24 (SF [(Is (.bool sgn)), ((NW f 2) w.heap.size)])))] [(36, bF), (6, iV 1)] _ _ _)
  refine wp_cond_false (S10.bool 0 36 rfl) ?_
  refine wp_skip ?_
  refine thenN ?_
  refine wp_stmt_seq [.val (SF [(Is (.bool sgn)), ((NW f 2) w.heap.size)]), .val (iV 1), .val (iV ((x : Nat) : Int)), .val ((NW (2 ^ x) (x / 32 + 1)) w.heap.size), .val (Zv (sg false (2 ^ x)) (x / 32 + 1)), .val ((RN (nR (sg sgn f) (2 ^ x)) (dR (sg sgn f) (2 ^ x))) w.heap.size), .put (.inl 2) (.box 26 ((RN (nR (sg sgn f) (2 ^ x)) (dR (sg sgn f) (2 ^ x))) w.heap.size)), kT] [.inr 0] [.inl 7] follows S10 rfl (by kernel_rfl) ?_ ?_
  · repeat' refine And.intro ?_ ?_
    · trivial
    · exact lod 1 wA (loads_of strct_int shp_bs)
    · exact mS 1 6
    · exact b_sub_int wA (opnd_const _) (oO 1 48)
    · exact cc1 wA (qO 2 49 rfl) (fresh_nw _ _) (g_rtwo1 (x := x) (by omega))
    · exact owe_bint1 rfl wA rfl ((oO 3 50).imp nw_nv) rfl
    · exact cc2 wA (qO 0 47 rfl) (qO 4 51 rfl) (fresh_rn _ _) (fun w u v h1 h2 => g_rmake (D := 2 ^ x) (Nat.pos_iff_ne_zero.1 (Nat.two_pow_pos x)) (by omega) (by omega) w u v (sf_zv _ _ h1) h2)
    · exact owe_set rfl wA rfl (k := 0) rfl (by kernel_rfl) (oO 5 52) (stores_of strct_rat shp_r0 (shp_pr shp_zn shp_zn)) rfl
    · exact mC
  intro B11 a11 W11 (S11 : Sta w 53 [(2, (.box 26 ((RN (nR (sg sgn f) (2 ^ x)) (dR (sg sgn f) (2 ^ x))) w.heap.size)))] [(3, bT)] _ _ _)
  refine wp_ret ?_
  exact end_two S11 rfl (res_cell S11 0 2 rfl strct_rat (shp_pr shp_zn shp_zn)) (res_tmp S11 0 3 rfl)
set_option maxHeartbeats 2000000 in
theorem rexact_n (w : World) (b bm E f : Nat) (hb : b < 18446744073709551616) (e1 : b % 9223372036854775808 = bm) (e2 : bm / 4503599627370496 = E) (e3 : bm % 4503599627370496 = f) (sgn : Bool) (hsg : decide ((9223372036854775808 : Int) ≤ (b : Int)) = sgn) (hi : bm < 9218868437227405312) (hE : 0 < E) (x : Nat) (hx : x + E = 1075) (hx1 : 1 ≤ x) :
    Calls Tryz.prog 26 #[(.float .f64 b)] w (Gives (TWO (RN (nR (sg sgn (f + 4503599627370496)) (2 ^ x)) (dR (sg sgn (f + 4503599627370496)) (2 ^ x))) (IS (.bool true))) w) := by
  refine calls_sta (sl := [(0, (Is (.float .f64 b)))]) Tryz.func26 rfl Tryz.ntmps26 (by simp) (args_cons rfl (is_has _) args_nil) ?_
  intro a0 S0
  refine wp_stmt_seq [.new (.box 26 zR), kF] [.inl 0] [.inr 0] follows S0 rfl (by kernel_rfl) ?_ ?_
  · refine ⟨⟨trivial, ?_⟩, ?_⟩
    · exact owe_new rfl wA rfl rfl (fun ρ w => alloc_rat ρ _ w)
    · exact mC
  intro B1 a1 W1 (S1 : Sta w 53 [(2, (.box 26 zR))] [(0, Is (.float .f64 b))] _ _ _)
  refine wp_stmt_seq [.val (Is (.float .f64 b)), .val (Is (.int .u64 ((b : Nat) : Int))), .val (Is (.int .u64 ((b : Nat) : Int)))] [.inr 0] [.inl 2] follows S1 rfl (by kernel_rfl) ?_ ?_
  · refine ⟨⟨⟨trivial, ?_⟩, ?_⟩, ?_⟩
    · exact mS 0 0
    · exact cc1 wA (qO 0 8 rfl) (fresh_is _) (pur1 (rbits_p b))
    · exact mO 1 9
  intro B2 a2 W2 (S2 : Sta w 53 [(2, (.box 26 zR))] [(4, Is (.int .u64 ((b : Nat) : Int)))] _ _ _)
  refine wp_stmt_seq [.val (Is (.int .u64 ((b : Nat) : Int))), .val (Is (.int .u64 ((bm : Nat) : Int))), .val (Is (.int .u64 ((bm : Nat) : Int)))] [.inr 0] [.inl 2, .inr 0] follows S2 rfl (by kernel_rfl) ?_ ?_
  · refine ⟨⟨⟨trivial, ?_⟩, ?_⟩, ?_⟩
    · exact mS 0 4
    · exact owe_bin rfl wA rfl (oO 0 10) (opnd_const _) rfl (fun ρ w h1 h2 => by rw [← e1]; exact u_rem ρ _ _ _ w b 9223372036854775808 (by decide) h1 h2)
    · exact mO 1 11
  intro B3 a3 W3 (S3 : Sta w 53 [(2, (.box 26 zR))] [(5, Is (.int .u64 ((bm : Nat) : Int))), (4, Is (.int .u64 ((b : Nat) : Int)))] _ _ _)
  refine wp_seq ?_
  refine wp_stmt_seq [.val (Is (.int .u64 ((bm : Nat) : Int))), kF] [.inr 0] [.inl 1, .inr 0, .inr 1] follows S3 rfl (by kernel_rfl) ?_ ?_
  · refine ⟨⟨trivial, ?_⟩, ?_⟩
    · exact mS 0 5
    · exact owe_bin rfl wA rfl (oO 0 12) (opnd_const _) rfl (fun ρ w h1 h2 => by exact u_geq_f ρ _ _ _ w _ _ (by omega) h1 h2)
  intro B4 a4 W4 (S4 : Sta w 53 [(2, (.box 26 zR))] [(13, bF), (5, Is (.int .u64 ((bm : Nat) : Int))), (4, Is (.int .u64 ((b : Nat) : Int)))] _ _ _)
  refine wp_cond_false (S4.bool 0 13 rfl) ?_
  refine wp_skip ?_
  refine thenN ?_
  refine wp_stmt_seq [.val (Is (.int .u64 ((bm : Nat) : Int))), .val (Is (.int .u64 ((E : Nat) : Int))), .val (iV ((E : Nat) : Int)), .val (iV ((E : Nat) : Int))] [.inr 0] [.inl 3, .inr 1, .inr 2] follows S4 rfl (by kernel_rfl) ?_ ?_
  · refine ⟨⟨⟨⟨trivial, ?_⟩, ?_⟩, ?_⟩, ?_⟩
    · exact mS 1 5
    · exact owe_bin rfl wA rfl (oO 0 16) (opnd_const _) rfl (fun ρ w h1 h2 => by rw [← e2]; exact u_shr52 ρ _ _ _ w bm _ h1 h2)
    · exact owe_un (x := .tmp 17) rfl wA rfl (oO 1 17) rfl (fun ρ w h1 => by exact u_int ρ _ _ w E (by omega) h1)
    · exact mO 2 18
  intro B5 a5 W5 (S5 : Sta w 53 [(2, (.box 26 zR))] [(6, iV ((E : Nat) : Int)), (5, Is (.int .u64 ((bm : Nat) : Int))), (4, Is (.int .u64 ((b : Nat) : Int)))] _ _ _)
  refine wp_stmt_seq [.val (Is (.int .u64 ((bm : Nat) : Int))), .val (Is (.int .u64 ((f : Nat) : Int))), .val (Is (.int .u64 ((f : Nat) : Int)))] [.inr 0] [.inl 2, .inr 0, .inr 2] follows S5 rfl (by kernel_rfl) ?_ ?_
  · refine ⟨⟨⟨trivial, ?_⟩, ?_⟩, ?_⟩
    · exact mS 1 5
    · exact owe_bin rfl wA rfl (oO 0 19) (opnd_const _) rfl (fun ρ w h1 h2 => by rw [← e3]; exact u_rem ρ _ _ _ w bm 4503599627370496 (by decide) h1 h2)
    · exact mO 1 20
  intro B6 a6 W6 (S6 : Sta w 53 [(2, (.box 26 zR))] [(5, Is (.int .u64 ((f : Nat) : Int))), (6, iV ((E : Nat) : Int)), (4, Is (.int .u64 ((b : Nat) : Int)))] _ _ _)
  refine wp_seq ?_
  refine wp_stmt_seq [.val (iV ((E : Nat) : Int)), kF] [.inr 0] [.inl 1, .inr 0, .inr 1, .inr 2] follows S6 rfl (by kernel_rfl) ?_ ?_
  · refine ⟨⟨trivial, ?_⟩, ?_⟩
    · exact mS 1 6
    · exact b_eql_int_f wA (oO 0 21) (opnd_const _)
  intro B7 a7 W7 (S7 : Sta w 53 [(2, (.box 26 zR))] [(22, bF), (5, Is (.int .u64 ((f : Nat) : Int))), (6, iV ((E : Nat) : Int)), (4, Is (.int .u64 ((b : Nat) : Int)))] _ _ _)
  refine wp_cond_false (S7.bool 0 22 rfl) ?_
  refine wp_stmt [.val (Is (.int .u64 ((f : Nat) : Int))), .val (Is (.int .u64 ((f + 4503599627370496 : Nat) : Int))), .val (Is (.int .u64 ((f + 4503599627370496 : Nat) : Int)))] [.inr 0] [.inl 2, .inr 2, .inr 3] follows S7 rfl (by kernel_rfl) ?_ ?_
  · refine ⟨⟨⟨trivial, ?_⟩, ?_⟩, ?_⟩
    · exact mS 1 5
    · exact owe_bin rfl wA rfl (oO 0 23) (opnd_const _) rfl (fun ρ w h1 h2 => by exact u_add ρ _ _ _ w f 4503599627370496 (by omega) h1 h2)
    · exact mO 1 24
  intro B8 a8 W8 (S8 : Sta w 53 [(2, (.box 26 zR))] [(5, Is (.int .u64 ((f + 4503599627370496 : Nat) : Int))), (6, iV ((E : Nat) : Int)), (4, Is (.int .u64 ((b : Nat) : Int)))] _ _ _)
  refine thenN ?_
  refine wp_stmt_seq [.val (Is (.int .u64 ((b : Nat) : Int))), .val (Is (.bool sgn)), .val (Is (.int .u64 ((f + 4503599627370496 : Nat) : Int))), .val (Is (.int .u64 (((f + 4503599627370496) % 4294967296 : Nat) : Int))), .val (Is (.int .u32 (((f + 4503599627370496) % 4294967296 : Nat) : Int))), .val (Is (.int .u64 ((f + 4503599627370496 : Nat) : Int))), .val (Is (.int .u64 (((f + 4503599627370496) / 4294967296 : Nat) : Int))), .val (Is (.int .u32 (((f + 4503599627370496) / 4294967296 : Nat) : Int))), .val ((NW (f + 4503599627370496) 2) w.heap.size), .val (SF [(Is (.bool sgn)), ((NW (f + 4503599627370496) 2) w.heap.size)]), .new (.box 24 zI), .put (.inr 10) (.box 24 (SF [(Is (.bool sgn)), ((NW (f + 4503599627370496) 2) w.heap.size)]))] [.inr 0, .inl 10] [.inr 1] follows S8 rfl (by kernel_rfl) ?_ ?_
  · repeat' refine And.intro ?_ ?_
    · trivial
    · exact mS 2 4
    · exact owe_bin rfl wA rfl (oO 0 25) (opnd_const _) rfl (fun ρ w h1 h2 => by rw [← hsg]; exact u_geq ρ _ _ _ w _ _ h1 h2)
    · exact mS 0 5
    · exact owe_bin rfl wA rfl (oO 2 27) (opnd_const _) rfl (fun ρ w h1 h2 => by exact u_rem ρ _ _ _ w (f + 4503599627370496) 4294967296 (by decide) h1 h2)
    · exact owe_un (x := .tmp 28) rfl wA rfl (oO 3 28) rfl (fun ρ w h1 => by exact u_u32 ρ _ _ w _ (by omega) h1)
    · exact mS 0 5
    · exact owe_bin rfl wA rfl (oO 5 30) (opnd_const _) rfl (fun ρ w h1 h2 => by exact u_shr32 ρ _ _ _ w (f + 4503599627370496) _ h1 h2)
    · exact owe_un (x := .tmp 31) rfl wA rfl (oO 6 31) rfl (fun ρ w h1 => by exact u_u32 ρ _ _ w _ (by omega) h1)
    · exact owe_bs2 rfl wA rfl (oO 4 29) (oO 7 32) (by omega) (by omega) (by omega) rfl
    · exact owe_bintS rfl wA rfl (oO 1 26) (oO 8 33) nw_sl rfl
    · exact owe_new rfl wA rfl rfl (fun ρ w => alloc_int ρ _ w)
    · exact owe_put 10 rfl wA rfl (by kernel_rfl) rfl (oO 9 34) (stores_of strct_int shp_z0 shp_bs) rfl
  intro B9 a9 W9 (S9 : Sta w 53 [(2, (.box 26 zR)), (7, (.box 24 (SF [(Is (.bool sgn)), ((NW (f + 4503599627370496) 2) w.heap.size)])))] [(6, iV ((E : Nat) : Int))] _ _ _)
  refine wp_seq ?_
  refine wp_stmt_seq [.val (iV ((E : Nat) : Int)), kF] [.inr 0, .inr 1] [.inl 1, .inr 0] follows S9 rfl (by kernel_rfl) ?_ ?_
  · refine ⟨⟨trivial, ?_⟩, ?_⟩
    · exact mS 0 6
    · exact b_geq_int_f wA (oO 0 35) (opnd_const _)
  intro B10 a10 W10 (S10 : Sta w 53 [(2, (.box 26 zR)), (7, (.box 24 (SF [(Is (.bool sgn)), ((NW (f + 4503599627370496) 2) w.heap.size)])))] [(36, bF), (6, iV ((E : Nat) : Int))] _ _ _)
  refine wp_cond_false (S10.bool 0 36 rfl) ?_
  refine wp_skip ?_
  refine thenN ?_
  refine wp_stmt_seq [.val (SF [(Is (.bool sgn)), ((NW (f + 4503599627370496) 2) w.heap.size)]), .val (iV ((E : Nat) : Int)), .val (iV ((x : Nat) : Int)), .val ((NW (2 ^ x) (x / 32 + 1)) w.heap.size), .val (Zv (sg false (2 ^ x)) (x / 32 + 1)), .val ((RN (nR (sg sgn (f + 4503599627370496)) (2 ^ x)) (dR (sg sgn (f + 4503599627370496)) (2 ^ x))) w.heap.size), .put (.inl 2) (.box 26 ((RN (nR (sg sgn (f + 4503599627370496)) (2 ^ x)) (dR (sg sgn (f + 4503599627370496)) (2 ^ x))) w.heap.size)), kT] [.inr 0] [.inl 7] follows S10 rfl (by kernel_rfl) ?_ ?_
  · repeat' refine And.intro ?_ ?_
    · trivial
    · exact lod 1 wA (loads_of strct_int shp_bs)
    · exact mS 1 6
    · exact b_sub_int wA (opnd_const _) (oO 1 48)
    · exact cc1 wA (qO 2 49 rfl) (fresh_nw _ _) (g_rtwo1 (x := x) (by omega))
    · exact owe_bint1 rfl wA rfl ((oO 3 50).imp nw_nv) rfl
    · exact cc2 wA (qO 0 47 rfl) (qO 4 51 rfl) (fresh_rn _ _) (fun w u v h1 h2 => g_rmake (D := 2 ^ x) (Nat.pos_iff_ne_zero.1 (Nat.two_pow_pos x)) (by omega) (by omega) w u v (sf_zv _ _ h1) h2)
    · exact owe_set rfl wA rfl (k := 0) rfl (by kernel_rfl) (oO 5 52) (stores_of strct_rat shp_r0 (shp_pr shp_zn shp_zn)) rfl
    · exact mC
  intro B11 a11 W11 (S11 : Sta w 53 [(2, (.box 26 ((RN (nR (sg sgn (f + 4503599627370496)) (2 ^ x)) (dR (sg sgn (f + 4503599627370496)) (2 ^ x))) w.heap.size)))] [(3, bT)] _ _ _)
  refine wp_ret ?_
  exact end_two S11 rfl (res_cell S11 0 2 rfl strct_rat (shp_pr shp_zn shp_zn)) (res_tmp S11 0 3 rfl)
set_option maxHeartbeats 2000000 in
theorem rexact_g (w : World) (b bm E f : Nat) (hb : b < 18446744073709551616) (e1 : b % 9223372036854775808 = bm) (e2 : bm / 4503599627370496 = E) (e3 : bm % 4503599627370496 = f) (sgn : Bool) (hsg : decide ((9223372036854775808 : Int) ≤ (b : Int)) = sgn) (hi : bm < 9218868437227405312) (hE : 0 < E) (x : Nat) (hx : 1075 + x = E) (dm : (digs ((f + 4503599627370496) * 2 ^ x)).length ≤ 67108864) :
    Calls Tryz.prog 26 #[(.float .f64 b)] w (Gives (TWO (RN (sg sgn ((f + 4503599627370496) * 2 ^ x)) 1) (IS (.bool true))) w) := by
  refine calls_sta (sl := [(0, (Is (.float .f64 b)))]) Tryz.func26 rfl Tryz.ntmps26 (by simp) (args_cons rfl (is_has _) args_nil) ?_
  intro a0 S0
  refine wp_stmt_seq [.new (.box 26 zR), kF] [.inl 0] [.inr 0] follows S0 rfl (by kernel_rfl) ?_ ?_
  · refine ⟨⟨trivial, ?_⟩, ?_⟩
    · exact owe_new rfl wA rfl rfl (fun ρ w => alloc_rat ρ _ w)
    · exact mC
  intro B1 a1 W1 (S1 : Sta w 53 [(2, (.box 26 zR))] [(0, Is (.float .f64 b))] _ _ _)
  refine wp_stmt_seq [.val (Is (.float .f64 b)), .val (Is (.int .u64 ((b : Nat) : Int))), .val (Is (.int .u64 ((b : Nat) : Int)))] [.inr 0] [.inl 2] follows S1 rfl (by kernel_rfl) ?_ ?_
  · refine ⟨⟨⟨trivial, ?_⟩, ?_⟩, ?_⟩
    · exact mS 0 0
    · exact cc1 wA (qO 0 8 rfl) (fresh_is _) (pur1 (rbits_p b))
    · exact mO 1 9
  intro B2 a2 W2 (S2 : Sta w 53 [(2, (.box 26 zR))] [(4, Is (.int .u64 ((b : Nat) : Int)))] _ _ _)
  refine wp_stmt_seq [.val (Is (.int .u64 ((b : Nat) : Int))), .val (Is (.int .u64 ((bm : Nat) : Int))), .val (Is (.int .u64 ((bm : Nat) : Int)))] [.inr 0] [.inl 2, .inr 0] follows S2 rfl (by kernel_rfl) ?_ ?_
  · refine ⟨⟨⟨trivial, ?_⟩, ?_⟩, ?_⟩
    · exact mS 0 4
    · exact owe_bin rfl wA rfl (oO 0 10) (opnd_const _) rfl (fun ρ w h1 h2 => by rw [← e1]; exact u_rem ρ _ _ _ w b 9223372036854775808 (by decide) h1 h2)
    · exact mO 1 11
  intro B3 a3 W3 (S3 : Sta w 53 [(2, (.box 26 zR))] [(5, Is (.int .u64 ((bm : Nat) : Int))), (4, Is (.int .u64 ((b : Nat) : Int)))] _ _ _)
  refine wp_seq ?_
  refine wp_stmt_seq [.val (Is (.int .u64 ((bm : Nat) : Int))), kF] [.inr 0] [.inl 1, .inr 0, .inr 1] follows S3 rfl (by kernel_rfl) ?_ ?_
  · refine ⟨⟨trivial, ?_⟩, ?_⟩
    · exact mS 0 5
    · exact owe_bin rfl wA rfl (oO 0 12) (opnd_const _) rfl (fun ρ w h1 h2 => by exact u_geq_f ρ _ _ _ w _ _ (by omega) h1 h2)
  intro B4 a4 W4 (S4 : Sta w 53 [(2, (.box 26 zR))] [(13, bF), (5, Is (.int .u64 ((bm : Nat) : Int))), (4, Is (.int .u64 ((b : Nat) : Int)))] _ _ _)
  refine wp_cond_false (S4.bool 0 13 rfl) ?_
  refine wp_skip ?_
  refine thenN ?_
  refine wp_stmt_seq [.val (Is (.int .u64 ((bm : Nat) : Int))), .val (Is (.int .u64 ((E : Nat) : Int))), .val (iV ((E : Nat) : Int)), .val (iV ((E : Nat) : Int))] [.inr 0] [.inl 3, .inr 1, .inr 2] follows S4 rfl (by kernel_rfl) ?_ ?_
  · refine ⟨⟨⟨⟨trivial, ?_⟩, ?_⟩, ?_⟩, ?_⟩
    · exact mS 1 5
    · exact owe_bin rfl wA rfl (oO 0 16) (opnd_const _) rfl (fun ρ w h1 h2 => by rw [← e2]; exact u_shr52 ρ _ _ _ w bm _ h1 h2)
    · exact owe_un (x := .tmp 17) rfl wA rfl (oO 1 17) rfl (fun ρ w h1 => by exact u_int ρ _ _ w E (by omega) h1)
    · exact mO 2 18
  intro B5 a5 W5 (S5 : Sta w 53 [(2, (.box 26 zR))] [(6, iV ((E : Nat) : Int)), (5, Is (.int .u64 ((bm : Nat) : Int))), (4, Is (.int .u64 ((b : Nat) : Int)))] _ _ _)
  refine wp_stmt_seq [.val (Is (.int .u64 ((bm : Nat) : Int))), .val (Is (.int .u64 ((f : Nat) : Int))), .val (Is (.int .u64 ((f : Nat) : Int)))] [.inr 0] [.inl 2, .inr 0, .inr 2] follows S5 rfl (by kernel_rfl) ?_ ?_
  · refine ⟨⟨⟨trivial, ?_⟩, ?_⟩, ?_⟩
    · exact mS 1 5
    · exact owe_bin rfl wA rfl (oO 0 19) (opnd_const _) rfl (fun ρ w h1 h2 => by rw [← e3]; exact u_rem ρ _ _ _ w bm 4503599627370496 (by decide) h1 h2)
    · exact mO 1 20
  intro B6 a6 W6 (S6 : Sta w 53 [(2, (.box 26 zR))] [(5, Is (.int .u64 ((f : Nat) : Int))), (6, iV ((E : Nat) : Int)), (4, Is (.int .u64 ((b : Nat) : Int)))] _ _ _)
  refine wp_seq ?_
  refine wp_stmt_seq [.val (iV ((E : Nat) : Int)), kF] [.inr 0] [.inl 1, .inr 0, .inr 1, .inr 2] follows S6 rfl (by kernel_rfl) ?_ ?_
  · refine ⟨⟨trivial, ?_⟩, ?_⟩
    · exact mS 1 6
    · exact b_eql_int_f wA (oO 0 21) (opnd_const _)
  intro B7 a7 W7 (S7 : Sta w 53 [(2, (.box 26 zR))] [(22, bF), (5, Is (.int .u64 ((f : Nat) : Int))), (6, iV ((E : Nat) : Int)), (4, Is (.int .u64 ((b : Nat) : Int)))] _ _ _)
  refine wp_cond_false (S7.bool 0 22 rfl) ?_
  refine wp_stmt [.val (Is (.int .u64 ((f : Nat) : Int))), .val (Is (.int .u64 ((f + 4503599627370496 : Nat) : Int))), .val (Is (.int .u64 ((f + 4503599627370496 : Nat) : Int)))] [.inr 0] [.inl 2, .inr 2, .inr 3] follows S7 rfl (by kernel_rfl) ?_ ?_
  · refine ⟨⟨⟨trivial, ?_⟩, ?_⟩, ?_⟩
    · exact mS 1 5
    · exact owe_bin rfl wA rfl (oO 0 23) (opnd_const _) rfl (fun ρ w h1 h2 => by exact u_add ρ _ _ _ w f 4503599627370496 (by omega) h1 h2)
    · exact mO 1 24
  intro B8 a8 W8 (S8 : Sta w 53 [(2, (.box 26 zR))] [(5, Is (.int .u64 ((f + 4503599627370496 : Nat) : Int))), (6, iV ((E : Nat) : Int)), (4, Is (.int .u64 ((b : Nat) : Int)))] _ _ _)
  refine thenN ?_
  refine wp_stmt_seq [.val (Is (.int .u64 ((b : Nat) : Int))), .val (Is (.bool sgn)), .val (Is (.int .u64 ((f + 4503599627370496 : Nat) : Int))), .val (Is (.int .u64 (((f + 4503599627370496) % 4294967296 : Nat) : Int))), .val (Is (.int .u32 (((f + 4503599627370496) % 4294967296 : Nat) : Int))), .val (Is (.int .u64 ((f + 4503599627370496 : Nat) : Int))), .val (Is (.int .u64 (((f + 4503599627370496) / 4294967296 : Nat) : Int))), .val (Is (.int .u32 (((f + 4503599627370496) / 4294967296 : Nat) : Int))), .val ((NW (f + 4503599627370496) 2) w.heap.size), .val (SF [(Is (.bool sgn)), ((NW (f + 4503599627370496) 2) w.heap.size)]), .new (.box 24 zI), .put (.inr 10) (.box 24 (SF [(Is (.bool sgn)), ((NW (f + 4503599627370496) 2) w.heap.size)]))] [.inr 0, .inl 10] [.inr 1] follows S8 rfl (by kernel_rfl) ?_ ?_
  · repeat' refine And.intro ?_ ?_
    · trivial
    · exact mS 2 4
    · exact owe_bin rfl wA rfl (oO 0 25) (opnd_const _) rfl (fun ρ w h1 h2 => by rw [← hsg]; exact u_geq ρ _ _ _ w _ _ h1 h2)
    · exact mS 0 5
    · exact owe_bin rfl wA rfl (oO 2 27) (opnd_const _) rfl (fun ρ w h1 h2 => by exact u_rem ρ _ _ _ w (f + 4503599627370496) 4294967296 (by decide) h1 h2)
    · exact owe_un (x := .tmp 28) rfl wA rfl (oO 3 28) rfl (fun ρ w h1 => by exact u_u32 ρ _ _ w _ (by omega) h1)
    · exact mS 0 5
    · exact owe_bin rfl wA rfl (oO 5 30) (opnd_const _) rfl (fun ρ w h1 h2 => by exact u_shr32 ρ _ _ _ w (f + 4503599627370496) _ h1 h2)
    · exact owe_un (x := .tmp 31) rfl wA rfl (oO 6 31) rfl (fun ρ w h1 => by exact u_u32 ρ _ _ w _ (by omega) h1)
    · exact owe_bs2 rfl wA rfl (oO 4 29) (oO 7 32) (by omega) (by omega) (by omega) rfl
    · exact owe_bintS rfl wA rfl (oO 1 26) (oO 8 33) nw_sl rfl
    · exact owe_new rfl wA rfl rfl (fun ρ w => alloc_int ρ _ w)
    · exact owe_put 10 rfl wA rfl (by kernel_rfl) rfl (oO 9 34) (stores_of strct_int shp_z0 shp_bs) rfl
  intro B9 a9 W9 (S9 : Sta w 53 [(2, (.box 26 zR)), (7, (.box 24 (SF [(Is (.bool sgn)), ((NW (f + 4503599627370496) 2) w.heap.size)])))] [(6, iV ((E : Nat) : Int))] _ _ _)
  refine wp_seq ?_
  refine wp_stmt_seq [.val (iV ((E : Nat) : Int)), kT] [.inr 0, .inr 1] [.inl 1, .inr 0] follows S9 rfl (by kernel_rfl) ?_ ?_
  · refine ⟨⟨trivial, ?_⟩, ?_⟩
    · exact mS 0 6
    · exact b_geq_int_t wA (oO 0 35) (opnd_const _)
  intro B10 a10 W10 (S10 : Sta w 53 [(2, (.box 26 zR)), (7, (.box 24 (SF [(Is (.bool sgn)), ((NW (f + 4503599627370496) 2) w.heap.size)])))] [(36, bT), (6, iV ((E : Nat) : Int))] _ _ _)
  refine wp_cond_true (S10.bool 0 36 rfl) ?_
  refine wp_stmt_seq [.val (Part a10 7 0), .val (Is (.bool sgn)), .val (Part a10 7 1), .val ((NW (f + 4503599627370496) 2) w.heap.size), .val (iV ((E : Nat) : Int)), .val (iV ((x : Nat) : Int)), .val ((NW (2 ^ x) (x / 32 + 1)) w.heap.size), .val ((NN ((f + 4503599627370496) * 2 ^ x)) w.heap.size), .val (Zv (sg sgn ((f + 4503599627370496) * 2 ^ x)) 67108864), .val ((RN (sg sgn ((f + 4503599627370496) * 2 ^ x)) 1) w.heap.size), .put (.inl 2) (.box 26 ((RN (sg sgn ((f + 4503599627370496) * 2 ^ x)) 1) w.heap.size)), kT] [.inr 0] [.inl 11] follows S10 rfl (by kernel_rfl) ?_ ?_
  · repeat' refine And.intro ?_ ?_
    · trivial
    · exact owe_part rfl wA rfl (k := 1) rfl (by kernel_rfl) rfl (fun ρ w b h => part_int0 ρ _ _ w b 0 h)
    · exact owe_pload rfl wA rfl (oO 0 37) (k := 1) rfl (by kernel_rfl) rfl (fun ρ w b u h1 h2 h3 => ploadI rfl load1_bool ρ _ _ w b u h1 h2 h3)
    · exact owe_part rfl wA rfl (k := 1) rfl (by kernel_rfl) rfl (fun ρ w b h => part_int1 ρ _ _ w b 0 h)
    · exact owe_pload rfl wA rfl (oO 2 39) (k := 1) rfl (by kernel_rfl) rfl (fun ρ w b u h1 h2 h3 => ploadI rfl load1_sl ρ _ _ w b u h1 h2 h3)
    · exact mS 1 6
    · exact b_sub_int wA (oO 4 41) (opnd_const _)
    · exact cc1 wA (qO 5 42 rfl) (fresh_nw _ _) (g_rtwo1 (x := x) (by omega))
    · exact cc2 wA (qO 3 40 rfl) (qO 6 43 rfl) (fresh_nn _) (fun w u v h1 h2 => g_rmulI (by omega) w u v (nw_nv _ _ h1) (nw_nv _ _ h2))
    · exact owe_bint2 rfl wA rfl (oO 1 38) ((oO 7 44).imp (nn_nv dm)) rfl
    · exact cc1 wA (qO 8 45 rfl) (fresh_rn _ _) (fun w u h1 => g_rofr (by omega) w u ((fun _ _ h => h) _ _ h1))
    · exact owe_set rfl wA rfl (k := 0) rfl (by kernel_rfl) (oO 9 46) (stores_of strct_rat shp_r0 (shp_pr shp_zn shp_zn)) rfl
    · exact mC
  intro B11 a11 W11 (S11 : Sta w 53 [(2, (.box 26 ((RN (sg sgn ((f + 4503599627370496) * 2 ^ x)) 1) w.heap.size)))] [(3, bT)] _ _ _)
  refine wp_ret ?_
  refine thenR ?_
  exact end_two S11 rfl (res_cell S11 0 2 rfl strct_rat (shp_pr shp_zn shp_zn)) (res_tmp S11 0 3 rfl)
end Go.Proofs.YtgalppimdmjdcabGreatDoor
