import Derived.Test.YtgalppimdmjdcabGreatDoorFlC
import Derived.Test.YtgalppimdmjdcabGreatDoorFlB
import Derived.Test.YtgalppimdmjdcabGreatDoorZUp
import Derived.Test.YtgalppimdmjdcabGreatDoorSetS
/-
  ival.Exact.
-/
namespace Go.Proofs.YtgalppimdmjdcabGreatDoor
open Go Go.RowKit Nt
set_option linter.unusedSimpArgs false
set_option linter.unusedVariables false
set_option maxRecDepth 20000

theorem isinf_no {b : Nat} (hb : b < 18446744073709551616) {p : Int} (hp : plc b = some p) (hq : ¬ (p = 9218868437227405312 ∨ p = -9218868437227405312)) : Pur 14 #[.float .f64 b, .int .i64 0] (.bool false) := by
  have := isinf_a b hb p hp
  rwa [decide_eq_false hq] at this
theorem isinf_yes {b : Nat} (hb : b < 18446744073709551616) {p : Int} (hp : plc b = some p) (hq : p = 9218868437227405312 ∨ p = -9218868437227405312) : Pur 14 #[.float .f64 b, .int .i64 0] (.bool true) := by
  have := isinf_a b hb p hp
  rwa [decide_eq_true hq] at this
theorem zero_dlE : (digs (0 : Int).natAbs).length ≤ 1 := digs_length_le (by decide)
theorem one_dlE : (digs (1 : Int).natAbs).length ≤ 1 := digs_length_le (by decide)
set_option maxHeartbeats 2000000 in
theorem exact_lt (w : World) (b y z : Nat) (hb : b < 18446744073709551616) (p : Int) (hp : plc b = some p) (hq : ¬ (p = 9218868437227405312 ∨ p = -9218868437227405312)) (n K : Int) (hF : Pur 17 #[.float .f64 b] (.tuple #[.float .f64 y, .int .i64 n])) (hL : Pur 18 #[.float .f64 y, .int .i64 53] (.float .f64 z)) (hz : floatToIntVal .f64 z .i64 = some K) (hK : -9007199254740992 ≤ K) (hK2 : K ≤ 9007199254740992) (dK : (digs K.natAbs).length ≤ 2) (hn1 : -1100 ≤ n) (hn3 : n ≤ 1100) (D : Nat) (hD0 : D ≠ 0) (hn2 : n < 53) (hD : (1 : Int) * 2 ^ (53 - n).toNat = ((D : Nat) : Int)) (dD : (digs ((D : Nat) : Int).natAbs).length ≤ 67108864) :
    Calls Tryz.prog 6 #[(.float .f64 b)] w (Gives (TWO (RN (nR K D) (dR K D)) (IS (.bool true))) w) := by
  refine calls_sta (sl := [(0, (Is (.float .f64 b)))]) Tryz.func6 rfl Tryz.ntmps6 (by simp) (args_cons rfl (is_has _) args_nil) ?_
  intro a0 S0
  refine wp_stmt_seq [.new (.box 26 zR), kF] [.inl 0] [.inr 0] follows S0 rfl (by kernel_rfl) ?_ ?_
  · refine ⟨⟨trivial, ?_⟩, ?_⟩
    · exact owe_new rfl wA rfl rfl (fun ρ w => alloc_rat ρ _ w)
    · exact mC
  intro B1 a1 W1 (S1 : Sta w 51 [(2, (.box 26 zR))] [(0, Is (.float .f64 b))] _ _ _)
  refine wp_seq ?_
  refine wp_stmt_seq [.val (Is (.float .f64 b)), kF, kF, .val (Is (.float .f64 b)), kF, kF] [.inr 0] [.inl 5, .inr 0] follows S1 rfl (by kernel_rfl) ?_ ?_
  · refine ⟨⟨⟨⟨⟨⟨trivial, ?_⟩, ?_⟩, ?_⟩, ?_⟩, ?_⟩, ?_⟩
    · exact mS 0 0
    · exact cc1 wA (qO 0 10 rfl) (fresh_is _) (pur1 (isnan_f hp))
    · exact mO 1 11
    · exact mW (wI 2 12) (oS 0 0)
    · exact cc2 (wI 2 12) (qO 3 13 rfl) (opnd_const _) (fresh_is _) (pur2 (isinf_no hb hp hq))
    · exact pF wA (oO 2 12) (oO 4 14)
  intro B2 a2 W2 (S2 : Sta w 51 [(2, (.box 26 zR))] [(15, bF), (0, Is (.float .f64 b))] _ _ _)
  refine wp_cond_false (S2.bool 0 15 rfl) ?_
  refine wp_skip ?_
  refine thenN ?_
  refine wp_stmt_seq [.val (Is (.float .f64 b)), .val ((TWO (IS (.float .f64 y)) (IS (.int .i64 n))) w.heap.size), .val ((TWO (IS (.float .f64 y)) (IS (.int .i64 n))) w.heap.size), .val (Is (.float .f64 y)), .val (iV n), .val (Is (.float .f64 y)), .val (iV n)] [.inr 0] [.inl 5, .inl 6] follows S2 rfl (by kernel_rfl) ?_ ?_
  · repeat' refine And.intro ?_ ?_
    · trivial
    · exact mS 1 0
    · exact cc1 wA (qO 0 19 rfl) (fresh_two (fresh_is _) (fresh_is _)) (pur1t hF)
    · exact mO 1 20
    · exact e20 wA (oO 2 18)
    · exact e21 wA (oO 2 18)
    · exact mO 3 21
    · exact mO 4 22
  intro B3 a3 W3 (S3 : Sta w 51 [(2, (.box 26 zR))] [(4, Is (.float .f64 y)), (5, iV n)] _ _ _)
  refine wp_stmt_seq [.val (Is (.float .f64 y)), .val (Is (.float .f64 z)), .val (iV K), .val ((ZN (K)) w.heap.size), .new (.box 24 zI), .put (.inr 4) (.box 24 ((ZN (K)) w.heap.size))] [.inr 0, .inl 4] [.inr 1] follows S3 rfl (by kernel_rfl) ?_ ?_
  · refine ⟨⟨⟨⟨⟨⟨trivial, ?_⟩, ?_⟩, ?_⟩, ?_⟩, ?_⟩, ?_⟩
    · exact mS 0 4
    · exact cc2 wA (qO 0 23 rfl) (opnd_const _) (fresh_is _) (pur2 hL)
    · exact owe_un (x := .tmp 24) rfl wA rfl (oO 1 24) rfl (fun ρ w h1 => by exact run_cvtF ρ _ _ w _ _ hz h1)
    · exact cc1 wA (qO 2 25 rfl) (fresh_zn _) (g_zof K (by omega) (by omega))
    · exact owe_new rfl wA rfl rfl (fun ρ w => alloc_int ρ _ w)
    · exact owe_put 4 rfl wA rfl (by kernel_rfl) rfl (oO 3 26) (stores_of strct_int shp_z0 shp_zn) rfl
  intro B4 a4 W4 (S4 : Sta w 51 [(2, (.box 26 zR)), (6, (.box 24 ((ZN (K)) w.heap.size)))] [(5, iV n)] _ _ _)
  refine wp_stmt_seq [.val ((ZN (1)) w.heap.size), .new (.box 24 zI), .put (.inr 1) (.box 24 ((ZN (1)) w.heap.size))] [.inr 0, .inr 1, .inl 1] [.inr 0] follows S4 rfl (by kernel_rfl) ?_ ?_
  · refine ⟨⟨⟨trivial, ?_⟩, ?_⟩, ?_⟩
    · exact cc1 wA (opnd_const _) (fresh_zn _) (g_zof 1 (by omega) (by omega))
    · exact owe_new rfl wA rfl rfl (fun ρ w => alloc_int ρ _ w)
    · exact owe_put 1 rfl wA rfl (by kernel_rfl) rfl (oO 0 27) (stores_of strct_int shp_z0 shp_zn) rfl
  intro B5 a5 W5 (S5 : Sta w 51 [(2, (.box 26 zR)), (6, (.box 24 ((ZN (K)) w.heap.size))), (7, (.box 24 ((ZN (1)) w.heap.size)))] [(5, iV n)] _ _ _)
  refine wp_seq ?_
  refine wp_stmt_seq [.val (iV n), kT] [.inr 0, .inr 1, .inr 2] [.inl 1, .inr 0] follows S5 rfl (by kernel_rfl) ?_ ?_
  · refine ⟨⟨trivial, ?_⟩, ?_⟩
    · exact mS 0 5
    · exact b_lss_int_t wA (oO 0 28) (opnd_const _) (h := hn2)
  intro B6 a6 W6 (S6 : Sta w 51 [(2, (.box 26 zR)), (6, (.box 24 ((ZN (K)) w.heap.size))), (7, (.box 24 ((ZN (1)) w.heap.size)))] [(29, bT), (5, iV n)] _ _ _)
  refine wp_cond_true (S6.bool 0 29 rfl) ?_
  refine wp_stmt [.val ((ZN (1)) w.heap.size), .val (iV n), .val (iV (53 - n)), .val ((TWO (ZN (((D : Nat) : Int))) (IS (.int .i64 0))) w.heap.size), .val ((TWO (ZN (((D : Nat) : Int))) (IS (.int .i64 0))) w.heap.size), .val ((ZN (((D : Nat) : Int))) w.heap.size), .val (iV 0), .put (.inl 7) (.box 24 ((ZN (((D : Nat) : Int))) w.heap.size))] [.inr 0, .inr 1, .inr 2] [] follows S6 rfl (by kernel_rfl) ?_ ?_
  · repeat' refine And.intro ?_ ?_
    · trivial
    · exact lod 2 wA (loads_of strct_int shp_zn)
    · exact mS 1 5
    · exact b_sub_int wA (opnd_const _) (oO 1 32) (h := ⟨rfl, by omega, by omega⟩)
    · exact cc2 wA (qO 0 31 rfl) (qO 2 33 rfl) (fresh_two (fresh_zn _) (fresh_is _)) (fun w u0 u1 h0 h1 => Gives.cast ((fun w u v h1 h2 => g_zshift0 (by omega) (by omega) (by omega) w u v ((zn_zv one_dlE) _ _ h1) h2) w u0 u1 h0 h1) (by rw [hD]))
    · exact mO 3 34
    · exact e20 wA (oO 4 30)
    · exact e21 wA (oO 4 30)
    · exact owe_set rfl wA rfl (k := 2) rfl (by kernel_rfl) (oO 5 35) (stores_of strct_int shp_zn shp_zn) rfl
  intro B7 a7 W7 (S7 : Sta w 51 [(2, (.box 26 zR)), (6, (.box 24 ((ZN (K)) w.heap.size))), (7, (.box 24 ((ZN (((D : Nat) : Int))) w.heap.size)))] [] _ _ _)
  refine thenN ?_
  refine wp_stmt_seq [.val ((ZN (K)) w.heap.size), .val ((ZN (((D : Nat) : Int))) w.heap.size), .val ((TWO (RN (nR K D) (dR K D)) (IS (.int .i64 0))) w.heap.size), .val ((TWO (RN (nR K D) (dR K D)) (IS (.int .i64 0))) w.heap.size), .val ((RN (nR K D) (dR K D)) w.heap.size), .val (iV 0), .new (.box 26 zR), .put (.inr 6) (.box 26 ((RN (nR K D) (dR K D)) w.heap.size)), .val (iV 0)] [.inr 0, .inl 6] [] follows S7 rfl (by kernel_rfl) ?_ ?_
  · repeat' refine And.intro ?_ ?_
    · trivial
    · exact lod 1 wA (loads_of strct_int shp_zn)
    · exact lod 2 wA (loads_of strct_int shp_zn)
    · exact cc2 wA (qO 0 45 rfl) (qO 1 46 rfl) (fresh_two (fresh_rn _ _) (fresh_is _)) (fun w u v h1 h2 => g_ratmake hD0 (by omega) (by omega) w u v ((zn_zv dK) _ _ h1) ((zn_zv dD) _ _ h2))
    · exact mO 2 47
    · exact e20 wA (oO 3 44)
    · exact e21 wA (oO 3 44)
    · exact owe_new rfl wA rfl rfl (fun ρ w => alloc_rat ρ _ w)
    · exact owe_put 6 rfl wA rfl (by kernel_rfl) rfl (oO 4 48) (stores_of strct_rat shp_r0 (shp_pr shp_zn shp_zn)) rfl
    · exact mO 5 49
  intro B8 a8 W8 (S8 : Sta w 51 [(2, (.box 26 zR)), (8, (.box 26 ((RN (nR K D) (dR K D)) w.heap.size)))] [] _ _ _)
  refine wp_stmt_seq [.val ((RN (nR K D) (dR K D)) w.heap.size), .put (.inl 2) (.box 26 ((RN (nR K D) (dR K D)) w.heap.size)), kT] [.inr 0] [.inl 2] follows S8 rfl (by kernel_rfl) ?_ ?_
  · refine ⟨⟨⟨trivial, ?_⟩, ?_⟩, ?_⟩
    · exact lod 1 wA (loads_of strct_rat (shp_pr shp_zn shp_zn))
    · exact owe_set rfl wA rfl (k := 0) rfl (by kernel_rfl) (oO 0 50) (stores_of strct_rat shp_r0 (shp_pr shp_zn shp_zn)) rfl
    · exact mC
  intro B9 a9 W9 (S9 : Sta w 51 [(2, (.box 26 ((RN (nR K D) (dR K D)) w.heap.size)))] [(3, bT)] _ _ _)
  refine wp_ret ?_
  exact end_two S9 rfl (res_cell S9 0 2 rfl strct_rat (shp_pr shp_zn shp_zn)) (res_tmp S9 0 3 rfl)
set_option maxHeartbeats 2000000 in
theorem exact_ge (w : World) (b y z : Nat) (hb : b < 18446744073709551616) (p : Int) (hp : plc b = some p) (hq : ¬ (p = 9218868437227405312 ∨ p = -9218868437227405312)) (n K : Int) (hF : Pur 17 #[.float .f64 b] (.tuple #[.float .f64 y, .int .i64 n])) (hL : Pur 18 #[.float .f64 y, .int .i64 53] (.float .f64 z)) (hz : floatToIntVal .f64 z .i64 = some K) (hK : -9007199254740992 ≤ K) (hK2 : K ≤ 9007199254740992) (dK : (digs K.natAbs).length ≤ 2) (hn1 : -1100 ≤ n) (hn3 : n ≤ 1100) (hn2 : 53 ≤ n) (dD : (digs (K * 2 ^ (n - 53).toNat).natAbs).length ≤ 67108864) :
    Calls Tryz.prog 6 #[(.float .f64 b)] w (Gives (TWO (RN (nR (K * 2 ^ (n - 53).toNat) 1) (dR (K * 2 ^ (n - 53).toNat) 1)) (IS (.bool true))) w) := by
  refine calls_sta (sl := [(0, (Is (.float .f64 b)))]) Tryz.func6 rfl Tryz.ntmps6 (by simp) (args_cons rfl (is_has _) args_nil) ?_
  intro a0 S0
  refine wp_stmt_seq [.new (.box 26 zR), kF] [.inl 0] [.inr 0] follows S0 rfl (by kernel_rfl) ?_ ?_
  · refine ⟨⟨trivial, ?_⟩, ?_⟩
    · exact owe_new rfl wA rfl rfl (fun ρ w => alloc_rat ρ _ w)
    · exact mC
  intro B1 a1 W1 (S1 : Sta w 51 [(2, (.box 26 zR))] [(0, Is (.float .f64 b))] _ _ _)
  refine wp_seq ?_
  refine wp_stmt_seq [.val (Is (.float .f64 b)), kF, kF, .val (Is (.float .f64 b)), kF, kF] [.inr 0] [.inl 5, .inr 0] follows S1 rfl (by kernel_rfl) ?_ ?_
  · refine ⟨⟨⟨⟨⟨⟨trivial, ?_⟩, ?_⟩, ?_⟩, ?_⟩, ?_⟩, ?_⟩
    · exact mS 0 0
    · exact cc1 wA (qO 0 10 rfl) (fresh_is _) (pur1 (isnan_f hp))
    · exact mO 1 11
    · exact mW (wI 2 12) (oS 0 0)
    · exact cc2 (wI 2 12) (qO 3 13 rfl) (opnd_const _) (fresh_is _) (pur2 (isinf_no hb hp hq))
    · exact pF wA (oO 2 12) (oO 4 14)
  intro B2 a2 W2 (S2 : Sta w 51 [(2, (.box 26 zR))] [(15, bF), (0, Is (.float .f64 b))] _ _ _)
  refine wp_cond_false (S2.bool 0 15 rfl) ?_
  refine wp_skip ?_
  refine thenN ?_
  refine wp_stmt_seq [.val (Is (.float .f64 b)), .val ((TWO (IS (.float .f64 y)) (IS (.int .i64 n))) w.heap.size), .val ((TWO (IS (.float .f64 y)) (IS (.int .i64 n))) w.heap.size), .val (Is (.float .f64 y)), .val (iV n), .val (Is (.float .f64 y)), .val (iV n)] [.inr 0] [.inl 5, .inl 6] follows S2 rfl (by kernel_rfl) ?_ ?_
  · repeat' refine And.intro ?_ ?_
    · trivial
    · exact mS 1 0
    · exact cc1 wA (qO 0 19 rfl) (fresh_two (fresh_is _) (fresh_is _)) (pur1t hF)
    · exact mO 1 20
    · exact e20 wA (oO 2 18)
    · exact e21 wA (oO 2 18)
    · exact mO 3 21
    · exact mO 4 22
  intro B3 a3 W3 (S3 : Sta w 51 [(2, (.box 26 zR))] [(4, Is (.float .f64 y)), (5, iV n)] _ _ _)
  refine wp_stmt_seq [.val (Is (.float .f64 y)), .val (Is (.float .f64 z)), .val (iV K), .val ((ZN (K)) w.heap.size), .new (.box 24 zI), .put (.inr 4) (.box 24 ((ZN (K)) w.heap.size))] [.inr 0, .inl 4] [.inr 1] follows S3 rfl (by kernel_rfl) ?_ ?_
  · refine ⟨⟨⟨⟨⟨⟨trivial, ?_⟩, ?_⟩, ?_⟩, ?_⟩, ?_⟩, ?_⟩
    · exact mS 0 4
    · exact cc2 wA (qO 0 23 rfl) (opnd_const _) (fresh_is _) (pur2 hL)
    · exact owe_un (x := .tmp 24) rfl wA rfl (oO 1 24) rfl (fun ρ w h1 => by exact run_cvtF ρ _ _ w _ _ hz h1)
    · exact cc1 wA (qO 2 25 rfl) (fresh_zn _) (g_zof K (by omega) (by omega))
    · exact owe_new rfl wA rfl rfl (fun ρ w => alloc_int ρ _ w)
    · exact owe_put 4 rfl wA rfl (by kernel_rfl) rfl (oO 3 26) (stores_of strct_int shp_z0 shp_zn) rfl
  intro B4 a4 W4 (S4 : Sta w 51 [(2, (.box 26 zR)), (6, (.box 24 ((ZN (K)) w.heap.size)))] [(5, iV n)] _ _ _)
  refine wp_stmt_seq [.val ((ZN (1)) w.heap.size), .new (.box 24 zI), .put (.inr 1) (.box 24 ((ZN (1)) w.heap.size))] [.inr 0, .inr 1, .inl 1] [.inr 0] follows S4 rfl (by kernel_rfl) ?_ ?_
  · refine ⟨⟨⟨trivial, ?_⟩, ?_⟩, ?_⟩
    · exact cc1 wA (opnd_const _) (fresh_zn _) (g_zof 1 (by omega) (by omega))
    · exact owe_new rfl wA rfl rfl (fun ρ w => alloc_int ρ _ w)
    · exact owe_put 1 rfl wA rfl (by kernel_rfl) rfl (oO 0 27) (stores_of strct_int shp_z0 shp_zn) rfl
  intro B5 a5 W5 (S5 : Sta w 51 [(2, (.box 26 zR)), (6, (.box 24 ((ZN (K)) w.heap.size))), (7, (.box 24 ((ZN (1)) w.heap.size)))] [(5, iV n)] _ _ _)
  refine wp_seq ?_
  refine wp_stmt_seq [.val (iV n), kF] [.inr 0, .inr 1, .inr 2] [.inl 1, .inr 0] follows S5 rfl (by kernel_rfl) ?_ ?_
  · refine ⟨⟨trivial, ?_⟩, ?_⟩
    · exact mS 0 5
    · exact b_lss_int_f wA (oO 0 28) (opnd_const _) (h := hn2)
  intro B6 a6 W6 (S6 : Sta w 51 [(2, (.box 26 zR)), (6, (.box 24 ((ZN (K)) w.heap.size))), (7, (.box 24 ((ZN (1)) w.heap.size)))] [(29, bF), (5, iV n)] _ _ _)
  refine wp_cond_false (S6.bool 0 29 rfl) ?_
  refine wp_stmt [.val ((ZN (K)) w.heap.size), .val (iV n), .val (iV (n - 53)), .val ((TWO (ZN (K * 2 ^ (n - 53).toNat)) (IS (.int .i64 0))) w.heap.size), .val ((TWO (ZN (K * 2 ^ (n - 53).toNat)) (IS (.int .i64 0))) w.heap.size), .val ((ZN (K * 2 ^ (n - 53).toNat)) w.heap.size), .val (iV 0), .put (.inl 6) (.box 24 ((ZN (K * 2 ^ (n - 53).toNat)) w.heap.size))] [.inr 0, .inr 1, .inr 2] [] follows S6 rfl (by kernel_rfl) ?_ ?_
  · repeat' refine And.intro ?_ ?_
    · trivial
    · exact lod 1 wA (loads_of strct_int shp_zn)
    · exact mS 1 5
    · exact b_sub_int wA (oO 1 39) (opnd_const _) (h := ⟨rfl, by omega, by omega⟩)
    · exact cc2 wA (qO 0 38 rfl) (qO 2 40 rfl) (fresh_two (fresh_zn _) (fresh_is _)) (fun w u v h1 h2 => g_zshift0 (by omega) (by omega) (by omega) w u v ((zn_zv dK) _ _ h1) h2)
    · exact mO 3 41
    · exact e20 wA (oO 4 37)
    · exact e21 wA (oO 4 37)
    · exact owe_set rfl wA rfl (k := 1) rfl (by kernel_rfl) (oO 5 42) (stores_of strct_int shp_zn shp_zn) rfl
  intro B7 a7 W7 (S7 : Sta w 51 [(2, (.box 26 zR)), (6, (.box 24 ((ZN (K * 2 ^ (n - 53).toNat)) w.heap.size))), (7, (.box 24 ((ZN (1)) w.heap.size)))] [] _ _ _)
  refine thenN ?_
  refine wp_stmt_seq [.val ((ZN (K * 2 ^ (n - 53).toNat)) w.heap.size), .val ((ZN (1)) w.heap.size), .val ((TWO (RN (nR (K * 2 ^ (n - 53).toNat) 1) (dR (K * 2 ^ (n - 53).toNat) 1)) (IS (.int .i64 0))) w.heap.size), .val ((TWO (RN (nR (K * 2 ^ (n - 53).toNat) 1) (dR (K * 2 ^ (n - 53).toNat) 1)) (IS (.int .i64 0))) w.heap.size), .val ((RN (nR (K * 2 ^ (n - 53).toNat) 1) (dR (K * 2 ^ (n - 53).toNat) 1)) w.heap.size), .val (iV 0), .new (.box 26 zR), .put (.inr 6) (.box 26 ((RN (nR (K * 2 ^ (n - 53).toNat) 1) (dR (K * 2 ^ (n - 53).toNat) 1)) w.heap.size)), .val (iV 0)] [.inr 0, .inl 6] [] follows S7 rfl (by kernel_rfl) ?_ ?_
  · repeat' refine And.intro ?_ ?_
    · trivial
    · exact lod 1 wA (loads_of strct_int shp_zn)
    · exact lod 2 wA (loads_of strct_int shp_zn)
    · exact cc2 wA (qO 0 45 rfl) (qO 1 46 rfl) (fresh_two (fresh_rn _ _) (fresh_is _)) (fun w u v h1 h2 => g_ratmake (D := 1) (by decide) (by omega) (by omega) w u v ((zn_zv dD) _ _ h1) ((zn_zv one_dlE) _ _ h2))
    · exact mO 2 47
    · exact e20 wA (oO 3 44)
    · exact e21 wA (oO 3 44)
    · exact owe_new rfl wA rfl rfl (fun ρ w => alloc_rat ρ _ w)
    · exact owe_put 6 rfl wA rfl (by kernel_rfl) rfl (oO 4 48) (stores_of strct_rat shp_r0 (shp_pr shp_zn shp_zn)) rfl
    · exact mO 5 49
  intro B8 a8 W8 (S8 : Sta w 51 [(2, (.box 26 zR)), (8, (.box 26 ((RN (nR (K * 2 ^ (n - 53).toNat) 1) (dR (K * 2 ^ (n - 53).toNat) 1)) w.heap.size)))] [] _ _ _)
  refine wp_stmt_seq [.val ((RN (nR (K * 2 ^ (n - 53).toNat) 1) (dR (K * 2 ^ (n - 53).toNat) 1)) w.heap.size), .put (.inl 2) (.box 26 ((RN (nR (K * 2 ^ (n - 53).toNat) 1) (dR (K * 2 ^ (n - 53).toNat) 1)) w.heap.size)), kT] [.inr 0] [.inl 2] follows S8 rfl (by kernel_rfl) ?_ ?_
  · refine ⟨⟨⟨trivial, ?_⟩, ?_⟩, ?_⟩
    · exact lod 1 wA (loads_of strct_rat (shp_pr shp_zn shp_zn))
    · exact owe_set rfl wA rfl (k := 0) rfl (by kernel_rfl) (oO 0 50) (stores_of strct_rat shp_r0 (shp_pr shp_zn shp_zn)) rfl
    · exact mC
  intro B9 a9 W9 (S9 : Sta w 51 [(2, (.box 26 ((RN (nR (K * 2 ^ (n - 53).toNat) 1) (dR (K * 2 ^ (n - 53).toNat) 1)) w.heap.size)))] [(3, bT)] _ _ _)
  refine wp_ret ?_
  exact end_two S9 rfl (res_cell S9 0 2 rfl strct_rat (shp_pr shp_zn shp_zn)) (res_tmp S9 0 3 rfl)
set_option maxHeartbeats 400000 in
theorem exact_nan (w : World) (b : Nat) (hb : b < 18446744073709551616) (hp : plc b = none) :
    Calls Tryz.prog 6 #[(.float .f64 b)] w (Gives (TWO (RN 0 1) (IS (.bool false))) w) := by
  refine calls_sta (sl := [(0, (Is (.float .f64 b)))]) Tryz.func6 rfl Tryz.ntmps6 (by simp) (args_cons rfl (is_has _) args_nil) ?_
  intro a0 S0
  refine wp_stmt_seq [.new (.box 26 zR), kF] [.inl 0] [.inr 0] follows S0 rfl (by kernel_rfl) ?_ ?_
  · refine ⟨⟨trivial, ?_⟩, ?_⟩
    · exact owe_new rfl wA rfl rfl (fun ρ w => alloc_rat ρ _ w)
    · exact mC
  intro B1 a1 W1 (S1 : Sta w 51 [(2, (.box 26 zR))] [(0, Is (.float .f64 b))] _ _ _)
  refine wp_seq ?_
  refine wp_stmt_seq [.val (Is (.float .f64 b)), kT, kT, .off, .off, kT] [.inr 0] [.inl 5, .inr 0] follows S1 rfl (by kernel_rfl) ?_ ?_
  · refine ⟨⟨⟨⟨⟨⟨trivial, ?_⟩, ?_⟩, ?_⟩, ?_⟩, ?_⟩, ?_⟩
    · exact mS 0 0
    · exact cc1 wA (qO 0 10 rfl) (fresh_is _) (pur1 (isnan_t hp))
    · exact mO 1 11
    · exact oF 2 12
    · exact oF 2 12
    · exact pT wA (oO 2 12) (opnd_const _)
  intro B2 a2 W2 (S2 : Sta w 51 [(2, (.box 26 zR))] [(15, bT), (0, Is (.float .f64 b))] _ _ _)
  refine wp_cond_true (S2.bool 0 15 rfl) ?_
  refine wp_stmt_seq [.val ((ZN (0)) w.heap.size), .val ((RN 0 1) w.heap.size), .put (.inl 2) (.box 26 ((RN 0 1) w.heap.size)), kF] [.inr 0] [.inl 3] follows S2 rfl (by kernel_rfl) ?_ ?_
  · refine ⟨⟨⟨⟨trivial, ?_⟩, ?_⟩, ?_⟩, ?_⟩
    · exact cc1 wA (opnd_const _) (fresh_zn _) (g_zof 0 (by omega) (by omega))
    · exact cc1 wA (qO 0 16 rfl) (fresh_rn _ _) (fun w u h1 => g_ratof (by omega) w u ((zn_zv zero_dlE) _ _ h1))
    · exact owe_set rfl wA rfl (k := 0) rfl (by kernel_rfl) (oO 1 17) (stores_of strct_rat shp_r0 (shp_pr shp_zn shp_zn)) rfl
    · exact mC
  intro B3 a3 W3 (S3 : Sta w 51 [(2, (.box 26 ((RN 0 1) w.heap.size)))] [(3, bF)] _ _ _)
  refine wp_ret ?_
  refine thenR ?_
  exact end_two S3 rfl (res_cell S3 0 2 rfl strct_rat (shp_pr shp_zn shp_zn)) (res_tmp S3 0 3 rfl)
set_option maxHeartbeats 400000 in
theorem exact_inf (w : World) (b : Nat) (hb : b < 18446744073709551616) (p : Int) (hp : plc b = some p) (hq : p = 9218868437227405312 ∨ p = -9218868437227405312) :
    Calls Tryz.prog 6 #[(.float .f64 b)] w (Gives (TWO (RN 0 1) (IS (.bool false))) w) := by
  refine calls_sta (sl := [(0, (Is (.float .f64 b)))]) Tryz.func6 rfl Tryz.ntmps6 (by simp) (args_cons rfl (is_has _) args_nil) ?_
  intro a0 S0
  refine wp_stmt_seq [.new (.box 26 zR), kF] [.inl 0] [.inr 0] follows S0 rfl (by kernel_rfl) ?_ ?_
  · refine ⟨⟨trivial, ?_⟩, ?_⟩
    · exact owe_new rfl wA rfl rfl (fun ρ w => alloc_rat ρ _ w)
    · exact mC
  intro B1 a1 W1 (S1 : Sta w 51 [(2, (.box 26 zR))] [(0, Is (.float .f64 b))] _ _ _)
  refine wp_seq ?_
  refine wp_stmt_seq [.val (Is (.float .f64 b)), kF, kF, .val (Is (.float .f64 b)), kT, kT] [.inr 0] [.inl 5, .inr 0] follows S1 rfl (by kernel_rfl) ?_ ?_
  · refine ⟨⟨⟨⟨⟨⟨trivial, ?_⟩, ?_⟩, ?_⟩, ?_⟩, ?_⟩, ?_⟩
    · exact mS 0 0
    · exact cc1 wA (qO 0 10 rfl) (fresh_is _) (pur1 (isnan_f hp))
    · exact mO 1 11
    · exact mW (wI 2 12) (oS 0 0)
    · exact cc2 (wI 2 12) (qO 3 13 rfl) (opnd_const _) (fresh_is _) (pur2 (isinf_yes hb hp hq))
    · exact pF wA (oO 2 12) (oO 4 14)
  intro B2 a2 W2 (S2 : Sta w 51 [(2, (.box 26 zR))] [(15, bT), (0, Is (.float .f64 b))] _ _ _)
  refine wp_cond_true (S2.bool 0 15 rfl) ?_
  refine wp_stmt_seq [.val ((ZN (0)) w.heap.size), .val ((RN 0 1) w.heap.size), .put (.inl 2) (.box 26 ((RN 0 1) w.heap.size)), kF] [.inr 0] [.inl 3] follows S2 rfl (by kernel_rfl) ?_ ?_
  · refine ⟨⟨⟨⟨trivial, ?_⟩, ?_⟩, ?_⟩, ?_⟩
    · exact cc1 wA (opnd_const _) (fresh_zn _) (g_zof 0 (by omega) (by omega))
    · exact cc1 wA (qO 0 16 rfl) (fresh_rn _ _) (fun w u h1 => g_ratof (by omega) w u ((zn_zv zero_dlE) _ _ h1))
    · exact owe_set rfl wA rfl (k := 0) rfl (by kernel_rfl) (oO 1 17) (stores_of strct_rat shp_r0 (shp_pr shp_zn shp_zn)) rfl
    · exact mC
  intro B3 a3 W3 (S3 : Sta w 51 [(2, (.box 26 ((RN 0 1) w.heap.size)))] [(3, bF)] _ _ _)
  refine wp_ret ?_
  refine thenR ?_
  exact end_two S3 rfl (res_cell S3 0 2 rfl strct_rat (shp_pr shp_zn shp_zn)) (res_tmp S3 0 3 rfl)
end Go.Proofs.YtgalppimdmjdcabGreatDoor

/-
  Layer 9: Valid, Add, Sub, and what the document says of them.
-/
namespace Go.Proofs.YtgalppimdmjdcabGreatDoor
open Go Go.RowKit Nt
set_option linter.unusedSimpArgs false
set_option linter.unusedVariables false
set_option maxRecDepth 20000

end Go.Proofs.YtgalppimdmjdcabGreatDoor

/-
  The law's own calls of layer 9, and IvalSums' walk.
-/
namespace Go.Proofs.YtgalppimdmjdcabGreatDoor
open Go Go.RowKit Nt
set_option linter.unusedSimpArgs false
set_option linter.unusedVariables false
set_option maxRecDepth 20000

theorem exact_half (w : World) : Calls Tryz.prog 6 #[.float .f64 4602678819172646912] w (Gives (TWO (RN 1 2) (IS (.bool true))) w) := by
  have h1 := Frexp_p (frexp_n 0 1022 0 (by decide) (by decide) (by decide) (by decide)) rfl
  have h2 := Ldexp_p (ldexp_n 0 0 (by decide) (by decide))
  have h3 := toInt_of (dec_n 0 0 (by decide) (by decide)) (by decide)
  have := exact_lt w 4602678819172646912 _ _ (by decide) 4602678819172646912 rfl (by decide) 0 4503599627370496 h1 h2 h3 (by decide) (by decide) (digs_length_le (by decide)) (by decide) (by decide) 9007199254740992 (by decide) (by decide) (by decide) (Nat.le_trans (digs_length_le (k := 2) (by decide)) (by decide))
  rw [show nR 4503599627370496 9007199254740992 = 1 from by decide, show dR 4503599627370496 9007199254740992 = 2 from by decide] at this
  exact this
theorem g_rcmpI {A B : Int} {ka kb : Nat} (hk : ka ≤ 35184372088831) (hk' : kb ≤ 35184372088831) : ∀ w u v, Zv A ka u w → Zv B kb v w → Calls Tryz.prog 31 #[u, v] w (Gives (IS (.int .i64 (A - B).sign)) w) := by
  rintro w u v ⟨s, p, n, c, xs, rfl, h, rfl, hn⟩ ⟨t, q, m, d, ys, rfl, h', rfl, hm⟩
  exact (zrcmp_c w s t p q n c m d xs ys h h' (by omega) (by omega)).mono fun e w' ⟨he, hb⟩ => ⟨_, he, hb, rfl⟩

theorem pur_is {f : FuncId} {x : Value} {ψ : Nat → Pr} (h : ∀ w, Calls Tryz.prog f #[x] w (Gives ψ w)) : ∀ w u, Is x u w → Calls Tryz.prog f #[u] w (Gives ψ w) := fun w u e => by obtain rfl : u = x := e; exact h w
set_option maxHeartbeats 400000 in
theorem whole_w (w : World) (u v : Value) (A : Int) (ka kb : Nat) (hk : ka ≤ 35184372088831) (hk' : kb ≤ 35184372088831) (hu : Has (fun _ => False) w (Zv A ka) u) (hv : Has (fun _ => False) w (Zv A kb) v) :
    Calls Tryz.prog 11 #[u, v] w (Gives (IS (.bool true)) w) := by
  refine calls_sta (sl := [(0, (Zv A ka)), (1, (Zv A kb))]) Tryz.func11 rfl Tryz.ntmps11 (by simp) (args_cons rfl (hu) (args_cons rfl (hv) args_nil)) ?_
  intro a0 S0
  refine wp_stmt_seq [.new (.box 24 (Zv A ka)), .new (.box 24 (Zv A kb)), kF] [.inl 0, .inl 1] [] follows S0 rfl (by kernel_rfl) ?_ ?_
  · refine ⟨⟨⟨trivial, ?_⟩, ?_⟩, ?_⟩
    · exact owe_box rfl wA rfl (oS 0 0) rfl (fun ρ w h => box_int shp_zv ρ _ _ w h)
    · exact owe_box rfl wA rfl (oS 1 1) rfl (fun ρ w h => box_int shp_zv ρ _ _ w h)
    · exact mC
  intro B1 a1 W1 (S1 : Sta w 9 [(2, (.box 24 (Zv A ka))), (3, (.box 24 (Zv A kb)))] [] _ _ _)
  refine wp_stmt_seq [.val (Zv A ka), .val (Zv A kb), .val (iV ((A - A).sign)), kT, kT] [] [.inl 4] follows S1 rfl (by kernel_rfl) ?_ ?_
  · refine ⟨⟨⟨⟨⟨trivial, ?_⟩, ?_⟩, ?_⟩, ?_⟩, ?_⟩
    · exact lod 0 wA (loads_of strct_int shp_zv)
    · exact lod 1 wA (loads_of strct_int shp_zv)
    · exact cc2 wA (qO 0 5 rfl) (qO 1 6 rfl) (fresh_is _) (fun w u v h1 h2 => g_rcmpI hk hk' w u v ((fun _ _ h => h) _ _ h1) ((fun _ _ h => h) _ _ h2))
    · exact b_eql_int_t wA (oO 2 7) (opnd_const _) (h := by rw [Int.sub_self]; rfl)
    · exact mO 3 8
  intro B2 a2 W2 (S2 : Sta w 9 [] [(4, bT)] _ _ _)
  refine wp_ret ?_
  exact end_one S2 rfl (res_tmp S2 0 4 rfl)

theorem zv_hasI {A : Int} {k : Nat} {u : Value} {w : World} (h : Zv A k u w) : Has (fun _ => False) w (Zv A k) u := fun w' e => by
  obtain ⟨s, p, n, c, xs, e1, h1, h2, h3⟩ := h
  exact ⟨s, p, n, c, xs, e1, sl_ev h1 (fun _ _ _ _ h => h) e, h2, h3⟩
theorem h_whole {A : Int} {ka kb : Nat} (hk : ka ≤ 35184372088831) (hk' : kb ≤ 35184372088831) : ∀ w u v, Zv A ka u w → Zv A kb v w → Calls Tryz.prog 11 #[u, v] w (Gives (IS (.bool true)) w) := fun w u v h1 h2 => whole_w w u v A ka kb hk hk' (zv_hasI h1) (zv_hasI h2)
theorem two_dlE : (digs (2 : Int).natAbs).length ≤ 1 := digs_length_le (by decide)
theorem two_dlF : (digs ((2 : Nat) : Int).natAbs).length ≤ 1 := digs_length_le (by decide)
set_option maxHeartbeats 400000 in
theorem awake_w (w : World) :
    Calls Tryz.prog 4 #[] w (Gives (IS (.bool true)) w) := by
  refine calls_sta (sl := []) Tryz.func4 rfl Tryz.ntmps4 (by simp) args_nil ?_
  intro a0 S0
  refine wp_stmt_seq [kF] [] [] follows S0 rfl (by kernel_rfl) ?_ ?_
  · refine ⟨trivial, ?_⟩
    · exact mC
  intro B1 a1 W1 (S1 : Sta w 24 [] [] _ _ _)
  refine wp_stmt_seq [.val ((TWO (RN 1 2) (IS (.bool true))) w.heap.size), .val ((TWO (RN 1 2) (IS (.bool true))) w.heap.size), .val ((RN 1 2) w.heap.size), kT, .new (.box 26 zR), .put (.inr 4) (.box 26 ((RN 1 2) w.heap.size)), kT] [.inl 4] [.inl 6] follows S1 rfl (by kernel_rfl) ?_ ?_
  · repeat' refine And.intro ?_ ?_
    · trivial
    · exact cc1 wA (opnd_const _) (fresh_two (fresh_rn _ _) (fresh_is _)) (pur_is exact_half)
    · exact mO 0 4
    · exact e20 wA (oO 1 3)
    · exact e21 wA (oO 1 3)
    · exact owe_new rfl wA rfl rfl (fun ρ w => alloc_rat ρ _ w)
    · exact owe_put 4 rfl wA rfl (by kernel_rfl) rfl (oO 2 5) (stores_of strct_rat shp_r0 (shp_pr shp_zn shp_zn)) rfl
    · exact mO 3 6
  intro B2 a2 W2 (S2 : Sta w 24 [(1, (.box 26 ((RN 1 2) w.heap.size)))] [(2, bT)] _ _ _)
  refine wp_stmt_seq [kT, kT, .val (Part a2 1 0), .val ((ZN (1)) w.heap.size), .val ((ZN (1)) w.heap.size), kT, kT, kT, .val (Part a2 1 2), .val ((ZN (((2 : Nat) : Int))) w.heap.size), .val ((ZN (2)) w.heap.size), kT, kT, kT, .val (FL (upP (plc 4607182418800017408))), kT, kT, kT] [] [.inl 17] follows S2 rfl (by kernel_rfl) ?_ ?_
  · repeat' refine And.intro ?_ ?_
    · trivial
    · exact mS 0 2
    · exact mO 0 7
    · exact owe_part rfl (wI 1 8) rfl (k := 0) rfl (by kernel_rfl) rfl (fun ρ w b h => part_rat0 ρ _ _ w b 0 h)
    · exact owe_pload rfl (wI 1 8) rfl (oO 2 9) (k := 0) rfl (by kernel_rfl) rfl (fun ρ w b u h1 h2 h3 => pload_num ρ _ _ w b u h1 h2 h3)
    · exact cc1 (wI 1 8) (opnd_const _) (fresh_zn _) (g_rof 1 (by omega) (by omega))
    · exact cc2 (wI 1 8) (qO 3 10 rfl) (qO 4 11 rfl) (fresh_is _) (fun w u v h1 h2 => h_whole (by omega) (by omega) w u v ((zn_zv one_dlE) _ _ h1) ((zn_zv one_dlE) _ _ h2))
    · exact pT wA (oO 1 8) (oO 5 12)
    · exact mO 6 13
    · exact owe_part rfl (wI 7 14) rfl (k := 0) rfl (by kernel_rfl) rfl (fun ρ w b h => part_rat1 ρ _ _ w b 0 h)
    · exact owe_pload rfl (wI 7 14) rfl (oO 8 15) (k := 0) rfl (by kernel_rfl) rfl (fun ρ w b u h1 h2 h3 => pload_den ρ _ _ w b u h1 h2 h3)
    · exact cc1 (wI 7 14) (opnd_const _) (fresh_zn _) (g_rof 2 (by omega) (by omega))
    · exact cc2 (wI 7 14) (qO 9 16 rfl) (qO 10 17 rfl) (fresh_is _) (fun w u v h1 h2 => h_whole (by omega) (by omega) w u v ((zn_zv two_dlF) _ _ h1) ((zn_zv two_dlE) _ _ h2))
    · exact pT wA (oO 7 14) (oO 11 18)
    · exact mO 12 19
    · exact cc1 (wI 13 20) (opnd_const _) (fresh_fl _) (purF1 (up_f 4607182418800017408 (by decide)))
    · exact owe_fcmp rfl (wI 13 20) rfl (oO 14 21) ((opnd_const _).imp (fl_is (by decide))) (by decide) rfl
    · exact pT wA (oO 13 20) (oO 15 22)
    · exact mO 16 23
  intro B3 a3 W3 (S3 : Sta w 24 [] [(0, bT)] _ _ _)
  refine wp_ret ?_
  exact end_one S3 rfl (res_tmp S3 0 0 rfl)
end Go.Proofs.YtgalppimdmjdcabGreatDoor
