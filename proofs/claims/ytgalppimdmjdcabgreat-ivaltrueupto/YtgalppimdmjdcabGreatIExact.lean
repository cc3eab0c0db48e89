/-
  ival.Exact.
-/
import Derived.Test.YtgalppimdmjdcabGreatFlC
import Derived.Test.YtgalppimdmjdcabGreatFlB
import Derived.Test.YtgalppimdmjdcabGreatZUp
import Derived.Test.YtgalppimdmjdcabGreatSetS
namespace Go.Proofs.YtgalppimdmjdcabGreat
open Go Go.RowKit Nt
set_option linter.unusedSimpArgs false
set_option linter.unusedVariables false
set_option maxRecDepth 20000

theorem isinf_no {b : Nat} (hb : b < 18446744073709551616) {p : Int} (hp : plc b = some p) (hq : ¬ (p = 9218868437227405312 ∨ p = -9218868437227405312)) : Pur 27 #[.float .f64 b, .int .i64 0] (.bool false) := by
  have := isinf_a b hb p hp
  rwa [decide_eq_false hq] at this
theorem isinf_yes {b : Nat} (hb : b < 18446744073709551616) {p : Int} (hp : plc b = some p) (hq : p = 9218868437227405312 ∨ p = -9218868437227405312) : Pur 27 #[.float .f64 b, .int .i64 0] (.bool true) := by
  have := isinf_a b hb p hp
  rwa [decide_eq_true hq] at this
theorem one_dlE : (digs (1 : Int).natAbs).length ≤ 1 := digs_length_le (by decide)
set_option maxHeartbeats 2000000 in
theorem exact_lt (w : World) (b y z : Nat) (hb : b < 18446744073709551616) (p : Int) (hp : plc b = some p) (hq : ¬ (p = 9218868437227405312 ∨ p = -9218868437227405312)) (n K : Int) (hF : Pur 35 #[.float .f64 b] (.tuple #[.float .f64 y, .int .i64 n])) (hL : Pur 36 #[.float .f64 y, .int .i64 53] (.float .f64 z)) (hz : floatToIntVal .f64 z .i64 = some K) (hK : -9007199254740992 ≤ K) (hK2 : K ≤ 9007199254740992) (dK : (digs K.natAbs).length ≤ 2) (hn1 : -1100 ≤ n) (hn3 : n ≤ 1100) (D : Nat) (hD0 : D ≠ 0) (hn2 : n < 53) (hD : (1 : Int) * 2 ^ (53 - n).toNat = ((D : Nat) : Int)) (dD : (digs ((D : Nat) : Int).natAbs).length ≤ 67108864) :
    Calls Tryz.prog 17 #[(.float .f64 b)] w (Gives (TWO (RN (nR K D) (dR K D)) (IS (.bool true))) w) := by
  refine calls_sta (sl := [(0, (Is (.float .f64 b)))]) Tryz.func17 rfl Tryz.ntmps17 (by simp) (args_cons rfl (is_has _) args_nil) ?_
  intro a0 S0
  refine wp_stmt_seq [.new (.box 29 zR), kF] [.inl 0] [.inr 0] follows S0 rfl (by kernel_rfl) ?_ ?_
  · refine ⟨⟨trivial, ?_⟩, ?_⟩
    · exact owe_new rfl wA rfl rfl (fun ρ w => alloc_rat ρ _ w)
    · exact mC
  intro B1 a1 W1 (S1 : Sta w 51 [(2, (.box 29 zR))] [(0, Is (.float .f64 b))] _ _ _)
  refine wp_seq ?_
  refine wp_stmt_seq [.val (Is (.float .f64 b)), kF, kF, .val (Is (.float .f64 b)), kF, kF] [.inr 0] [.inl 5, .inr 0] follows S1 rfl (by kernel_rfl) ?_ ?_
  · refine ⟨⟨⟨⟨⟨⟨trivial, ?_⟩, ?_⟩, ?_⟩, ?_⟩, ?_⟩, ?_⟩
    · exact mS 0 0
    · exact cc1 wA (qO 0 10 rfl) (fresh_is _) (pur1 (isnan_f hp))
    · exact mO 1 11
    · exact mW (wI 2 12) (oS 0 0)
    · exact cc2 (wI 2 12) (qO 3 13 rfl) (opnd_const _) (fresh_is _) (pur2 (isinf_no hb hp hq))
    · exact pF wA (oO 2 12) (oO 4 14)
  intro B2 a2 W2 (S2 : Sta w 51 [(2, (.box 29 zR))] [(15, bF), (0, Is (.float .f64 b))] _ _ _)
  refine wp_cond_false (S2.bool 0 15 rfl) ?_
  refine wp_skip ?_
  refine thenN ?_
  refine wp_stmt_seq [.val (Is (.float .f64 b)), .val ((TWO (IS (.float .f64 y)) (IS (.int .i64 n))) w.heap.size), .val ((TWO (IS (.float .f64 y)) (IS (.int .i64 n))) w.heap.size), .val (Is (.float .f64 y)), .val (iV n), .val (Is (.float .f64 y)), .val (iV n)] [.inr 0] [.inl 5, .inl 6] follows S2 rfl (by kernel_rfl) ?_ ?_
  · repeat' refine And.intro ?_ ?_
    · trivial
    · exact mS 1 0
    · exact cc1 wA (qO 0 19 rfl) (fresh_two (fresh_is _) (fresh_is _)) (pur1t hF)
    · exact mO 1 20
    · exact e20 wA (oO 2 18)
    · exact e21 wA (oO 2 18)
    · exact mO 3 21
    · exact mO 4 22
  intro B3 a3 W3 (S3 : Sta w 51 [(2, (.box 29 zR))] [(4, Is (.float .f64 y)), (5, iV n)] _ _ _)
  refine wp_stmt_seq [.val (Is (.float .f64 y)), .val (Is (.float .f64 z)), .val (iV K), .val ((ZN (K)) w.heap.size), .new (.box 27 zI), .put (.inr 4) (.box 27 ((ZN (K)) w.heap.size))] [.inr 0, .inl 4] [.inr 1] follows S3 rfl (by kernel_rfl) ?_ ?_
  · refine ⟨⟨⟨⟨⟨⟨trivial, ?_⟩, ?_⟩, ?_⟩, ?_⟩, ?_⟩, ?_⟩
    · exact mS 0 4
    · exact cc2 wA (qO 0 23 rfl) (opnd_const _) (fresh_is _) (pur2 hL)
    · exact owe_un (x := .tmp 24) rfl wA rfl (oO 1 24) rfl (fun ρ w h1 => by exact run_cvtF ρ _ _ w _ _ hz h1)
    · exact cc1 wA (qO 2 25 rfl) (fresh_zn _) (g_zof K (by omega) (by omega))
    · exact owe_new rfl wA rfl rfl (fun ρ w => alloc_int ρ _ w)
    · exact owe_put 4 rfl wA rfl (by kernel_rfl) rfl (oO 3 26) (stores_of strct_int shp_z0 shp_zn) rfl
  intro B4 a4 W4 (S4 : Sta w 51 [(2, (.box 29 zR)), (6, (.box 27 ((ZN (K)) w.heap.size)))] [(5, iV n)] _ _ _)
  refine wp_stmt_seq [.val ((ZN (1)) w.heap.size), .new (.box 27 zI), .put (.inr 1) (.box 27 ((ZN (1)) w.heap.size))] [.inr 0, .inr 1, .inl 1] [.inr 0] follows S4 rfl (by kernel_rfl) ?_ ?_
  · refine ⟨⟨⟨trivial, ?_⟩, ?_⟩, ?_⟩
    · exact cc1 wA (opnd_const _) (fresh_zn _) (g_zof 1 (by omega) (by omega))
    · exact owe_new rfl wA rfl rfl (fun ρ w => alloc_int ρ _ w)
    · exact owe_put 1 rfl wA rfl (by kernel_rfl) rfl (oO 0 27) (stores_of strct_int shp_z0 shp_zn) rfl
  intro B5 a5 W5 (S5 : Sta w 51 [(2, (.box 29 zR)), (6, (.box 27 ((ZN (K)) w.heap.size))), (7, (.box 27 ((ZN (1)) w.heap.size)))] [(5, iV n)] _ _ _)
  refine wp_seq ?_
  refine wp_stmt_seq [.val (iV n), kT] [.inr 0, .inr 1, .inr 2] [.inl 1, .inr 0] follows S5 rfl (by kernel_rfl) ?_ ?_
  · refine ⟨⟨trivial, ?_⟩, ?_⟩
    · exact mS 0 5
    · exact b_lss_int_t wA (oO 0 28) (opnd_const _) (h := hn2)
  intro B6 a6 W6 (S6 : Sta w 51 [(2, (.box 29 zR)), (6, (.box 27 ((ZN (K)) w.heap.size))), (7, (.box 27 ((ZN (1)) w.heap.size)))] [(29, bT), (5, iV n)] _ _ _)
  refine wp_cond_true (S6.bool 0 29 rfl) ?_
  refine wp_stmt [.val ((ZN (1)) w.heap.size), .val (iV n), .val (iV (53 - n)), .val ((TWO (ZN (((D : Nat) : Int))) (IS (.int .i64 0))) w.heap.size), .val ((TWO (ZN (((D : Nat) : Int))) (IS (.int .i64 0))) w.heap.size), .val ((ZN (((D : Nat) : Int))) w.heap.size), .val (iV 0), .put (.inl 7) (.box 27 ((ZN (((D : Nat) : Int))) w.heap.size))] [.inr 0, .inr 1, .inr 2] [] follows S6 rfl (by kernel_rfl) ?_ ?_
  · repeat' refine And.intro ?_ ?_
    · trivial
    · exact lod 2 wA (loads_of strct_int shp_zn)
    · exact mS 1 5
    · exact b_sub_int wA (opnd_const _) (oO 1 32) (h := ⟨rfl, by omega, by omega⟩)
    · exact cc2 wA (qO 0 31 rfl) (qO 2 33 rfl) (fresh_two (fresh_zn _) (fresh_is _)) (fun w u0 u1 h0 h1 => Gives.cast ((fun w u v h1 h2 => g_zshift0 (by omega) (by omega) (by omega) w u v ((zn_zv one_dlE) _ _ h1) h2) w u0 u1 h0 h1) (by rw [hD]))
    · exact mO 3 34
    · exact e20 wA (oO 4 30)
    · exact e21 wA (oO 4 30)
    · exact owe_set rfl wA rfl (k := 2) rfl (by kernel_rfl) (oO 5 35) (stores_of strct_int shp_zn shp_zn) rfl
  intro B7 a7 W7 (S7 : Sta w 51 [(2, (.box 29 zR)), (6, (.box 27 ((ZN (K)) w.heap.size))), (7, (.box 27 ((ZN (((D : Nat) : Int))) w.heap.size)))] [] _ _ _)
  refine thenN ?_
  refine wp_stmt_seq [.val ((ZN (K)) w.heap.size), .val ((ZN (((D : Nat) : Int))) w.heap.size), .val ((TWO (RN (nR K D) (dR K D)) (IS (.int .i64 0))) w.heap.size), .val ((TWO (RN (nR K D) (dR K D)) (IS (.int .i64 0))) w.heap.size), .val ((RN (nR K D) (dR K D)) w.heap.size), .val (iV 0), .new (.box 29 zR), .put (.inr 6) (.box 29 ((RN (nR K D) (dR K D)) w.heap.size)), .val (iV 0)] [.inr 0, .inl 6] [] follows S7 rfl (by kernel_rfl) ?_ ?_
  · repeat' refine And.intro ?_ ?_
    · trivial
    · exact lod 1 wA (loads_of strct_int shp_zn)
    · exact lod 2 wA (loads_of strct_int shp_zn)
    · exact cc2 wA (qO 0 45 rfl) (qO 1 46 rfl) (fresh_two (fresh_rn _ _) (fresh_is _)) (fun w u v h1 h2 => g_ratmake hD0 (by omega) (by omega) w u v ((zn_zv dK) _ _ h1) ((zn_zv dD) _ _ h2))
    · exact mO 2 47
    · exact e20 wA (oO 3 44)
    · exact e21 wA (oO 3 44)
    · exact owe_new rfl wA rfl rfl (fun ρ w => alloc_rat ρ _ w)
    · exact owe_put 6 rfl wA rfl (by kernel_rfl) rfl (oO 4 48) (stores_of strct_rat shp_r0 (shp_pr shp_zn shp_zn)) rfl
    · exact mO 5 49
  intro B8 a8 W8 (S8 : Sta w 51 [(2, (.box 29 zR)), (8, (.box 29 ((RN (nR K D) (dR K D)) w.heap.size)))] [] _ _ _)
  refine wp_stmt_seq [.val ((RN (nR K D) (dR K D)) w.heap.size), .put (.inl 2) (.box 29 ((RN (nR K D) (dR K D)) w.heap.size)), kT] [.inr 0] [.inl 2] follows S8 rfl (by kernel_rfl) ?_ ?_
  · refine ⟨⟨⟨trivial, ?_⟩, ?_⟩, ?_⟩
    · exact lod 1 wA (loads_of strct_rat (shp_pr shp_zn shp_zn))
    · exact owe_set rfl wA rfl (k := 0) rfl (by kernel_rfl) (oO 0 50) (stores_of strct_rat shp_r0 (shp_pr shp_zn shp_zn)) rfl
    · exact mC
  intro B9 a9 W9 (S9 : Sta w 51 [(2, (.box 29 ((RN (nR K D) (dR K D)) w.heap.size)))] [(3, bT)] _ _ _)
  refine wp_ret ?_
  exact end_two S9 rfl (res_cell S9 0 2 rfl strct_rat (shp_pr shp_zn shp_zn)) (res_tmp S9 0 3 rfl)
end Go.Proofs.YtgalppimdmjdcabGreat
