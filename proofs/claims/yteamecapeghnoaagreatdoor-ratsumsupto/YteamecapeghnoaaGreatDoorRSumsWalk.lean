/-
  RatSums' walk: it returns true and writes nothing that was there.
-/
import Derived.Test.YteamecapeghnoaaGreatDoorRConts2
namespace Go.Proofs.YteamecapeghnoaaGreatDoor
open Go Go.RowKit Nt
set_option linter.unusedSimpArgs false
set_option linter.unusedVariables false
set_option maxRecDepth 20000

set_option maxHeartbeats 2000000 in
theorem sums_w (w : World) (A N : Int) (D M k1 k2 k3 k4 : Nat) (u v : Value) (h : Rv A (D : Int) k1 k2 u w) (h' : Rv N (M : Int) k3 k4 v w) (hk1 : k1 ≤ 8388608) (hk2 : k2 ≤ 8388608) (hk3 : k3 ≤ 8388608) (hk4 : k4 ≤ 8388608) (hD : D ≠ 0) (hM : M ≠ 0) (sD : decide (0 < (D : Int).sign) = true) (sM : decide (0 < (M : Int).sign) = true) (ed : RN (nR (A * ((dR (-N) M : Nat) : Int) + nR (-N) M * ((D : Nat) : Int)) (D * dR (-N) M)) (dR (A * ((dR (-N) M : Nat) : Int) + nR (-N) M * ((D : Nat) : Int)) (D * dR (-N) M)) = RN (nR (adN A (-N) D M) (D * M)) (dR (adN A (-N) D M) (D * M))) :
    Calls Tryz.prog 3 #[u, v] w (Gives (IS (.bool true)) w) := by
  refine calls_sta (sl := [(0, (PR (Zv A k1) (Zv ((D : Int)) k2))), (1, (PR (Zv N k3) (Zv ((M : Int)) k4)))]) Tryz.func3 rfl Tryz.ntmps3 (by simp) (args_cons rfl (rv_has h) (args_cons rfl (rv_has h') args_nil)) ?_
  intro a0 S0
  refine wp_stmt_seq [.new (.box 26 (PR (Zv A k1) (Zv ((D : Int)) k2))),
      .new (.box 26 (PR (Zv N k3) (Zv ((M : Int)) k4))),
      .val (Is (.bool false))] [.inl 0, .inl 1] [.inl 2] follows S0 rfl (by kernel_rfl) ?_ ?_
  · refine ⟨⟨⟨trivial, ?_⟩, ?_⟩, ?_⟩
    · exact owe_box rfl (wants_all rfl) rfl (opnd_slot 0 0 rfl (by kernel_rfl)) rfl (fun ρ w h => box_rat (shp_pr shp_zv shp_zv) ρ _ _ w h)
    · exact owe_box rfl (wants_all rfl) rfl (opnd_slot 1 1 rfl (by kernel_rfl)) rfl (fun ρ w h => box_rat (shp_pr shp_zv shp_zv) ρ _ _ w h)
    · exact owe_move rfl (wants_all rfl) (Or.inr rfl) (opnd_const _) rfl
  intro B1 a1 W1 S1
  replace S1 : Sta w 67 [(2, (.box 26 (PR (Zv A k1) (Zv ((D : Int)) k2)))), (3, (.box 26 (PR (Zv N k3) (Zv ((M : Int)) k4))))] [(4, (Is (.bool false)))] B1 a1 W1 := S1
  refine wp_stmt_seq [.val (PR (Zv A k1) (Zv ((D : Int)) k2)),
      .val (PR (Zv N k3) (Zv ((M : Int)) k4)),
      .val ((TWO (RN (nR (adN A N D M) (D * M)) (dR (adN A N D M) (D * M))) (IS (.int .i64 0))) w.heap.size),
      .val ((TWO (RN (nR (adN A N D M) (D * M)) (dR (adN A N D M) (D * M))) (IS (.int .i64 0))) w.heap.size),
      .val ((RN (nR (adN A N D M) (D * M)) (dR (adN A N D M) (D * M))) w.heap.size),
      .val (Is (.int .i64 0)),
      .new (.box 26 (Is (.agg #[.bool false, .slice none 0 0, .bool false, .slice none 0 0]))),
      .put (.inr 6) (.box 26 ((RN (nR (adN A N D M) (D * M)) (dR (adN A N D M) (D * M))) w.heap.size)),
      .val (Is (.int .i64 0))] [.inr 0, .inr 1, .inl 6] [.inl 8, .inr 0] follows S1 rfl (by kernel_rfl) ?_ ?_
  · refine ⟨⟨⟨⟨⟨⟨⟨⟨⟨trivial, ?_⟩, ?_⟩, ?_⟩, ?_⟩, ?_⟩, ?_⟩, ?_⟩, ?_⟩, ?_⟩
    · exact owe_load rfl (wants_all rfl) rfl (k := 0) rfl (by kernel_rfl) (loads_of strct_rat (shp_pr shp_zv shp_zv)) rfl
    · exact owe_load rfl (wants_all rfl) rfl (k := 1) rfl (by kernel_rfl) (loads_of strct_rat (shp_pr shp_zv shp_zv)) rfl
    · exact owe_call2 rfl (wants_all rfl) rfl (opnd_op 0 10 (by kernel_rfl) rfl) (opnd_op 1 11 (by kernel_rfl) rfl) (fresh_two (fresh_rn _ _) (fresh_is _)) rfl (fun args w => by go_simp) (fun w u v h1 h2 => g_ratadd (by first | assumption | decide) (by first | assumption | decide) (by omega) (by omega) (by omega) (by omega) w u v ((pr_imp (fun _ _ h => h) (fun _ _ h => h)) _ _ h1) ((pr_imp (fun _ _ h => h) (fun _ _ h => h)) _ _ h2))
    · exact owe_move rfl (wants_all rfl) (Or.inl rfl) (opnd_op 2 12 (by kernel_rfl) rfl) rfl
    · exact owe_ext2 rfl (wants_all rfl) rfl (opnd_op 3 9 (by kernel_rfl) rfl) (Or.inl ⟨rfl, rfl⟩) rfl
    · exact owe_ext2 rfl (wants_all rfl) rfl (opnd_op 3 9 (by kernel_rfl) rfl) (Or.inr ⟨rfl, rfl⟩) rfl
    · exact owe_new rfl (wants_all rfl) rfl rfl (fun ρ w => alloc_rat ρ _ w)
    · exact owe_put 6 rfl (wants_all rfl) rfl (by kernel_rfl) rfl (opnd_op 4 13 (by kernel_rfl) rfl) (stores_of strct_rat shp_r0 (shp_pr shp_zn shp_zn)) rfl
    · exact owe_move rfl (wants_all rfl) (Or.inr rfl) (opnd_op 5 14 (by kernel_rfl) rfl) rfl
  intro B2 a2 W2 S2
  replace S2 : Sta w 67 [(2, (.box 26 (PR (Zv A k1) (Zv ((D : Int)) k2)))), (3, (.box 26 (PR (Zv N k3) (Zv ((M : Int)) k4)))), (5, (.box 26 ((RN (nR (adN A N D M) (D * M)) (dR (adN A N D M) (D * M))) w.heap.size)))] [(6, (Is (.int .i64 0))), (4, (Is (.bool false)))] B2 a2 W2 := S2
  refine wp_stmt_seq [.val (PR (Zv A k1) (Zv ((D : Int)) k2)),
      .val (PR (Zv N k3) (Zv ((M : Int)) k4)),
      .val ((TWO (RN (nR (adN A (-N) D M) (D * M)) (dR (adN A (-N) D M) (D * M))) (IS (.int .i64 0))) w.heap.size),
      .val ((TWO (RN (nR (adN A (-N) D M) (D * M)) (dR (adN A (-N) D M) (D * M))) (IS (.int .i64 0))) w.heap.size),
      .val ((RN (nR (adN A (-N) D M) (D * M)) (dR (adN A (-N) D M) (D * M))) w.heap.size),
      .val (Is (.int .i64 0)),
      .new (.box 26 (Is (.agg #[.bool false, .slice none 0 0, .bool false, .slice none 0 0]))),
      .put (.inr 6) (.box 26 ((RN (nR (adN A (-N) D M) (D * M)) (dR (adN A (-N) D M) (D * M))) w.heap.size)),
      .val (Is (.int .i64 0))] [.inr 0, .inr 1, .inr 2, .inl 6] [.inl 8, .inr 0, .inr 1] follows S2 rfl (by kernel_rfl) ?_ ?_
  · refine ⟨⟨⟨⟨⟨⟨⟨⟨⟨trivial, ?_⟩, ?_⟩, ?_⟩, ?_⟩, ?_⟩, ?_⟩, ?_⟩, ?_⟩, ?_⟩
    · exact owe_load rfl (wants_all rfl) rfl (k := 0) rfl (by kernel_rfl) (loads_of strct_rat (shp_pr shp_zv shp_zv)) rfl
    · exact owe_load rfl (wants_all rfl) rfl (k := 1) rfl (by kernel_rfl) (loads_of strct_rat (shp_pr shp_zv shp_zv)) rfl
    · exact owe_call2 rfl (wants_all rfl) rfl (opnd_op 0 16 (by kernel_rfl) rfl) (opnd_op 1 17 (by kernel_rfl) rfl) (fresh_two (fresh_rn _ _) (fresh_is _)) rfl (fun args w => by go_simp) (fun w u v h1 h2 => g_ratsub (by first | assumption | decide) (by first | assumption | decide) (by omega) (by omega) (by omega) (by omega) w u v ((pr_imp (fun _ _ h => h) (fun _ _ h => h)) _ _ h1) ((pr_imp (fun _ _ h => h) (fun _ _ h => h)) _ _ h2))
    · exact owe_move rfl (wants_all rfl) (Or.inl rfl) (opnd_op 2 18 (by kernel_rfl) rfl) rfl
    · exact owe_ext2 rfl (wants_all rfl) rfl (opnd_op 3 15 (by kernel_rfl) rfl) (Or.inl ⟨rfl, rfl⟩) rfl
    · exact owe_ext2 rfl (wants_all rfl) rfl (opnd_op 3 15 (by kernel_rfl) rfl) (Or.inr ⟨rfl, rfl⟩) rfl
    · exact owe_new rfl (wants_all rfl) rfl rfl (fun ρ w => alloc_rat ρ _ w)
    · exact owe_put 6 rfl (wants_all rfl) rfl (by kernel_rfl) rfl (opnd_op 4 19 (by kernel_rfl) rfl) (stores_of strct_rat shp_r0 (shp_pr shp_zn shp_zn)) rfl
    · exact owe_move rfl (wants_all rfl) (Or.inr rfl) (opnd_op 5 20 (by kernel_rfl) rfl) rfl
  intro B3 a3 W3 S3
  replace S3 : Sta w 67 [(2, (.box 26 (PR (Zv A k1) (Zv ((D : Int)) k2)))), (3, (.box 26 (PR (Zv N k3) (Zv ((M : Int)) k4)))), (5, (.box 26 ((RN (nR (adN A N D M) (D * M)) (dR (adN A N D M) (D * M))) w.heap.size))), (7, (.box 26 ((RN (nR (adN A (-N) D M) (D * M)) (dR (adN A (-N) D M) (D * M))) w.heap.size)))] [(8, (Is (.int .i64 0))), (6, (Is (.int .i64 0))), (4, (Is (.bool false)))] B3 a3 W3 := S3
  refine wp_seq ?_
  refine wp_stmt_seq [.val (PR (Zv A k1) (Zv ((D : Int)) k2)),
      .val (PR (Zv N k3) (Zv ((M : Int)) k4)),
      .val (Is (.bool true)),
      .val (Is (.bool false))] [.inr 0, .inr 1, .inr 2, .inr 3] [.inl 3, .inr 0, .inr 1, .inr 2] follows S3 rfl (by kernel_rfl) ?_ ?_
  · refine ⟨⟨⟨⟨trivial, ?_⟩, ?_⟩, ?_⟩, ?_⟩
    · exact owe_load rfl (wants_all rfl) rfl (k := 0) rfl (by kernel_rfl) (loads_of strct_rat (shp_pr shp_zv shp_zv)) rfl
    · exact owe_load rfl (wants_all rfl) rfl (k := 1) rfl (by kernel_rfl) (loads_of strct_rat (shp_pr shp_zv shp_zv)) rfl
    · exact owe_call2 rfl (wants_all rfl) rfl (opnd_op 0 21 (by kernel_rfl) rfl) (opnd_op 1 22 (by kernel_rfl) rfl) (fresh_is _) rfl (fun args w => by go_simp) (fun w u v h1 h2 => g_both_t sD sM (by omega) (by omega) (by omega) (by omega) w u v ((pr_imp (fun _ _ h => h) (fun _ _ h => h)) _ _ h1) ((pr_imp (fun _ _ h => h) (fun _ _ h => h)) _ _ h2))
    · exact owe_un (x := .tmp 23) rfl (wants_all rfl) rfl (opnd_op 2 23 (by kernel_rfl) rfl) rfl (fun ρ w h1 => run_not ρ _ _ w _ h1)
  intro B4 a4 W4 S4
  replace S4 : Sta w 67 [(2, (.box 26 (PR (Zv A k1) (Zv ((D : Int)) k2)))), (3, (.box 26 (PR (Zv N k3) (Zv ((M : Int)) k4)))), (5, (.box 26 ((RN (nR (adN A N D M) (D * M)) (dR (adN A N D M) (D * M))) w.heap.size))), (7, (.box 26 ((RN (nR (adN A (-N) D M) (D * M)) (dR (adN A (-N) D M) (D * M))) w.heap.size)))] [(24, (Is (.bool false))), (8, (Is (.int .i64 0))), (6, (Is (.int .i64 0))), (4, (Is (.bool false)))] B4 a4 W4 := S4
  refine wp_cond_false (S4.bool 0 24 rfl) ?_
  refine wp_skip ?_
  refine thenN ?_
  refine wp_stmt_seq [.val (Is (.int .i64 0)),
      .val (Is (.bool true)),
      .val (Is (.bool true)),
      .val (Is (.int .i64 0)),
      .val (Is (.bool true)),
      .val (Is (.bool true)),
      .val (Is (.bool true)),
      .val ((RN (nR (adN A N D M) (D * M)) (dR (adN A N D M) (D * M))) w.heap.size),
      .val (PR (Zv A k1) (Zv ((D : Int)) k2)),
      .val (PR (Zv N k3) (Zv ((M : Int)) k4)),
      .val ((RN (nR (adN A N D M) (D * M)) (dR (adN A N D M) (D * M))) w.heap.size),
      .val (Is (.bool true)),
      .val (Is (.bool true)),
      .val (Is (.bool true)),
      .val ((RN (nR (adN A (-N) D M) (D * M)) (dR (adN A (-N) D M) (D * M))) w.heap.size),
      .val (PR (Zv A k1) (Zv ((D : Int)) k2)),
      .val (PR (Zv N k3) (Zv ((M : Int)) k4)),
      .val ((RN (nR (adN A (-N) D M) (D * M)) (dR (adN A (-N) D M) (D * M))) w.heap.size),
      .val (Is (.bool true)),
      .val (Is (.bool true)),
      .val (Is (.bool true)),
      .val (Is (.bool true)),
      .val (Is (.bool true)),
      .val (Is (.bool true))] [.inr 0, .inr 1, .inr 2, .inr 3] [.inl 23, .inr 0, .inr 1, .inr 2] follows S4 rfl (by kernel_rfl) ?_ ?_
  · refine ⟨⟨⟨⟨⟨⟨⟨⟨⟨⟨⟨⟨⟨⟨⟨⟨⟨⟨⟨⟨⟨⟨⟨⟨trivial, ?_⟩, ?_⟩, ?_⟩, ?_⟩, ?_⟩, ?_⟩, ?_⟩, ?_⟩, ?_⟩, ?_⟩, ?_⟩, ?_⟩, ?_⟩, ?_⟩, ?_⟩, ?_⟩, ?_⟩, ?_⟩, ?_⟩, ?_⟩, ?_⟩, ?_⟩, ?_⟩, ?_⟩
    · exact owe_move rfl (wants_all rfl) (Or.inl rfl) (opnd_slot 2 6 rfl (by kernel_rfl)) rfl
    · exact owe_bin rfl (wants_all rfl) rfl (opnd_op 0 44 (by kernel_rfl) rfl) (opnd_const _) rfl (fun ρ w h1 h2 => by exact run_eql_errno_t ρ _ _ _ w _ _ rfl h1 h2)
    · exact owe_move rfl (wants_all rfl) (Or.inl rfl) (opnd_op 1 45 (by kernel_rfl) rfl) rfl
    · exact owe_move rfl (wants_if 2 46 rfl (by kernel_rfl) rfl) (Or.inl rfl) (opnd_slot 1 8 rfl (by kernel_rfl)) rfl
    · exact owe_bin rfl (wants_if 2 46 rfl (by kernel_rfl) rfl) rfl (opnd_op 3 47 (by kernel_rfl) rfl) (opnd_const _) rfl (fun ρ w h1 h2 => by exact run_eql_errno_t ρ _ _ _ w _ _ rfl h1 h2)
    · exact owe_pick rfl (wants_all rfl) rfl (opnd_op 2 46 (by kernel_rfl) rfl) (fun _ => (opnd_op 4 48 (by kernel_rfl) rfl)) (fun h => nomatch h) rfl
    · exact owe_move rfl (wants_all rfl) (Or.inl rfl) (opnd_op 5 49 (by kernel_rfl) rfl) rfl
    · exact owe_load rfl (wants_if 6 50 rfl (by kernel_rfl) rfl) rfl (k := 2) rfl (by kernel_rfl) (loads_of strct_rat (shp_pr shp_zn shp_zn)) rfl
    · exact owe_load rfl (wants_if 6 50 rfl (by kernel_rfl) rfl) rfl (k := 0) rfl (by kernel_rfl) (loads_of strct_rat (shp_pr shp_zv shp_zv)) rfl
    · exact owe_load rfl (wants_if 6 50 rfl (by kernel_rfl) rfl) rfl (k := 1) rfl (by kernel_rfl) (loads_of strct_rat (shp_pr shp_zv shp_zv)) rfl
    · exact owe_call2 rfl (wants_if 6 50 rfl (by kernel_rfl) rfl) rfl (opnd_op 8 52 (by kernel_rfl) rfl) (opnd_op 9 53 (by kernel_rfl) rfl) (fresh_rn _ _) rfl (fun args w => by go_simp) (fun w u0 u1 h0 h1 => Gives.cast ((fun w u v h1 h2 => g_rradd (by first | assumption | decide) (by first | assumption | decide) (by omega) (by omega) (by omega) (by omega) w u v ((pr_imp (fun _ _ h => h) (fun _ _ h => h)) _ _ h1) ((pr_imp (fun _ _ h => h) (fun _ _ h => h)) _ _ h2)) w u0 u1 h0 h1) (by rfl))
    · exact owe_call2 rfl (wants_if 6 50 rfl (by kernel_rfl) rfl) rfl (opnd_op 7 51 (by kernel_rfl) rfl) (opnd_op 10 54 (by kernel_rfl) rfl) (fresh_is _) rfl (fun args w => by go_simp) g_same
    · exact owe_pick rfl (wants_all rfl) rfl (opnd_op 6 50 (by kernel_rfl) rfl) (fun _ => (opnd_op 11 55 (by kernel_rfl) rfl)) (fun h => nomatch h) rfl
    · exact owe_move rfl (wants_all rfl) (Or.inl rfl) (opnd_op 12 56 (by kernel_rfl) rfl) rfl
    · exact owe_load rfl (wants_if 13 57 rfl (by kernel_rfl) rfl) rfl (k := 3) rfl (by kernel_rfl) (loads_of strct_rat (shp_pr shp_zn shp_zn)) rfl
    · exact owe_load rfl (wants_if 13 57 rfl (by kernel_rfl) rfl) rfl (k := 0) rfl (by kernel_rfl) (loads_of strct_rat (shp_pr shp_zv shp_zv)) rfl
    · exact owe_load rfl (wants_if 13 57 rfl (by kernel_rfl) rfl) rfl (k := 1) rfl (by kernel_rfl) (loads_of strct_rat (shp_pr shp_zv shp_zv)) rfl
    · exact owe_call2 rfl (wants_if 13 57 rfl (by kernel_rfl) rfl) rfl (opnd_op 15 59 (by kernel_rfl) rfl) (opnd_op 16 60 (by kernel_rfl) rfl) (fresh_rn _ _) rfl (fun args w => by go_simp) (fun w u0 u1 h0 h1 => Gives.cast ((fun w u v h1 h2 => g_rrsub (by first | assumption | decide) (by first | assumption | decide) (by omega) (by omega) (by omega) (by omega) w u v ((pr_imp (fun _ _ h => h) (fun _ _ h => h)) _ _ h1) ((pr_imp (fun _ _ h => h) (fun _ _ h => h)) _ _ h2)) w u0 u1 h0 h1) (by rw [ed]))
    · exact owe_call2 rfl (wants_if 13 57 rfl (by kernel_rfl) rfl) rfl (opnd_op 14 58 (by kernel_rfl) rfl) (opnd_op 17 61 (by kernel_rfl) rfl) (fresh_is _) rfl (fun args w => by go_simp) g_same
    · exact owe_pick rfl (wants_all rfl) rfl (opnd_op 13 57 (by kernel_rfl) rfl) (fun _ => (opnd_op 18 62 (by kernel_rfl) rfl)) (fun h => nomatch h) rfl
    · exact owe_move rfl (wants_all rfl) (Or.inl rfl) (opnd_op 19 63 (by kernel_rfl) rfl) rfl
    · exact owe_call0 rfl (wants_if 20 64 rfl (by kernel_rfl) rfl) rfl  (fresh_is _) rfl (fun args w => by go_simp) g_awake
    · exact owe_pick rfl (wants_all rfl) rfl (opnd_op 20 64 (by kernel_rfl) rfl) (fun _ => (opnd_op 21 65 (by kernel_rfl) rfl)) (fun h => nomatch h) rfl
    · exact owe_move rfl (wants_all rfl) (Or.inr rfl) (opnd_op 22 66 (by kernel_rfl) rfl) rfl
  intro B5 a5 W5 S5
  replace S5 : Sta w 67 [(2, (.box 26 (PR (Zv A k1) (Zv ((D : Int)) k2)))), (3, (.box 26 (PR (Zv N k3) (Zv ((M : Int)) k4)))), (5, (.box 26 ((RN (nR (adN A N D M) (D * M)) (dR (adN A N D M) (D * M))) w.heap.size))), (7, (.box 26 ((RN (nR (adN A (-N) D M) (D * M)) (dR (adN A (-N) D M) (D * M))) w.heap.size)))] [(4, (Is (.bool true))), (24, (Is (.bool false))), (8, (Is (.int .i64 0))), (6, (Is (.int .i64 0)))] B5 a5 W5 := S5
  refine wp_ret ?_
  exact end_one S5 rfl (res_tmp S5 0 4 rfl)

set_option maxHeartbeats 2000000 in
theorem sums_b (w : World) (A N D M : Int) (k1 k2 k3 k4 : Nat) (u v : Value) (h : Rv A D k1 k2 u w) (h' : Rv N M k3 k4 v w) (hk1 : k1 ≤ 8388608) (hk2 : k2 ≤ 8388608) (hk3 : k3 ≤ 8388608) (hk4 : k4 ≤ 8388608) (hmay : (decide (0 < D.sign) && decide (0 < M.sign)) = false) :
    Calls Tryz.prog 3 #[u, v] w (Gives (IS (.bool true)) w) := by
  refine calls_sta (sl := [(0, (PR (Zv A k1) (Zv D k2))), (1, (PR (Zv N k3) (Zv M k4)))]) Tryz.func3 rfl Tryz.ntmps3 (by simp) (args_cons rfl (rv_has h) (args_cons rfl (rv_has h') args_nil)) ?_
  intro a0 S0
  refine wp_stmt_seq [.new (.box 26 (PR (Zv A k1) (Zv D k2))),
      .new (.box 26 (PR (Zv N k3) (Zv M k4))),
      .val (Is (.bool false))] [.inl 0, .inl 1] [.inl 2] follows S0 rfl (by kernel_rfl) ?_ ?_
  · refine ⟨⟨⟨trivial, ?_⟩, ?_⟩, ?_⟩
    · exact owe_box rfl (wants_all rfl) rfl (opnd_slot 0 0 rfl (by kernel_rfl)) rfl (fun ρ w h => box_rat (shp_pr shp_zv shp_zv) ρ _ _ w h)
    · exact owe_box rfl (wants_all rfl) rfl (opnd_slot 1 1 rfl (by kernel_rfl)) rfl (fun ρ w h => box_rat (shp_pr shp_zv shp_zv) ρ _ _ w h)
    · exact owe_move rfl (wants_all rfl) (Or.inr rfl) (opnd_const _) rfl
  intro B1 a1 W1 S1
  replace S1 : Sta w 67 [(2, (.box 26 (PR (Zv A k1) (Zv D k2)))), (3, (.box 26 (PR (Zv N k3) (Zv M k4))))] [(4, (Is (.bool false)))] B1 a1 W1 := S1
  refine wp_stmt_seq [.val (PR (Zv A k1) (Zv D k2)),
      .val (PR (Zv N k3) (Zv M k4)),
      .val ((TWO (IS (.agg #[.bool false, .slice none 0 0, .bool false, .slice none 0 0])) (IS (.int .i64 30))) w.heap.size),
      .val ((TWO (IS (.agg #[.bool false, .slice none 0 0, .bool false, .slice none 0 0])) (IS (.int .i64 30))) w.heap.size),
      .val (Is (.agg #[.bool false, .slice none 0 0, .bool false, .slice none 0 0])),
      .val (Is (.int .i64 30)),
      .new (.box 26 (Is (.agg #[.bool false, .slice none 0 0, .bool false, .slice none 0 0]))),
      .put (.inr 6) (.box 26 (Is (.agg #[.bool false, .slice none 0 0, .bool false, .slice none 0 0]))),
      .val (Is (.int .i64 30))] [.inr 0, .inr 1, .inl 6] [.inl 8, .inr 0] follows S1 rfl (by kernel_rfl) ?_ ?_
  · refine ⟨⟨⟨⟨⟨⟨⟨⟨⟨trivial, ?_⟩, ?_⟩, ?_⟩, ?_⟩, ?_⟩, ?_⟩, ?_⟩, ?_⟩, ?_⟩
    · exact owe_load rfl (wants_all rfl) rfl (k := 0) rfl (by kernel_rfl) (loads_of strct_rat (shp_pr shp_zv shp_zv)) rfl
    · exact owe_load rfl (wants_all rfl) rfl (k := 1) rfl (by kernel_rfl) (loads_of strct_rat (shp_pr shp_zv shp_zv)) rfl
    · exact owe_call2 rfl (wants_all rfl) rfl (opnd_op 0 10 (by kernel_rfl) rfl) (opnd_op 1 11 (by kernel_rfl) rfl) (fresh_two (fresh_is _) (fresh_is _)) rfl (fun args w => by go_simp) (fun w u v h1 h2 => g_ratadd_b hmay (by omega) (by omega) (by omega) (by omega) w u v ((pr_imp (fun _ _ h => h) (fun _ _ h => h)) _ _ h1) ((pr_imp (fun _ _ h => h) (fun _ _ h => h)) _ _ h2))
    · exact owe_move rfl (wants_all rfl) (Or.inl rfl) (opnd_op 2 12 (by kernel_rfl) rfl) rfl
    · exact owe_ext2 rfl (wants_all rfl) rfl (opnd_op 3 9 (by kernel_rfl) rfl) (Or.inl ⟨rfl, rfl⟩) rfl
    · exact owe_ext2 rfl (wants_all rfl) rfl (opnd_op 3 9 (by kernel_rfl) rfl) (Or.inr ⟨rfl, rfl⟩) rfl
    · exact owe_new rfl (wants_all rfl) rfl rfl (fun ρ w => alloc_rat ρ _ w)
    · exact owe_put 6 rfl (wants_all rfl) rfl (by kernel_rfl) rfl (opnd_op 4 13 (by kernel_rfl) rfl) (stores_of strct_rat shp_r0 shp_r0) rfl
    · exact owe_move rfl (wants_all rfl) (Or.inr rfl) (opnd_op 5 14 (by kernel_rfl) rfl) rfl
  intro B2 a2 W2 S2
  replace S2 : Sta w 67 [(2, (.box 26 (PR (Zv A k1) (Zv D k2)))), (3, (.box 26 (PR (Zv N k3) (Zv M k4)))), (5, (.box 26 (Is (.agg #[.bool false, .slice none 0 0, .bool false, .slice none 0 0]))))] [(6, (Is (.int .i64 30))), (4, (Is (.bool false)))] B2 a2 W2 := S2
  refine wp_stmt_seq [.val (PR (Zv A k1) (Zv D k2)),
      .val (PR (Zv N k3) (Zv M k4)),
      .val ((TWO (IS (.agg #[.bool false, .slice none 0 0, .bool false, .slice none 0 0])) (IS (.int .i64 30))) w.heap.size),
      .val ((TWO (IS (.agg #[.bool false, .slice none 0 0, .bool false, .slice none 0 0])) (IS (.int .i64 30))) w.heap.size),
      .val (Is (.agg #[.bool false, .slice none 0 0, .bool false, .slice none 0 0])),
      .val (Is (.int .i64 30)),
      .new (.box 26 (Is (.agg #[.bool false, .slice none 0 0, .bool false, .slice none 0 0]))),
      .put (.inr 6) (.box 26 (Is (.agg #[.bool false, .slice none 0 0, .bool false, .slice none 0 0]))),
      .val (Is (.int .i64 30))] [.inr 0, .inr 1, .inr 2, .inl 6] [.inl 8, .inr 0, .inr 1] follows S2 rfl (by kernel_rfl) ?_ ?_
  · refine ⟨⟨⟨⟨⟨⟨⟨⟨⟨trivial, ?_⟩, ?_⟩, ?_⟩, ?_⟩, ?_⟩, ?_⟩, ?_⟩, ?_⟩, ?_⟩
    · exact owe_load rfl (wants_all rfl) rfl (k := 0) rfl (by kernel_rfl) (loads_of strct_rat (shp_pr shp_zv shp_zv)) rfl
    · exact owe_load rfl (wants_all rfl) rfl (k := 1) rfl (by kernel_rfl) (loads_of strct_rat (shp_pr shp_zv shp_zv)) rfl
    · exact owe_call2 rfl (wants_all rfl) rfl (opnd_op 0 16 (by kernel_rfl) rfl) (opnd_op 1 17 (by kernel_rfl) rfl) (fresh_two (fresh_is _) (fresh_is _)) rfl (fun args w => by go_simp) (fun w u v h1 h2 => g_ratsub_b hmay (by omega) (by omega) (by omega) (by omega) w u v ((pr_imp (fun _ _ h => h) (fun _ _ h => h)) _ _ h1) ((pr_imp (fun _ _ h => h) (fun _ _ h => h)) _ _ h2))
    · exact owe_move rfl (wants_all rfl) (Or.inl rfl) (opnd_op 2 18 (by kernel_rfl) rfl) rfl
    · exact owe_ext2 rfl (wants_all rfl) rfl (opnd_op 3 15 (by kernel_rfl) rfl) (Or.inl ⟨rfl, rfl⟩) rfl
    · exact owe_ext2 rfl (wants_all rfl) rfl (opnd_op 3 15 (by kernel_rfl) rfl) (Or.inr ⟨rfl, rfl⟩) rfl
    · exact owe_new rfl (wants_all rfl) rfl rfl (fun ρ w => alloc_rat ρ _ w)
    · exact owe_put 6 rfl (wants_all rfl) rfl (by kernel_rfl) rfl (opnd_op 4 19 (by kernel_rfl) rfl) (stores_of strct_rat shp_r0 shp_r0) rfl
    · exact owe_move rfl (wants_all rfl) (Or.inr rfl) (opnd_op 5 20 (by kernel_rfl) rfl) rfl
  intro B3 a3 W3 S3
  replace S3 : Sta w 67 [(2, (.box 26 (PR (Zv A k1) (Zv D k2)))), (3, (.box 26 (PR (Zv N k3) (Zv M k4)))), (5, (.box 26 (Is (.agg #[.bool false, .slice none 0 0, .bool false, .slice none 0 0])))), (7, (.box 26 (Is (.agg #[.bool false, .slice none 0 0, .bool false, .slice none 0 0]))))] [(8, (Is (.int .i64 30))), (6, (Is (.int .i64 30))), (4, (Is (.bool false)))] B3 a3 W3 := S3
  refine wp_seq ?_
  refine wp_stmt_seq [.val (PR (Zv A k1) (Zv D k2)),
      .val (PR (Zv N k3) (Zv M k4)),
      .val (Is (.bool false)),
      .val (Is (.bool true))] [.inr 0, .inr 1, .inr 2, .inr 3] [.inl 3, .inr 0, .inr 1, .inr 2] follows S3 rfl (by kernel_rfl) ?_ ?_
  · refine ⟨⟨⟨⟨trivial, ?_⟩, ?_⟩, ?_⟩, ?_⟩
    · exact owe_load rfl (wants_all rfl) rfl (k := 0) rfl (by kernel_rfl) (loads_of strct_rat (shp_pr shp_zv shp_zv)) rfl
    · exact owe_load rfl (wants_all rfl) rfl (k := 1) rfl (by kernel_rfl) (loads_of strct_rat (shp_pr shp_zv shp_zv)) rfl
    · exact owe_call2 rfl (wants_all rfl) rfl (opnd_op 0 21 (by kernel_rfl) rfl) (opnd_op 1 22 (by kernel_rfl) rfl) (fresh_is _) rfl (fun args w => by go_simp) (fun w u v h1 h2 => g_both_f hmay (by omega) (by omega) (by omega) (by omega) w u v ((pr_imp (fun _ _ h => h) (fun _ _ h => h)) _ _ h1) ((pr_imp (fun _ _ h => h) (fun _ _ h => h)) _ _ h2))
    · exact owe_un (x := .tmp 23) rfl (wants_all rfl) rfl (opnd_op 2 23 (by kernel_rfl) rfl) rfl (fun ρ w h1 => run_not ρ _ _ w _ h1)
  intro B4 a4 W4 S4
  replace S4 : Sta w 67 [(2, (.box 26 (PR (Zv A k1) (Zv D k2)))), (3, (.box 26 (PR (Zv N k3) (Zv M k4)))), (5, (.box 26 (Is (.agg #[.bool false, .slice none 0 0, .bool false, .slice none 0 0])))), (7, (.box 26 (Is (.agg #[.bool false, .slice none 0 0, .bool false, .slice none 0 0]))))] [(24, (Is (.bool true))), (8, (Is (.int .i64 30))), (6, (Is (.int .i64 30))), (4, (Is (.bool false)))] B4 a4 W4 := S4
  refine wp_cond_true (S4.bool 0 24 rfl) ?_
  refine wp_stmt_seq [.val (Is (.int .i64 30)),
      .val (Is (.bool true)),
      .val (Is (.bool true)),
      .val (Is (.int .i64 30)),
      .val (Is (.bool true)),
      .val (Is (.bool true)),
      .val (Is (.bool true)),
      .val (Is (.agg #[.bool false, .slice none 0 0, .bool false, .slice none 0 0])),
      .val (Is (.agg #[.bool false, .slice none 0 0, .bool false, .slice none 0 0])),
      .val (Is (.bool true)),
      .val (Is (.bool true)),
      .val (Is (.bool true)),
      .val (Is (.agg #[.bool false, .slice none 0 0, .bool false, .slice none 0 0])),
      .val (Is (.agg #[.bool false, .slice none 0 0, .bool false, .slice none 0 0])),
      .val (Is (.bool true)),
      .val (Is (.bool true)),
      .val (Is (.bool true)),
      .val (Is (.bool true)),
      .val (Is (.bool true)),
      .val (Is (.bool true))] [.inr 0, .inr 1, .inr 2, .inr 3] [.inl 19, .inr 0, .inr 1, .inr 2] follows S4 rfl (by kernel_rfl) ?_ ?_
  · refine ⟨⟨⟨⟨⟨⟨⟨⟨⟨⟨⟨⟨⟨⟨⟨⟨⟨⟨⟨⟨trivial, ?_⟩, ?_⟩, ?_⟩, ?_⟩, ?_⟩, ?_⟩, ?_⟩, ?_⟩, ?_⟩, ?_⟩, ?_⟩, ?_⟩, ?_⟩, ?_⟩, ?_⟩, ?_⟩, ?_⟩, ?_⟩, ?_⟩, ?_⟩
    · exact owe_move rfl (wants_all rfl) (Or.inl rfl) (opnd_slot 2 6 rfl (by kernel_rfl)) rfl
    · exact owe_bin rfl (wants_all rfl) rfl (opnd_op 0 25 (by kernel_rfl) rfl) (opnd_const _) rfl (fun ρ w h1 h2 => by exact run_eql_errno_t ρ _ _ _ w _ _ rfl h1 h2)
    · exact owe_move rfl (wants_all rfl) (Or.inl rfl) (opnd_op 1 26 (by kernel_rfl) rfl) rfl
    · exact owe_move rfl (wants_if 2 27 rfl (by kernel_rfl) rfl) (Or.inl rfl) (opnd_slot 1 8 rfl (by kernel_rfl)) rfl
    · exact owe_bin rfl (wants_if 2 27 rfl (by kernel_rfl) rfl) rfl (opnd_op 3 28 (by kernel_rfl) rfl) (opnd_const _) rfl (fun ρ w h1 h2 => by exact run_eql_errno_t ρ _ _ _ w _ _ rfl h1 h2)
    · exact owe_pick rfl (wants_all rfl) rfl (opnd_op 2 27 (by kernel_rfl) rfl) (fun _ => (opnd_op 4 29 (by kernel_rfl) rfl)) (fun h => nomatch h) rfl
    · exact owe_move rfl (wants_all rfl) (Or.inl rfl) (opnd_op 5 30 (by kernel_rfl) rfl) rfl
    · exact owe_load rfl (wants_if 6 31 rfl (by kernel_rfl) rfl) rfl (k := 2) rfl (by kernel_rfl) (loads_of strct_rat shp_r0) rfl
    · exact owe_build_rat rfl (wants_if 6 31 rfl (by kernel_rfl) rfl) rfl rfl
    · exact owe_call2 rfl (wants_if 6 31 rfl (by kernel_rfl) rfl) rfl (opnd_op 7 32 (by kernel_rfl) rfl) (opnd_op 8 33 (by kernel_rfl) rfl) (fresh_is _) rfl (fun args w => by go_simp) g_same0
    · exact owe_pick rfl (wants_all rfl) rfl (opnd_op 6 31 (by kernel_rfl) rfl) (fun _ => (opnd_op 9 34 (by kernel_rfl) rfl)) (fun h => nomatch h) rfl
    · exact owe_move rfl (wants_all rfl) (Or.inl rfl) (opnd_op 10 35 (by kernel_rfl) rfl) rfl
    · exact owe_load rfl (wants_if 11 36 rfl (by kernel_rfl) rfl) rfl (k := 3) rfl (by kernel_rfl) (loads_of strct_rat shp_r0) rfl
    · exact owe_build_rat rfl (wants_if 11 36 rfl (by kernel_rfl) rfl) rfl rfl
    · exact owe_call2 rfl (wants_if 11 36 rfl (by kernel_rfl) rfl) rfl (opnd_op 12 37 (by kernel_rfl) rfl) (opnd_op 13 38 (by kernel_rfl) rfl) (fresh_is _) rfl (fun args w => by go_simp) g_same0
    · exact owe_pick rfl (wants_all rfl) rfl (opnd_op 11 36 (by kernel_rfl) rfl) (fun _ => (opnd_op 14 39 (by kernel_rfl) rfl)) (fun h => nomatch h) rfl
    · exact owe_move rfl (wants_all rfl) (Or.inl rfl) (opnd_op 15 40 (by kernel_rfl) rfl) rfl
    · exact owe_call0 rfl (wants_if 16 41 rfl (by kernel_rfl) rfl) rfl  (fresh_is _) rfl (fun args w => by go_simp) g_awake
    · exact owe_pick rfl (wants_all rfl) rfl (opnd_op 16 41 (by kernel_rfl) rfl) (fun _ => (opnd_op 17 42 (by kernel_rfl) rfl)) (fun h => nomatch h) rfl
    · exact owe_move rfl (wants_all rfl) (Or.inr rfl) (opnd_op 18 43 (by kernel_rfl) rfl) rfl
  intro B5 a5 W5 S5
  replace S5 : Sta w 67 [(2, (.box 26 (PR (Zv A k1) (Zv D k2)))), (3, (.box 26 (PR (Zv N k3) (Zv M k4)))), (5, (.box 26 (Is (.agg #[.bool false, .slice none 0 0, .bool false, .slice none 0 0])))), (7, (.box 26 (Is (.agg #[.bool false, .slice none 0 0, .bool false, .slice none 0 0]))))] [(4, (Is (.bool true))), (24, (Is (.bool true))), (8, (Is (.int .i64 30))), (6, (Is (.int .i64 30)))] B5 a5 W5 := S5
  refine wp_ret ?_
  refine thenR ?_
  exact end_one S5 rfl (res_tmp S5 0 4 rfl)


theorem sums_all (w : World) (A N D M : Int) (k1 k2 k3 k4 : Nat) (u v : Value) (h : Rv A D k1 k2 u w) (h' : Rv N M k3 k4 v w) (hk1 : k1 ≤ 8388608) (hk2 : k2 ≤ 8388608) (hk3 : k3 ≤ 8388608) (hk4 : k4 ≤ 8388608) : Calls Tryz.prog 3 #[u, v] w (Gives (IS (.bool true)) w) := by
  cases hmay : (decide (0 < D.sign) && decide (0 < M.sign)) with
  | false => exact sums_b w A N D M k1 k2 k3 k4 u v h h' hk1 hk2 hk3 hk4 hmay
  | true =>
    simp only [Bool.and_eq_true] at hmay
    obtain ⟨sD, sM⟩ := hmay
    obtain ⟨D, rfl, hD⟩ := pos_of_sign sD
    obtain ⟨M, rfl, hM⟩ := pos_of_sign sM
    have f := nR_mul (-N) M
    refine sums_w w A N D M k1 k2 k3 k4 u v h h' hk1 hk2 hk3 hk4 hD hM sD sM (low_num (Nat.mul_ne_zero hD (dR_ne hM)) (Nat.mul_ne_zero hD hM) ?_)
    simp only [Int.natCast_mul]
    unfold adN
    generalize nR (-N) M = x at *
    generalize ((dR (-N) M : Nat) : Int) = y at *
    grind
theorem ratsums_walk (w : World) (s1 : Bool) (p1 : Option Addr) (n1 c1 : Nat) (xs1 : List Nat) (t1 : Bool) (q1 : Option Addr) (m1 d1 : Nat) (ys1 : List Nat) (s2 : Bool) (p2 : Option Addr) (n2 c2 : Nat) (xs2 : List Nat) (t2 : Bool) (q2 : Option Addr) (m2 d2 : Nat) (ys2 : List Nat)
    (h1 : Sl w p1 n1 c1 xs1) (g1 : Sl w q1 m1 d1 ys1) (h2 : Sl w p2 n2 c2 xs2) (g2 : Sl w q2 m2 d2 ys2) (b1 : c1 ≤ 1048576) (b2 : d1 ≤ 1048576) (b3 : c2 ≤ 1048576) (b4 : d2 ≤ 1048576) :
    Calls Tryz.prog 3 #[.agg #[.bool s1, .slice p1 n1 c1, .bool t1, .slice q1 m1 d1], .agg #[.bool s2, .slice p2 n2 c2, .bool t2, .slice q2 m2 d2]] w fun e w' => e = .returned (.bool true) ∧ Below w.heap.size w w' := by
  have e1 := h1.cap; have e2 := g1.cap; have e3 := h2.cap; have e4 := g2.cap
  refine (sums_all w _ _ _ _ n1 m1 n2 m2 _ _ (rv_in h1 g1) (rv_in h2 g2) (by omega) (by omega) (by omega) (by omega)).mono ?_
  rintro e w' ⟨v, rfl, hb, hv⟩
  obtain rfl : v = _ := hv
  exact ⟨rfl, hb⟩
end Go.Proofs.YteamecapeghnoaaGreatDoor
