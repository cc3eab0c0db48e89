/-
  RatField's walk: it returns true and writes nothing that was there.
-/
import Derived.Test.YteamecapeghnoaaDoorSetS
namespace Go.Proofs.YteamecapeghnoaaDoor
open Go Go.RowKit Nt
set_option linter.unusedSimpArgs false
set_option linter.unusedVariables false
set_option maxRecDepth 20000

set_option maxHeartbeats 4000000 in
theorem field_w1 (w : World) (A N C : Int) (D M E k1 k2 k3 k4 k5 k6 : Nat) (u v x : Value) (h : Rv A (D : Int) k1 k2 u w) (h' : Rv N (M : Int) k3 k4 v w) (h'' : Rv C (E : Int) k5 k6 x w) (hk1 : k1 ≤ 1048576) (hk2 : k2 ≤ 1048576) (hk3 : k3 ≤ 1048576) (hk4 : k4 ≤ 1048576) (hk5 : k5 ≤ 1048576) (hk6 : k6 ≤ 1048576) (sD : decide (0 < (D : Int).sign) = true) (sM : decide (0 < (M : Int).sign) = true) (sE : decide (0 < (E : Int).sign) = true) (hD : D ≠ 0) (hM : M ≠ 0) (hE : E ≠ 0) (nab : Int) (dab : Nat) (enab : nR (adN A N D M) (D * M) = nab) (edab : dR (adN A N D M) (D * M) = dab) (lnab : (digs nab.natAbs).length ≤ 8388608) (ldab : (digs dab).length ≤ 8388608) (zab : dab ≠ 0) (nbc : Int) (dbc : Nat) (enbc : nR (adN N C M E) (M * E) = nbc) (edbc : dR (adN N C M E) (M * E) = dbc) (lnbc : (digs nbc.natAbs).length ≤ 8388608) (ldbc : (digs dbc).length ≤ 8388608) (zbc : dbc ≠ 0) (nl : Int) (dl : Nat) (enl : nR (adN nab C dab E) (dab * E) = nl) (edl : dR (adN nab C dab E) (dab * E) = dl) (lnl : (digs nl.natAbs).length ≤ 8388608) (ldl : (digs dl).length ≤ 8388608) (zl : dl ≠ 0) (np : Int) (dp : Nat) (enp : nR (A * nbc) (D * dbc) = np) (edp : dR (A * nbc) (D * dbc) = dp) (lnp : (digs np.natAbs).length ≤ 8388608) (ldp : (digs dp).length ≤ 8388608) (zp : dp ≠ 0) (nq : Int) (dq : Nat) (enq : nR (A * N) (D * M) = nq) (edq : dR (A * N) (D * M) = dq) (lnq : (digs nq.natAbs).length ≤ 8388608) (ldq : (digs dq).length ≤ 8388608) (zq : dq ≠ 0) (ns : Int) (ds : Nat) (ens : nR (A * C) (D * E) = ns) (eds : dR (A * C) (D * E) = ds) (lns : (digs ns.natAbs).length ≤ 8388608) (lds : (digs ds).length ≤ 8388608) (zs : ds ≠ 0) (nz : Int) (dz : Nat) (enz : nR (A) (D) = nz) (edz : dR (A) (D) = dz) (lnz : (digs nz.natAbs).length ≤ 8388608) (ldz : (digs dz).length ≤ 8388608) (zz : dz ≠ 0) (eba : RN (nR (adN N A M D) (M * D)) (dR (adN N A M D) (M * D)) = RN nab dab) (er : RN (nR (adN A nbc D dbc) (D * dbc)) (dR (adN A nbc D dbc) (D * dbc)) = RN nl dl) (et : RN (nR (adN nq ns dq ds) (dq * ds)) (dR (adN nq ns dq ds) (dq * ds)) = RN np dp) (ek : RN (nR (adN nab (-N) dab M) (dab * M)) (dR (adN nab (-N) dab M) (dab * M)) = RN nz dz)  (hN : N ≠ 0) (hs : N.sign ≠ 0) (edv : RN (nR (dvN nq N M) (dq * (N).natAbs)) (dR (dvN nq N M) (dq * (N).natAbs)) = RN nz dz) :
    Calls Tryd.prog 3 #[u, v, x] w (Gives (IS (.bool true)) w) := by
  refine calls_sta (sl := [(0, (PR (Zv A k1) (Zv ((D : Int)) k2))), (1, (PR (Zv N k3) (Zv ((M : Int)) k4))), (2, (PR (Zv C k5) (Zv ((E : Int)) k6)))]) Tryd.func3 rfl Tryd.ntmps3 (by simp) (args_cons rfl (rv_has h) (args_cons rfl (rv_has h') (args_cons rfl (rv_has h'') args_nil))) ?_
  intro a0 S0
  refine wp_stmt_seq [.new (.box 26 (PR (Zv A k1) (Zv ((D : Int)) k2))),
      .new (.box 26 (PR (Zv N k3) (Zv ((M : Int)) k4))),
      .new (.box 26 (PR (Zv C k5) (Zv ((E : Int)) k6))),
      .val (Is (.bool false))] [.inl 0, .inl 1, .inl 2] [.inl 3] follows S0 rfl (by kernel_rfl) ?_ ?_
  · refine ⟨⟨⟨⟨trivial, ?_⟩, ?_⟩, ?_⟩, ?_⟩
    · exact owe_box rfl (wants_all rfl) rfl (opnd_slot 0 0 rfl (by kernel_rfl)) rfl (fun ρ w h => box_rat (shp_pr shp_zv shp_zv) ρ _ _ w h)
    · exact owe_box rfl (wants_all rfl) rfl (opnd_slot 1 1 rfl (by kernel_rfl)) rfl (fun ρ w h => box_rat (shp_pr shp_zv shp_zv) ρ _ _ w h)
    · exact owe_box rfl (wants_all rfl) rfl (opnd_slot 2 2 rfl (by kernel_rfl)) rfl (fun ρ w h => box_rat (shp_pr shp_zv shp_zv) ρ _ _ w h)
    · exact owe_move rfl (wants_all rfl) (Or.inr rfl) (opnd_const _) rfl
  intro B1 a1 W1 S1
  replace S1 : Sta w 155 [(3, (.box 26 (PR (Zv A k1) (Zv ((D : Int)) k2)))), (4, (.box 26 (PR (Zv N k3) (Zv ((M : Int)) k4)))), (5, (.box 26 (PR (Zv C k5) (Zv ((E : Int)) k6))))] [(6, (Is (.bool false)))] B1 a1 W1 := S1
  refine wp_seq ?_
  refine wp_stmt_seq [.val (Is (.bool true)),
      .val (Is (.bool false))] [.inr 0, .inr 1, .inr 2] [.inl 1, .inr 0] follows S1 rfl (by kernel_rfl) ?_ ?_
  · refine ⟨⟨trivial, ?_⟩, ?_⟩
    · exact owe_call0 rfl (wants_all rfl) rfl  (fresh_is _) rfl (fun args w => by go_simp) g_awake
    · exact owe_un (x := .tmp 31) rfl (wants_all rfl) rfl (opnd_op 0 31 (by kernel_rfl) rfl) rfl (fun ρ w h1 => run_not ρ _ _ w _ h1)
  intro B2 a2 W2 S2
  replace S2 : Sta w 155 [(3, (.box 26 (PR (Zv A k1) (Zv ((D : Int)) k2)))), (4, (.box 26 (PR (Zv N k3) (Zv ((M : Int)) k4)))), (5, (.box 26 (PR (Zv C k5) (Zv ((E : Int)) k6))))] [(32, (Is (.bool false))), (6, (Is (.bool false)))] B2 a2 W2 := S2
  refine wp_cond_false (S2.bool 0 32 rfl) ?_
  refine wp_skip ?_
  refine thenN ?_
  refine wp_seq ?_
  refine wp_stmt_seq [.val (PR (Zv A k1) (Zv ((D : Int)) k2)),
      .val (PR (Zv N k3) (Zv ((M : Int)) k4)),
      .val (Is (.bool true)),
      .val (Is (.bool false)),
      .val (Is (.bool false)),
      .val (PR (Zv C k5) (Zv ((E : Int)) k6)),
      .val (Is (.bool true)),
      .val (Is (.bool false)),
      .val (Is (.bool false))] [.inr 0, .inr 1, .inr 2] [.inl 8, .inr 0, .inr 1] follows S2 rfl (by kernel_rfl) ?_ ?_
  · refine ⟨⟨⟨⟨⟨⟨⟨⟨⟨trivial, ?_⟩, ?_⟩, ?_⟩, ?_⟩, ?_⟩, ?_⟩, ?_⟩, ?_⟩, ?_⟩
    · exact owe_load rfl (wants_all rfl) rfl (k := 0) rfl (by kernel_rfl) (loads_of strct_rat (shp_pr shp_zv shp_zv)) rfl
    · exact owe_load rfl (wants_all rfl) rfl (k := 1) rfl (by kernel_rfl) (loads_of strct_rat (shp_pr shp_zv shp_zv)) rfl
    · exact owe_call2 rfl (wants_all rfl) rfl (opnd_op 0 33 (by kernel_rfl) rfl) (opnd_op 1 34 (by kernel_rfl) rfl) (fresh_is _) rfl (fun args w => by go_simp) (fun w u0 u1 h0 h1 => Gives.cast ((fun w u v h1 h2 => g_both_t sD sM (by omega) (by omega) (by omega) (by omega) w u v ((pr_imp (fun _ _ h => h) (fun _ _ h => h)) _ _ h1) ((pr_imp (fun _ _ h => h) (fun _ _ h => h)) _ _ h2)) w u0 u1 h0 h1) (by rfl))
    · exact owe_un (x := .tmp 35) rfl (wants_all rfl) rfl (opnd_op 2 35 (by kernel_rfl) rfl) rfl (fun ρ w h1 => run_not ρ _ _ w _ h1)
    · exact owe_move rfl (wants_all rfl) (Or.inl rfl) (opnd_op 3 36 (by kernel_rfl) rfl) rfl
    · exact owe_load rfl (wants_if 4 37 rfl (by kernel_rfl) rfl) rfl (k := 2) rfl (by kernel_rfl) (loads_of strct_rat (shp_pr shp_zv shp_zv)) rfl
    · exact owe_call1 rfl (wants_if 4 37 rfl (by kernel_rfl) rfl) rfl (opnd_op 5 38 (by kernel_rfl) rfl) (fresh_is _) rfl (fun args w => by go_simp) (fun w u0 h0 => Gives.cast ((fun w u h1 => g_rok (by omega) (by omega) w u ((pr_imp (fun _ _ h => h) (fun _ _ h => h)) _ _ h1)) w u0 h0) (by rw [sE]))
    · exact owe_un (x := .tmp 39) rfl (wants_if 4 37 rfl (by kernel_rfl) rfl) rfl (opnd_op 6 39 (by kernel_rfl) rfl) rfl (fun ρ w h1 => run_not ρ _ _ w _ h1)
    · exact owe_pick rfl (wants_all rfl) rfl (opnd_op 4 37 (by kernel_rfl) rfl) (fun h => nomatch h) (fun _ => (opnd_op 7 40 (by kernel_rfl) rfl)) rfl
  intro B3 a3 W3 S3
  replace S3 : Sta w 155 [(3, (.box 26 (PR (Zv A k1) (Zv ((D : Int)) k2)))), (4, (.box 26 (PR (Zv N k3) (Zv ((M : Int)) k4)))), (5, (.box 26 (PR (Zv C k5) (Zv ((E : Int)) k6))))] [(41, (Is (.bool false))), (32, (Is (.bool false))), (6, (Is (.bool false)))] B3 a3 W3 := S3
  refine wp_cond_false (S3.bool 0 41 rfl) ?_
  refine wp_skip ?_
  refine thenN ?_
  refine wp_stmt_seq [.val (PR (Zv A k1) (Zv ((D : Int)) k2)),
      .val (PR (Zv N k3) (Zv ((M : Int)) k4)),
      .val ((TWO (RN nab dab) (IS (.int .i64 0))) w.heap.size),
      .val ((TWO (RN nab dab) (IS (.int .i64 0))) w.heap.size),
      .val ((RN nab dab) w.heap.size),
      .val (Is (.int .i64 0)),
      .new (.box 26 (Is (.agg #[.bool false, .slice none 0 0, .bool false, .slice none 0 0]))),
      .put (.inr 6) (.box 26 ((RN nab dab) w.heap.size)),
      .val (Is (.int .i64 0))] [.inr 0, .inr 1, .inr 2, .inl 6] [.inr 0, .inr 1, .inr 2] follows S3 rfl (by kernel_rfl) ?_ ?_
  · refine ⟨⟨⟨⟨⟨⟨⟨⟨⟨trivial, ?_⟩, ?_⟩, ?_⟩, ?_⟩, ?_⟩, ?_⟩, ?_⟩, ?_⟩, ?_⟩
    · exact owe_load rfl (wants_all rfl) rfl (k := 0) rfl (by kernel_rfl) (loads_of strct_rat (shp_pr shp_zv shp_zv)) rfl
    · exact owe_load rfl (wants_all rfl) rfl (k := 1) rfl (by kernel_rfl) (loads_of strct_rat (shp_pr shp_zv shp_zv)) rfl
    · exact owe_call2 rfl (wants_all rfl) rfl (opnd_op 0 43 (by kernel_rfl) rfl) (opnd_op 1 44 (by kernel_rfl) rfl) (fresh_two (fresh_rn _ _) (fresh_is _)) rfl (fun args w => by go_simp) (fun w u0 u1 h0 h1 => Gives.cast ((fun w u v h1 h2 => g_ratadd (by assumption) (by assumption) (by omega) (by omega) (by omega) (by omega) w u v ((pr_imp (fun _ _ h => h) (fun _ _ h => h)) _ _ h1) ((pr_imp (fun _ _ h => h) (fun _ _ h => h)) _ _ h2)) w u0 u1 h0 h1) (by rw [enab, edab]))
    · exact owe_move rfl (wants_all rfl) (Or.inl rfl) (opnd_op 2 45 (by kernel_rfl) rfl) rfl
    · exact owe_ext2 rfl (wants_all rfl) rfl (opnd_op 3 42 (by kernel_rfl) rfl) (Or.inl ⟨rfl, rfl⟩) rfl
    · exact owe_ext2 rfl (wants_all rfl) rfl (opnd_op 3 42 (by kernel_rfl) rfl) (Or.inr ⟨rfl, rfl⟩) rfl
    · exact owe_new rfl (wants_all rfl) rfl rfl (fun ρ w => alloc_rat ρ _ w)
    · exact owe_put 6 rfl (wants_all rfl) rfl (by kernel_rfl) rfl (opnd_op 4 46 (by kernel_rfl) rfl) (stores_of strct_rat shp_r0 (shp_pr shp_zn shp_zn)) rfl
    · exact owe_move rfl (wants_all rfl) (Or.inr rfl) (opnd_op 5 47 (by kernel_rfl) rfl) rfl
  intro B4 a4 W4 S4
  replace S4 : Sta w 155 [(3, (.box 26 (PR (Zv A k1) (Zv ((D : Int)) k2)))), (4, (.box 26 (PR (Zv N k3) (Zv ((M : Int)) k4)))), (5, (.box 26 (PR (Zv C k5) (Zv ((E : Int)) k6)))), (7, (.box 26 ((RN nab dab) w.heap.size)))] [(41, (Is (.bool false))), (32, (Is (.bool false))), (6, (Is (.bool false)))] B4 a4 W4 := S4
  refine wp_stmt_seq [.val (PR (Zv N k3) (Zv ((M : Int)) k4)),
      .val (PR (Zv A k1) (Zv ((D : Int)) k2)),
      .val ((TWO (RN nab dab) (IS (.int .i64 0))) w.heap.size),
      .val ((TWO (RN nab dab) (IS (.int .i64 0))) w.heap.size),
      .val ((RN nab dab) w.heap.size),
      .val (Is (.int .i64 0)),
      .new (.box 26 (Is (.agg #[.bool false, .slice none 0 0, .bool false, .slice none 0 0]))),
      .put (.inr 6) (.box 26 ((RN nab dab) w.heap.size)),
      .val (Is (.int .i64 0))] [.inr 0, .inr 1, .inr 2, .inr 3, .inl 6] [.inr 0, .inr 1, .inr 2] follows S4 rfl (by kernel_rfl) ?_ ?_
  · refine ⟨⟨⟨⟨⟨⟨⟨⟨⟨trivial, ?_⟩, ?_⟩, ?_⟩, ?_⟩, ?_⟩, ?_⟩, ?_⟩, ?_⟩, ?_⟩
    · exact owe_load rfl (wants_all rfl) rfl (k := 1) rfl (by kernel_rfl) (loads_of strct_rat (shp_pr shp_zv shp_zv)) rfl
    · exact owe_load rfl (wants_all rfl) rfl (k := 0) rfl (by kernel_rfl) (loads_of strct_rat (shp_pr shp_zv shp_zv)) rfl
    · exact owe_call2 rfl (wants_all rfl) rfl (opnd_op 0 49 (by kernel_rfl) rfl) (opnd_op 1 50 (by kernel_rfl) rfl) (fresh_two (fresh_rn _ _) (fresh_is _)) rfl (fun args w => by go_simp) (fun w u0 u1 h0 h1 => Gives.cast ((fun w u v h1 h2 => g_ratadd (by assumption) (by assumption) (by omega) (by omega) (by omega) (by omega) w u v ((pr_imp (fun _ _ h => h) (fun _ _ h => h)) _ _ h1) ((pr_imp (fun _ _ h => h) (fun _ _ h => h)) _ _ h2)) w u0 u1 h0 h1) (by rw [eba]))
    · exact owe_move rfl (wants_all rfl) (Or.inl rfl) (opnd_op 2 51 (by kernel_rfl) rfl) rfl
    · exact owe_ext2 rfl (wants_all rfl) rfl (opnd_op 3 48 (by kernel_rfl) rfl) (Or.inl ⟨rfl, rfl⟩) rfl
    · exact owe_ext2 rfl (wants_all rfl) rfl (opnd_op 3 48 (by kernel_rfl) rfl) (Or.inr ⟨rfl, rfl⟩) rfl
    · exact owe_new rfl (wants_all rfl) rfl rfl (fun ρ w => alloc_rat ρ _ w)
    · exact owe_put 6 rfl (wants_all rfl) rfl (by kernel_rfl) rfl (opnd_op 4 52 (by kernel_rfl) rfl) (stores_of strct_rat shp_r0 (shp_pr shp_zn shp_zn)) rfl
    · exact owe_move rfl (wants_all rfl) (Or.inr rfl) (opnd_op 5 53 (by kernel_rfl) rfl) rfl
  intro B5 a5 W5 S5
  replace S5 : Sta w 155 [(3, (.box 26 (PR (Zv A k1) (Zv ((D : Int)) k2)))), (4, (.box 26 (PR (Zv N k3) (Zv ((M : Int)) k4)))), (5, (.box 26 (PR (Zv C k5) (Zv ((E : Int)) k6)))), (7, (.box 26 ((RN nab dab) w.heap.size))), (9, (.box 26 ((RN nab dab) w.heap.size)))] [(41, (Is (.bool false))), (32, (Is (.bool false))), (6, (Is (.bool false)))] B5 a5 W5 := S5
  refine wp_stmt_seq [.val (PR (Zv N k3) (Zv ((M : Int)) k4)),
      .val (PR (Zv C k5) (Zv ((E : Int)) k6)),
      .val ((TWO (RN nbc dbc) (IS (.int .i64 0))) w.heap.size),
      .val ((TWO (RN nbc dbc) (IS (.int .i64 0))) w.heap.size),
      .val ((RN nbc dbc) w.heap.size),
      .val (Is (.int .i64 0)),
      .new (.box 26 (Is (.agg #[.bool false, .slice none 0 0, .bool false, .slice none 0 0]))),
      .put (.inr 6) (.box 26 ((RN nbc dbc) w.heap.size)),
      .val (Is (.int .i64 0))] [.inr 0, .inr 1, .inr 2, .inr 3, .inr 4, .inl 6] [.inr 0, .inr 1, .inr 2] follows S5 rfl (by kernel_rfl) ?_ ?_
  · refine ⟨⟨⟨⟨⟨⟨⟨⟨⟨trivial, ?_⟩, ?_⟩, ?_⟩, ?_⟩, ?_⟩, ?_⟩, ?_⟩, ?_⟩, ?_⟩
    · exact owe_load rfl (wants_all rfl) rfl (k := 1) rfl (by kernel_rfl) (loads_of strct_rat (shp_pr shp_zv shp_zv)) rfl
    · exact owe_load rfl (wants_all rfl) rfl (k := 2) rfl (by kernel_rfl) (loads_of strct_rat (shp_pr shp_zv shp_zv)) rfl
    · exact owe_call2 rfl (wants_all rfl) rfl (opnd_op 0 55 (by kernel_rfl) rfl) (opnd_op 1 56 (by kernel_rfl) rfl) (fresh_two (fresh_rn _ _) (fresh_is _)) rfl (fun args w => by go_simp) (fun w u0 u1 h0 h1 => Gives.cast ((fun w u v h1 h2 => g_ratadd (by assumption) (by assumption) (by omega) (by omega) (by omega) (by omega) w u v ((pr_imp (fun _ _ h => h) (fun _ _ h => h)) _ _ h1) ((pr_imp (fun _ _ h => h) (fun _ _ h => h)) _ _ h2)) w u0 u1 h0 h1) (by rw [enbc, edbc]))
    · exact owe_move rfl (wants_all rfl) (Or.inl rfl) (opnd_op 2 57 (by kernel_rfl) rfl) rfl
    · exact owe_ext2 rfl (wants_all rfl) rfl (opnd_op 3 54 (by kernel_rfl) rfl) (Or.inl ⟨rfl, rfl⟩) rfl
    · exact owe_ext2 rfl (wants_all rfl) rfl (opnd_op 3 54 (by kernel_rfl) rfl) (Or.inr ⟨rfl, rfl⟩) rfl
    · exact owe_new rfl (wants_all rfl) rfl rfl (fun ρ w => alloc_rat ρ _ w)
    · exact owe_put 6 rfl (wants_all rfl) rfl (by kernel_rfl) rfl (opnd_op 4 58 (by kernel_rfl) rfl) (stores_of strct_rat shp_r0 (shp_pr shp_zn shp_zn)) rfl
    · exact owe_move rfl (wants_all rfl) (Or.inr rfl) (opnd_op 5 59 (by kernel_rfl) rfl) rfl
  intro B6 a6 W6 S6
  replace S6 : Sta w 155 [(3, (.box 26 (PR (Zv A k1) (Zv ((D : Int)) k2)))), (4, (.box 26 (PR (Zv N k3) (Zv ((M : Int)) k4)))), (5, (.box 26 (PR (Zv C k5) (Zv ((E : Int)) k6)))), (7, (.box 26 ((RN nab dab) w.heap.size))), (9, (.box 26 ((RN nab dab) w.heap.size))), (11, (.box 26 ((RN nbc dbc) w.heap.size)))] [(41, (Is (.bool false))), (32, (Is (.bool false))), (6, (Is (.bool false)))] B6 a6 W6 := S6
  refine wp_stmt_seq [.val ((RN nab dab) w.heap.size),
      .val (PR (Zv C k5) (Zv ((E : Int)) k6)),
      .val ((TWO (RN nl dl) (IS (.int .i64 0))) w.heap.size),
      .val ((TWO (RN nl dl) (IS (.int .i64 0))) w.heap.size),
      .val ((RN nl dl) w.heap.size),
      .val (Is (.int .i64 0)),
      .new (.box 26 (Is (.agg #[.bool false, .slice none 0 0, .bool false, .slice none 0 0]))),
      .put (.inr 6) (.box 26 ((RN nl dl) w.heap.size)),
      .val (Is (.int .i64 0))] [.inr 0, .inr 1, .inr 2, .inr 3, .inr 4, .inr 5, .inl 6] [.inr 0, .inr 1, .inr 2] follows S6 rfl (by kernel_rfl) ?_ ?_
  · refine ⟨⟨⟨⟨⟨⟨⟨⟨⟨trivial, ?_⟩, ?_⟩, ?_⟩, ?_⟩, ?_⟩, ?_⟩, ?_⟩, ?_⟩, ?_⟩
    · exact owe_load rfl (wants_all rfl) rfl (k := 3) rfl (by kernel_rfl) (loads_of strct_rat (shp_pr shp_zn shp_zn)) rfl
    · exact owe_load rfl (wants_all rfl) rfl (k := 2) rfl (by kernel_rfl) (loads_of strct_rat (shp_pr shp_zv shp_zv)) rfl
    · exact owe_call2 rfl (wants_all rfl) rfl (opnd_op 0 61 (by kernel_rfl) rfl) (opnd_op 1 62 (by kernel_rfl) rfl) (fresh_two (fresh_rn _ _) (fresh_is _)) rfl (fun args w => by go_simp) (fun w u0 u1 h0 h1 => Gives.cast ((fun w u v h1 h2 => g_ratadd (by assumption) (by assumption) (by omega) (by omega) (by omega) (by omega) w u v ((rn_rv lnab ldab) _ _ h1) ((pr_imp (fun _ _ h => h) (fun _ _ h => h)) _ _ h2)) w u0 u1 h0 h1) (by rw [enl, edl]))
    · exact owe_move rfl (wants_all rfl) (Or.inl rfl) (opnd_op 2 63 (by kernel_rfl) rfl) rfl
    · exact owe_ext2 rfl (wants_all rfl) rfl (opnd_op 3 60 (by kernel_rfl) rfl) (Or.inl ⟨rfl, rfl⟩) rfl
    · exact owe_ext2 rfl (wants_all rfl) rfl (opnd_op 3 60 (by kernel_rfl) rfl) (Or.inr ⟨rfl, rfl⟩) rfl
    · exact owe_new rfl (wants_all rfl) rfl rfl (fun ρ w => alloc_rat ρ _ w)
    · exact owe_put 6 rfl (wants_all rfl) rfl (by kernel_rfl) rfl (opnd_op 4 64 (by kernel_rfl) rfl) (stores_of strct_rat shp_r0 (shp_pr shp_zn shp_zn)) rfl
    · exact owe_move rfl (wants_all rfl) (Or.inr rfl) (opnd_op 5 65 (by kernel_rfl) rfl) rfl
  intro B7 a7 W7 S7
  replace S7 : Sta w 155 [(3, (.box 26 (PR (Zv A k1) (Zv ((D : Int)) k2)))), (4, (.box 26 (PR (Zv N k3) (Zv ((M : Int)) k4)))), (5, (.box 26 (PR (Zv C k5) (Zv ((E : Int)) k6)))), (7, (.box 26 ((RN nab dab) w.heap.size))), (9, (.box 26 ((RN nab dab) w.heap.size))), (11, (.box 26 ((RN nbc dbc) w.heap.size))), (13, (.box 26 ((RN nl dl) w.heap.size)))] [(41, (Is (.bool false))), (32, (Is (.bool false))), (6, (Is (.bool false)))] B7 a7 W7 := S7
  refine wp_stmt_seq [.val (PR (Zv A k1) (Zv ((D : Int)) k2)),
      .val ((RN nbc dbc) w.heap.size),
      .val ((TWO (RN nl dl) (IS (.int .i64 0))) w.heap.size),
      .val ((TWO (RN nl dl) (IS (.int .i64 0))) w.heap.size),
      .val ((RN nl dl) w.heap.size),
      .val (Is (.int .i64 0)),
      .new (.box 26 (Is (.agg #[.bool false, .slice none 0 0, .bool false, .slice none 0 0]))),
      .put (.inr 6) (.box 26 ((RN nl dl) w.heap.size)),
      .val (Is (.int .i64 0))] [.inr 0, .inr 1, .inr 2, .inr 3, .inr 4, .inr 5, .inr 6, .inl 6] [.inr 0, .inr 1, .inr 2] follows S7 rfl (by kernel_rfl) ?_ ?_
  · refine ⟨⟨⟨⟨⟨⟨⟨⟨⟨trivial, ?_⟩, ?_⟩, ?_⟩, ?_⟩, ?_⟩, ?_⟩, ?_⟩, ?_⟩, ?_⟩
    · exact owe_load rfl (wants_all rfl) rfl (k := 0) rfl (by kernel_rfl) (loads_of strct_rat (shp_pr shp_zv shp_zv)) rfl
    · exact owe_load rfl (wants_all rfl) rfl (k := 5) rfl (by kernel_rfl) (loads_of strct_rat (shp_pr shp_zn shp_zn)) rfl
    · exact owe_call2 rfl (wants_all rfl) rfl (opnd_op 0 67 (by kernel_rfl) rfl) (opnd_op 1 68 (by kernel_rfl) rfl) (fresh_two (fresh_rn _ _) (fresh_is _)) rfl (fun args w => by go_simp) (fun w u0 u1 h0 h1 => Gives.cast ((fun w u v h1 h2 => g_ratadd (by assumption) (by assumption) (by omega) (by omega) (by omega) (by omega) w u v ((pr_imp (fun _ _ h => h) (fun _ _ h => h)) _ _ h1) ((rn_rv lnbc ldbc) _ _ h2)) w u0 u1 h0 h1) (by rw [er]))
    · exact owe_move rfl (wants_all rfl) (Or.inl rfl) (opnd_op 2 69 (by kernel_rfl) rfl) rfl
    · exact owe_ext2 rfl (wants_all rfl) rfl (opnd_op 3 66 (by kernel_rfl) rfl) (Or.inl ⟨rfl, rfl⟩) rfl
    · exact owe_ext2 rfl (wants_all rfl) rfl (opnd_op 3 66 (by kernel_rfl) rfl) (Or.inr ⟨rfl, rfl⟩) rfl
    · exact owe_new rfl (wants_all rfl) rfl rfl (fun ρ w => alloc_rat ρ _ w)
    · exact owe_put 6 rfl (wants_all rfl) rfl (by kernel_rfl) rfl (opnd_op 4 70 (by kernel_rfl) rfl) (stores_of strct_rat shp_r0 (shp_pr shp_zn shp_zn)) rfl
    · exact owe_move rfl (wants_all rfl) (Or.inr rfl) (opnd_op 5 71 (by kernel_rfl) rfl) rfl
  intro B8 a8 W8 S8
  replace S8 : Sta w 155 [(3, (.box 26 (PR (Zv A k1) (Zv ((D : Int)) k2)))), (4, (.box 26 (PR (Zv N k3) (Zv ((M : Int)) k4)))), (5, (.box 26 (PR (Zv C k5) (Zv ((E : Int)) k6)))), (7, (.box 26 ((RN nab dab) w.heap.size))), (9, (.box 26 ((RN nab dab) w.heap.size))), (11, (.box 26 ((RN nbc dbc) w.heap.size))), (13, (.box 26 ((RN nl dl) w.heap.size))), (15, (.box 26 ((RN nl dl) w.heap.size)))] [(41, (Is (.bool false))), (32, (Is (.bool false))), (6, (Is (.bool false)))] B8 a8 W8 := S8
  refine wp_stmt_seq [.val (PR (Zv A k1) (Zv ((D : Int)) k2)),
      .val ((RN nbc dbc) w.heap.size),
      .val ((TWO (RN np dp) (IS (.int .i64 0))) w.heap.size),
      .val ((TWO (RN np dp) (IS (.int .i64 0))) w.heap.size),
      .val ((RN np dp) w.heap.size),
      .val (Is (.int .i64 0)),
      .new (.box 26 (Is (.agg #[.bool false, .slice none 0 0, .bool false, .slice none 0 0]))),
      .put (.inr 6) (.box 26 ((RN np dp) w.heap.size)),
      .val (Is (.int .i64 0))] [.inr 0, .inr 1, .inr 2, .inr 3, .inr 4, .inr 5, .inr 6, .inr 7, .inl 6] [.inr 0, .inr 1, .inr 2] follows S8 rfl (by kernel_rfl) ?_ ?_
  · refine ⟨⟨⟨⟨⟨⟨⟨⟨⟨trivial, ?_⟩, ?_⟩, ?_⟩, ?_⟩, ?_⟩, ?_⟩, ?_⟩, ?_⟩, ?_⟩
    · exact owe_load rfl (wants_all rfl) rfl (k := 0) rfl (by kernel_rfl) (loads_of strct_rat (shp_pr shp_zv shp_zv)) rfl
    · exact owe_load rfl (wants_all rfl) rfl (k := 5) rfl (by kernel_rfl) (loads_of strct_rat (shp_pr shp_zn shp_zn)) rfl
    · exact owe_call2 rfl (wants_all rfl) rfl (opnd_op 0 73 (by kernel_rfl) rfl) (opnd_op 1 74 (by kernel_rfl) rfl) (fresh_two (fresh_rn _ _) (fresh_is _)) rfl (fun args w => by go_simp) (fun w u0 u1 h0 h1 => Gives.cast ((fun w u v h1 h2 => g_ratmul (by assumption) (by assumption) (by omega) (by omega) (by omega) (by omega) w u v ((pr_imp (fun _ _ h => h) (fun _ _ h => h)) _ _ h1) ((rn_rv lnbc ldbc) _ _ h2)) w u0 u1 h0 h1) (by rw [enp, edp]))
    · exact owe_move rfl (wants_all rfl) (Or.inl rfl) (opnd_op 2 75 (by kernel_rfl) rfl) rfl
    · exact owe_ext2 rfl (wants_all rfl) rfl (opnd_op 3 72 (by kernel_rfl) rfl) (Or.inl ⟨rfl, rfl⟩) rfl
    · exact owe_ext2 rfl (wants_all rfl) rfl (opnd_op 3 72 (by kernel_rfl) rfl) (Or.inr ⟨rfl, rfl⟩) rfl
    · exact owe_new rfl (wants_all rfl) rfl rfl (fun ρ w => alloc_rat ρ _ w)
    · exact owe_put 6 rfl (wants_all rfl) rfl (by kernel_rfl) rfl (opnd_op 4 76 (by kernel_rfl) rfl) (stores_of strct_rat shp_r0 (shp_pr shp_zn shp_zn)) rfl
    · exact owe_move rfl (wants_all rfl) (Or.inr rfl) (opnd_op 5 77 (by kernel_rfl) rfl) rfl
  intro B9 a9 W9 S9
  replace S9 : Sta w 155 [(3, (.box 26 (PR (Zv A k1) (Zv ((D : Int)) k2)))), (4, (.box 26 (PR (Zv N k3) (Zv ((M : Int)) k4)))), (5, (.box 26 (PR (Zv C k5) (Zv ((E : Int)) k6)))), (7, (.box 26 ((RN nab dab) w.heap.size))), (9, (.box 26 ((RN nab dab) w.heap.size))), (11, (.box 26 ((RN nbc dbc) w.heap.size))), (13, (.box 26 ((RN nl dl) w.heap.size))), (15, (.box 26 ((RN nl dl) w.heap.size))), (17, (.box 26 ((RN np dp) w.heap.size)))] [(41, (Is (.bool false))), (32, (Is (.bool false))), (6, (Is (.bool false)))] B9 a9 W9 := S9
  refine wp_stmt_seq [.val (PR (Zv A k1) (Zv ((D : Int)) k2)),
      .val (PR (Zv N k3) (Zv ((M : Int)) k4)),
      .val ((TWO (RN nq dq) (IS (.int .i64 0))) w.heap.size),
      .val ((TWO (RN nq dq) (IS (.int .i64 0))) w.heap.size),
      .val ((RN nq dq) w.heap.size),
      .val (Is (.int .i64 0)),
      .new (.box 26 (Is (.agg #[.bool false, .slice none 0 0, .bool false, .slice none 0 0]))),
      .put (.inr 6) (.box 26 ((RN nq dq) w.heap.size)),
      .val (Is (.int .i64 0))] [.inr 0, .inr 1, .inr 2, .inr 3, .inr 4, .inr 5, .inr 6, .inr 7, .inr 8, .inl 6] [.inr 0, .inr 1, .inr 2] follows S9 rfl (by kernel_rfl) ?_ ?_
  · refine ⟨⟨⟨⟨⟨⟨⟨⟨⟨trivial, ?_⟩, ?_⟩, ?_⟩, ?_⟩, ?_⟩, ?_⟩, ?_⟩, ?_⟩, ?_⟩
    · exact owe_load rfl (wants_all rfl) rfl (k := 0) rfl (by kernel_rfl) (loads_of strct_rat (shp_pr shp_zv shp_zv)) rfl
    · exact owe_load rfl (wants_all rfl) rfl (k := 1) rfl (by kernel_rfl) (loads_of strct_rat (shp_pr shp_zv shp_zv)) rfl
    · exact owe_call2 rfl (wants_all rfl) rfl (opnd_op 0 79 (by kernel_rfl) rfl) (opnd_op 1 80 (by kernel_rfl) rfl) (fresh_two (fresh_rn _ _) (fresh_is _)) rfl (fun args w => by go_simp) (fun w u0 u1 h0 h1 => Gives.cast ((fun w u v h1 h2 => g_ratmul (by assumption) (by assumption) (by omega) (by omega) (by omega) (by omega) w u v ((pr_imp (fun _ _ h => h) (fun _ _ h => h)) _ _ h1) ((pr_imp (fun _ _ h => h) (fun _ _ h => h)) _ _ h2)) w u0 u1 h0 h1) (by rw [enq, edq]))
    · exact owe_move rfl (wants_all rfl) (Or.inl rfl) (opnd_op 2 81 (by kernel_rfl) rfl) rfl
    · exact owe_ext2 rfl (wants_all rfl) rfl (opnd_op 3 78 (by kernel_rfl) rfl) (Or.inl ⟨rfl, rfl⟩) rfl
    · exact owe_ext2 rfl (wants_all rfl) rfl (opnd_op 3 78 (by kernel_rfl) rfl) (Or.inr ⟨rfl, rfl⟩) rfl
    · exact owe_new rfl (wants_all rfl) rfl rfl (fun ρ w => alloc_rat ρ _ w)
    · exact owe_put 6 rfl (wants_all rfl) rfl (by kernel_rfl) rfl (opnd_op 4 82 (by kernel_rfl) rfl) (stores_of strct_rat shp_r0 (shp_pr shp_zn shp_zn)) rfl
    · exact owe_move rfl (wants_all rfl) (Or.inr rfl) (opnd_op 5 83 (by kernel_rfl) rfl) rfl
  intro B10 a10 W10 S10
  replace S10 : Sta w 155 [(3, (.box 26 (PR (Zv A k1) (Zv ((D : Int)) k2)))), (4, (.box 26 (PR (Zv N k3) (Zv ((M : Int)) k4)))), (5, (.box 26 (PR (Zv C k5) (Zv ((E : Int)) k6)))), (7, (.box 26 ((RN nab dab) w.heap.size))), (9, (.box 26 ((RN nab dab) w.heap.size))), (11, (.box 26 ((RN nbc dbc) w.heap.size))), (13, (.box 26 ((RN nl dl) w.heap.size))), (15, (.box 26 ((RN nl dl) w.heap.size))), (17, (.box 26 ((RN np dp) w.heap.size))), (19, (.box 26 ((RN nq dq) w.heap.size)))] [(41, (Is (.bool false))), (32, (Is (.bool false))), (6, (Is (.bool false)))] B10 a10 W10 := S10
  refine wp_stmt_seq [.val (PR (Zv A k1) (Zv ((D : Int)) k2)),
      .val (PR (Zv C k5) (Zv ((E : Int)) k6)),
      .val ((TWO (RN ns ds) (IS (.int .i64 0))) w.heap.size),
      .val ((TWO (RN ns ds) (IS (.int .i64 0))) w.heap.size),
      .val ((RN ns ds) w.heap.size),
      .val (Is (.int .i64 0)),
      .new (.box 26 (Is (.agg #[.bool false, .slice none 0 0, .bool false, .slice none 0 0]))),
      .put (.inr 6) (.box 26 ((RN ns ds) w.heap.size)),
      .val (Is (.int .i64 0))] [.inr 0, .inr 1, .inr 2, .inr 3, .inr 4, .inr 5, .inr 6, .inr 7, .inr 8, .inr 9, .inl 6] [.inr 0, .inr 1, .inr 2] follows S10 rfl (by kernel_rfl) ?_ ?_
  · refine ⟨⟨⟨⟨⟨⟨⟨⟨⟨trivial, ?_⟩, ?_⟩, ?_⟩, ?_⟩, ?_⟩, ?_⟩, ?_⟩, ?_⟩, ?_⟩
    · exact owe_load rfl (wants_all rfl) rfl (k := 0) rfl (by kernel_rfl) (loads_of strct_rat (shp_pr shp_zv shp_zv)) rfl
    · exact owe_load rfl (wants_all rfl) rfl (k := 2) rfl (by kernel_rfl) (loads_of strct_rat (shp_pr shp_zv shp_zv)) rfl
    · exact owe_call2 rfl (wants_all rfl) rfl (opnd_op 0 85 (by kernel_rfl) rfl) (opnd_op 1 86 (by kernel_rfl) rfl) (fresh_two (fresh_rn _ _) (fresh_is _)) rfl (fun args w => by go_simp) (fun w u0 u1 h0 h1 => Gives.cast ((fun w u v h1 h2 => g_ratmul (by assumption) (by assumption) (by omega) (by omega) (by omega) (by omega) w u v ((pr_imp (fun _ _ h => h) (fun _ _ h => h)) _ _ h1) ((pr_imp (fun _ _ h => h) (fun _ _ h => h)) _ _ h2)) w u0 u1 h0 h1) (by rw [ens, eds]))
    · exact owe_move rfl (wants_all rfl) (Or.inl rfl) (opnd_op 2 87 (by kernel_rfl) rfl) rfl
    · exact owe_ext2 rfl (wants_all rfl) rfl (opnd_op 3 84 (by kernel_rfl) rfl) (Or.inl ⟨rfl, rfl⟩) rfl
    · exact owe_ext2 rfl (wants_all rfl) rfl (opnd_op 3 84 (by kernel_rfl) rfl) (Or.inr ⟨rfl, rfl⟩) rfl
    · exact owe_new rfl (wants_all rfl) rfl rfl (fun ρ w => alloc_rat ρ _ w)
    · exact owe_put 6 rfl (wants_all rfl) rfl (by kernel_rfl) rfl (opnd_op 4 88 (by kernel_rfl) rfl) (stores_of strct_rat shp_r0 (shp_pr shp_zn shp_zn)) rfl
    · exact owe_move rfl (wants_all rfl) (Or.inr rfl) (opnd_op 5 89 (by kernel_rfl) rfl) rfl
  intro B11 a11 W11 S11
  replace S11 : Sta w 155 [(3, (.box 26 (PR (Zv A k1) (Zv ((D : Int)) k2)))), (4, (.box 26 (PR (Zv N k3) (Zv ((M : Int)) k4)))), (5, (.box 26 (PR (Zv C k5) (Zv ((E : Int)) k6)))), (7, (.box 26 ((RN nab dab) w.heap.size))), (9, (.box 26 ((RN nab dab) w.heap.size))), (11, (.box 26 ((RN nbc dbc) w.heap.size))), (13, (.box 26 ((RN nl dl) w.heap.size))), (15, (.box 26 ((RN nl dl) w.heap.size))), (17, (.box 26 ((RN np dp) w.heap.size))), (19, (.box 26 ((RN nq dq) w.heap.size))), (21, (.box 26 ((RN ns ds) w.heap.size)))] [(41, (Is (.bool false))), (32, (Is (.bool false))), (6, (Is (.bool false)))] B11 a11 W11 := S11
  refine wp_stmt_seq [.val ((RN nq dq) w.heap.size),
      .val ((RN ns ds) w.heap.size),
      .val ((TWO (RN np dp) (IS (.int .i64 0))) w.heap.size),
      .val ((TWO (RN np dp) (IS (.int .i64 0))) w.heap.size),
      .val ((RN np dp) w.heap.size),
      .val (Is (.int .i64 0)),
      .new (.box 26 (Is (.agg #[.bool false, .slice none 0 0, .bool false, .slice none 0 0]))),
      .put (.inr 6) (.box 26 ((RN np dp) w.heap.size)),
      .val (Is (.int .i64 0))] [.inr 0, .inr 1, .inr 2, .inr 3, .inr 4, .inr 5, .inr 6, .inr 7, .inr 8, .inr 9, .inr 10, .inl 6] [.inl 8, .inr 0, .inr 1, .inr 2] follows S11 rfl (by kernel_rfl) ?_ ?_
  · refine ⟨⟨⟨⟨⟨⟨⟨⟨⟨trivial, ?_⟩, ?_⟩, ?_⟩, ?_⟩, ?_⟩, ?_⟩, ?_⟩, ?_⟩, ?_⟩
    · exact owe_load rfl (wants_all rfl) rfl (k := 9) rfl (by kernel_rfl) (loads_of strct_rat (shp_pr shp_zn shp_zn)) rfl
    · exact owe_load rfl (wants_all rfl) rfl (k := 10) rfl (by kernel_rfl) (loads_of strct_rat (shp_pr shp_zn shp_zn)) rfl
    · exact owe_call2 rfl (wants_all rfl) rfl (opnd_op 0 91 (by kernel_rfl) rfl) (opnd_op 1 92 (by kernel_rfl) rfl) (fresh_two (fresh_rn _ _) (fresh_is _)) rfl (fun args w => by go_simp) (fun w u0 u1 h0 h1 => Gives.cast ((fun w u v h1 h2 => g_ratadd (by assumption) (by assumption) (by omega) (by omega) (by omega) (by omega) w u v ((rn_rv lnq ldq) _ _ h1) ((rn_rv lns lds) _ _ h2)) w u0 u1 h0 h1) (by rw [et]))
    · exact owe_move rfl (wants_all rfl) (Or.inl rfl) (opnd_op 2 93 (by kernel_rfl) rfl) rfl
    · exact owe_ext2 rfl (wants_all rfl) rfl (opnd_op 3 90 (by kernel_rfl) rfl) (Or.inl ⟨rfl, rfl⟩) rfl
    · exact owe_ext2 rfl (wants_all rfl) rfl (opnd_op 3 90 (by kernel_rfl) rfl) (Or.inr ⟨rfl, rfl⟩) rfl
    · exact owe_new rfl (wants_all rfl) rfl rfl (fun ρ w => alloc_rat ρ _ w)
    · exact owe_put 6 rfl (wants_all rfl) rfl (by kernel_rfl) rfl (opnd_op 4 94 (by kernel_rfl) rfl) (stores_of strct_rat shp_r0 (shp_pr shp_zn shp_zn)) rfl
    · exact owe_move rfl (wants_all rfl) (Or.inr rfl) (opnd_op 5 95 (by kernel_rfl) rfl) rfl
  intro B12 a12 W12 S12
  replace S12 : Sta w 155 [(3, (.box 26 (PR (Zv A k1) (Zv ((D : Int)) k2)))), (4, (.box 26 (PR (Zv N k3) (Zv ((M : Int)) k4)))), (5, (.box 26 (PR (Zv C k5) (Zv ((E : Int)) k6)))), (7, (.box 26 ((RN nab dab) w.heap.size))), (9, (.box 26 ((RN nab dab) w.heap.size))), (11, (.box 26 ((RN nbc dbc) w.heap.size))), (13, (.box 26 ((RN nl dl) w.heap.size))), (15, (.box 26 ((RN nl dl) w.heap.size))), (17, (.box 26 ((RN np dp) w.heap.size))), (19, (.box 26 ((RN nq dq) w.heap.size))), (21, (.box 26 ((RN ns ds) w.heap.size))), (23, (.box 26 ((RN np dp) w.heap.size)))] [(24, (Is (.int .i64 0))), (41, (Is (.bool false))), (32, (Is (.bool false))), (6, (Is (.bool false)))] B12 a12 W12 := S12
  refine wp_seq ?_
  refine wp_stmt_seq [.val (Is (.int .i64 0)),
      .val (Is (.bool false)),
      .val (Is (.bool false)),
      .val ((RN nab dab) w.heap.size),
      .val ((RN nab dab) w.heap.size),
      .val (Is (.bool true)),
      .val (Is (.bool false)),
      .val (Is (.bool false)),
      .val (Is (.bool false)),
      .val ((RN nl dl) w.heap.size),
      .val ((RN nl dl) w.heap.size),
      .val (Is (.bool true)),
      .val (Is (.bool false)),
      .val (Is (.bool false)),
      .val (Is (.bool false)),
      .val ((RN np dp) w.heap.size),
      .val ((RN np dp) w.heap.size),
      .val (Is (.bool true)),
      .val (Is (.bool false)),
      .val (Is (.bool false))] [.inr 0, .inr 1, .inr 2, .inr 3, .inr 4, .inr 5, .inr 6, .inr 7, .inr 8, .inr 9, .inr 10, .inr 11] [.inl 19, .inr 1, .inr 2, .inr 3] follows S12 rfl (by kernel_rfl) ?_ ?_
  · refine ⟨⟨⟨⟨⟨⟨⟨⟨⟨⟨⟨⟨⟨⟨⟨⟨⟨⟨⟨⟨trivial, ?_⟩, ?_⟩, ?_⟩, ?_⟩, ?_⟩, ?_⟩, ?_⟩, ?_⟩, ?_⟩, ?_⟩, ?_⟩, ?_⟩, ?_⟩, ?_⟩, ?_⟩, ?_⟩, ?_⟩, ?_⟩, ?_⟩, ?_⟩
    · exact owe_move rfl (wants_all rfl) (Or.inl rfl) (opnd_slot 0 24 rfl (by kernel_rfl)) rfl
    · exact owe_bin rfl (wants_all rfl) rfl (opnd_op 0 96 (by kernel_rfl) rfl) (opnd_const _) rfl (fun ρ w h1 h2 => by exact run_neq_errno_f ρ _ _ _ w _ _ rfl h1 h2)
    · exact owe_move rfl (wants_all rfl) (Or.inl rfl) (opnd_op 1 97 (by kernel_rfl) rfl) rfl
    · exact owe_load rfl (wants_if 2 98 rfl (by kernel_rfl) rfl) rfl (k := 3) rfl (by kernel_rfl) (loads_of strct_rat (shp_pr shp_zn shp_zn)) rfl
    · exact owe_load rfl (wants_if 2 98 rfl (by kernel_rfl) rfl) rfl (k := 4) rfl (by kernel_rfl) (loads_of strct_rat (shp_pr shp_zn shp_zn)) rfl
    · exact owe_call2 rfl (wants_if 2 98 rfl (by kernel_rfl) rfl) rfl (opnd_op 3 99 (by kernel_rfl) rfl) (opnd_op 4 100 (by kernel_rfl) rfl) (fresh_is _) rfl (fun args w => by go_simp) g_same
    · exact owe_un (x := .tmp 101) rfl (wants_if 2 98 rfl (by kernel_rfl) rfl) rfl (opnd_op 5 101 (by kernel_rfl) rfl) rfl (fun ρ w h1 => run_not ρ _ _ w _ h1)
    · exact owe_pick rfl (wants_all rfl) rfl (opnd_op 2 98 (by kernel_rfl) rfl) (fun h => nomatch h) (fun _ => (opnd_op 6 102 (by kernel_rfl) rfl)) rfl
    · exact owe_move rfl (wants_all rfl) (Or.inl rfl) (opnd_op 7 103 (by kernel_rfl) rfl) rfl
    · exact owe_load rfl (wants_if 8 104 rfl (by kernel_rfl) rfl) rfl (k := 6) rfl (by kernel_rfl) (loads_of strct_rat (shp_pr shp_zn shp_zn)) rfl
    · exact owe_load rfl (wants_if 8 104 rfl (by kernel_rfl) rfl) rfl (k := 7) rfl (by kernel_rfl) (loads_of strct_rat (shp_pr shp_zn shp_zn)) rfl
    · exact owe_call2 rfl (wants_if 8 104 rfl (by kernel_rfl) rfl) rfl (opnd_op 9 105 (by kernel_rfl) rfl) (opnd_op 10 106 (by kernel_rfl) rfl) (fresh_is _) rfl (fun args w => by go_simp) g_same
    · exact owe_un (x := .tmp 107) rfl (wants_if 8 104 rfl (by kernel_rfl) rfl) rfl (opnd_op 11 107 (by kernel_rfl) rfl) rfl (fun ρ w h1 => run_not ρ _ _ w _ h1)
    · exact owe_pick rfl (wants_all rfl) rfl (opnd_op 8 104 (by kernel_rfl) rfl) (fun h => nomatch h) (fun _ => (opnd_op 12 108 (by kernel_rfl) rfl)) rfl
    · exact owe_move rfl (wants_all rfl) (Or.inl rfl) (opnd_op 13 109 (by kernel_rfl) rfl) rfl
    · exact owe_load rfl (wants_if 14 110 rfl (by kernel_rfl) rfl) rfl (k := 8) rfl (by kernel_rfl) (loads_of strct_rat (shp_pr shp_zn shp_zn)) rfl
    · exact owe_load rfl (wants_if 14 110 rfl (by kernel_rfl) rfl) rfl (k := 11) rfl (by kernel_rfl) (loads_of strct_rat (shp_pr shp_zn shp_zn)) rfl
    · exact owe_call2 rfl (wants_if 14 110 rfl (by kernel_rfl) rfl) rfl (opnd_op 15 111 (by kernel_rfl) rfl) (opnd_op 16 112 (by kernel_rfl) rfl) (fresh_is _) rfl (fun args w => by go_simp) g_same
    · exact owe_un (x := .tmp 113) rfl (wants_if 14 110 rfl (by kernel_rfl) rfl) rfl (opnd_op 17 113 (by kernel_rfl) rfl) rfl (fun ρ w h1 => run_not ρ _ _ w _ h1)
    · exact owe_pick rfl (wants_all rfl) rfl (opnd_op 14 110 (by kernel_rfl) rfl) (fun h => nomatch h) (fun _ => (opnd_op 18 114 (by kernel_rfl) rfl)) rfl
  intro B13 a13 W13 S13
  replace S13 : Sta w 155 [(3, (.box 26 (PR (Zv A k1) (Zv ((D : Int)) k2)))), (4, (.box 26 (PR (Zv N k3) (Zv ((M : Int)) k4)))), (5, (.box 26 (PR (Zv C k5) (Zv ((E : Int)) k6)))), (7, (.box 26 ((RN nab dab) w.heap.size))), (9, (.box 26 ((RN nab dab) w.heap.size))), (11, (.box 26 ((RN nbc dbc) w.heap.size))), (13, (.box 26 ((RN nl dl) w.heap.size))), (15, (.box 26 ((RN nl dl) w.heap.size))), (17, (.box 26 ((RN np dp) w.heap.size))), (19, (.box 26 ((RN nq dq) w.heap.size))), (21, (.box 26 ((RN ns ds) w.heap.size))), (23, (.box 26 ((RN np dp) w.heap.size)))] [(115, (Is (.bool false))), (41, (Is (.bool false))), (32, (Is (.bool false))), (6, (Is (.bool false)))] B13 a13 W13 := S13
  refine wp_cond_false (S13.bool 0 115 rfl) ?_
  refine wp_skip ?_
  refine thenN ?_
  refine wp_stmt_seq [.val ((RN nab dab) w.heap.size),
      .val (PR (Zv N k3) (Zv ((M : Int)) k4)),
      .val ((TWO (RN nz dz) (IS (.int .i64 0))) w.heap.size),
      .val ((TWO (RN nz dz) (IS (.int .i64 0))) w.heap.size),
      .val ((RN nz dz) w.heap.size),
      .val (Is (.int .i64 0)),
      .new (.box 26 (Is (.agg #[.bool false, .slice none 0 0, .bool false, .slice none 0 0]))),
      .put (.inr 6) (.box 26 ((RN nz dz) w.heap.size)),
      .val (Is (.int .i64 0))] [.inr 0, .inr 1, .inr 2, .inr 3, .inr 4, .inr 5, .inr 6, .inr 7, .inr 8, .inr 9, .inr 10, .inr 11, .inl 6] [.inl 8, .inr 0, .inr 1, .inr 2, .inr 3] follows S13 rfl (by kernel_rfl) ?_ ?_
  · refine ⟨⟨⟨⟨⟨⟨⟨⟨⟨trivial, ?_⟩, ?_⟩, ?_⟩, ?_⟩, ?_⟩, ?_⟩, ?_⟩, ?_⟩, ?_⟩
    · exact owe_load rfl (wants_all rfl) rfl (k := 3) rfl (by kernel_rfl) (loads_of strct_rat (shp_pr shp_zn shp_zn)) rfl
    · exact owe_load rfl (wants_all rfl) rfl (k := 1) rfl (by kernel_rfl) (loads_of strct_rat (shp_pr shp_zv shp_zv)) rfl
    · exact owe_call2 rfl (wants_all rfl) rfl (opnd_op 0 117 (by kernel_rfl) rfl) (opnd_op 1 118 (by kernel_rfl) rfl) (fresh_two (fresh_rn _ _) (fresh_is _)) rfl (fun args w => by go_simp) (fun w u0 u1 h0 h1 => Gives.cast ((fun w u v h1 h2 => g_ratsub (by assumption) (by assumption) (by omega) (by omega) (by omega) (by omega) w u v ((rn_rv lnab ldab) _ _ h1) ((pr_imp (fun _ _ h => h) (fun _ _ h => h)) _ _ h2)) w u0 u1 h0 h1) (by rw [ek]))
    · exact owe_move rfl (wants_all rfl) (Or.inl rfl) (opnd_op 2 119 (by kernel_rfl) rfl) rfl
    · exact owe_ext2 rfl (wants_all rfl) rfl (opnd_op 3 116 (by kernel_rfl) rfl) (Or.inl ⟨rfl, rfl⟩) rfl
    · exact owe_ext2 rfl (wants_all rfl) rfl (opnd_op 3 116 (by kernel_rfl) rfl) (Or.inr ⟨rfl, rfl⟩) rfl
    · exact owe_new rfl (wants_all rfl) rfl rfl (fun ρ w => alloc_rat ρ _ w)
    · exact owe_put 6 rfl (wants_all rfl) rfl (by kernel_rfl) rfl (opnd_op 4 120 (by kernel_rfl) rfl) (stores_of strct_rat shp_r0 (shp_pr shp_zn shp_zn)) rfl
    · exact owe_move rfl (wants_all rfl) (Or.inr rfl) (opnd_op 5 121 (by kernel_rfl) rfl) rfl
  intro B14 a14 W14 S14
  replace S14 : Sta w 155 [(3, (.box 26 (PR (Zv A k1) (Zv ((D : Int)) k2)))), (4, (.box 26 (PR (Zv N k3) (Zv ((M : Int)) k4)))), (5, (.box 26 (PR (Zv C k5) (Zv ((E : Int)) k6)))), (7, (.box 26 ((RN nab dab) w.heap.size))), (9, (.box 26 ((RN nab dab) w.heap.size))), (11, (.box 26 ((RN nbc dbc) w.heap.size))), (13, (.box 26 ((RN nl dl) w.heap.size))), (15, (.box 26 ((RN nl dl) w.heap.size))), (17, (.box 26 ((RN np dp) w.heap.size))), (19, (.box 26 ((RN nq dq) w.heap.size))), (21, (.box 26 ((RN ns ds) w.heap.size))), (23, (.box 26 ((RN np dp) w.heap.size))), (25, (.box 26 ((RN nz dz) w.heap.size)))] [(26, (Is (.int .i64 0))), (115, (Is (.bool false))), (41, (Is (.bool false))), (32, (Is (.bool false))), (6, (Is (.bool false)))] B14 a14 W14 := S14
  refine wp_stmt_seq [.val (Part a14 3 0),
      .val (Zv A k1),
      .val (Part a14 3 2),
      .val (Zv ((D : Int)) k2),
      .val ((TWO (RN nz dz) (IS (.int .i64 0))) w.heap.size),
      .val ((TWO (RN nz dz) (IS (.int .i64 0))) w.heap.size),
      .val ((RN nz dz) w.heap.size),
      .val (Is (.int .i64 0)),
      .new (.box 26 (Is (.agg #[.bool false, .slice none 0 0, .bool false, .slice none 0 0]))),
      .put (.inr 8) (.box 26 ((RN nz dz) w.heap.size)),
      .val (Is (.int .i64 0))] [.inr 0, .inr 1, .inr 2, .inr 3, .inr 4, .inr 5, .inr 6, .inr 7, .inr 8, .inr 9, .inr 10, .inr 11, .inr 12, .inl 8] [.inr 0, .inr 1, .inr 2, .inr 3, .inr 4] follows S14 rfl (by kernel_rfl) ?_ ?_
  · refine ⟨⟨⟨⟨⟨⟨⟨⟨⟨⟨⟨trivial, ?_⟩, ?_⟩, ?_⟩, ?_⟩, ?_⟩, ?_⟩, ?_⟩, ?_⟩, ?_⟩, ?_⟩, ?_⟩
    · exact owe_part rfl (wants_all rfl) rfl (k := 0) rfl (by kernel_rfl) rfl (fun ρ w b h => part_rat0 ρ _ _ w b 0 h)
    · exact owe_pload rfl (wants_all rfl) rfl (opnd_op 0 123 (by kernel_rfl) rfl) (k := 0) rfl (by kernel_rfl) rfl (fun ρ w b u h1 h2 h3 => pload_num ρ _ _ w b u h1 h2 h3)
    · exact owe_part rfl (wants_all rfl) rfl (k := 0) rfl (by kernel_rfl) rfl (fun ρ w b h => part_rat1 ρ _ _ w b 0 h)
    · exact owe_pload rfl (wants_all rfl) rfl (opnd_op 2 125 (by kernel_rfl) rfl) (k := 0) rfl (by kernel_rfl) rfl (fun ρ w b u h1 h2 h3 => pload_den ρ _ _ w b u h1 h2 h3)
    · exact owe_call2 rfl (wants_all rfl) rfl (opnd_op 1 124 (by kernel_rfl) rfl) (opnd_op 3 126 (by kernel_rfl) rfl) (fresh_two (fresh_rn _ _) (fresh_is _)) rfl (fun args w => by go_simp) (fun w u0 u1 h0 h1 => Gives.cast ((fun w u v h1 h2 => g_ratmake (by assumption) (by omega) (by omega) w u v ((fun _ _ h => h) _ _ h1) ((fun _ _ h => h) _ _ h2)) w u0 u1 h0 h1) (by rw [enz, edz]))
    · exact owe_move rfl (wants_all rfl) (Or.inl rfl) (opnd_op 4 127 (by kernel_rfl) rfl) rfl
    · exact owe_ext2 rfl (wants_all rfl) rfl (opnd_op 5 122 (by kernel_rfl) rfl) (Or.inl ⟨rfl, rfl⟩) rfl
    · exact owe_ext2 rfl (wants_all rfl) rfl (opnd_op 5 122 (by kernel_rfl) rfl) (Or.inr ⟨rfl, rfl⟩) rfl
    · exact owe_new rfl (wants_all rfl) rfl rfl (fun ρ w => alloc_rat ρ _ w)
    · exact owe_put 8 rfl (wants_all rfl) rfl (by kernel_rfl) rfl (opnd_op 6 128 (by kernel_rfl) rfl) (stores_of strct_rat shp_r0 (shp_pr shp_zn shp_zn)) rfl
    · exact owe_move rfl (wants_all rfl) (Or.inr rfl) (opnd_op 7 129 (by kernel_rfl) rfl) rfl
  intro B15 a15 W15 S15
  replace S15 : Sta w 155 [(3, (.box 26 (PR (Zv A k1) (Zv ((D : Int)) k2)))), (4, (.box 26 (PR (Zv N k3) (Zv ((M : Int)) k4)))), (5, (.box 26 (PR (Zv C k5) (Zv ((E : Int)) k6)))), (7, (.box 26 ((RN nab dab) w.heap.size))), (9, (.box 26 ((RN nab dab) w.heap.size))), (11, (.box 26 ((RN nbc dbc) w.heap.size))), (13, (.box 26 ((RN nl dl) w.heap.size))), (15, (.box 26 ((RN nl dl) w.heap.size))), (17, (.box 26 ((RN np dp) w.heap.size))), (19, (.box 26 ((RN nq dq) w.heap.size))), (21, (.box 26 ((RN ns ds) w.heap.size))), (23, (.box 26 ((RN np dp) w.heap.size))), (25, (.box 26 ((RN nz dz) w.heap.size))), (27, (.box 26 ((RN nz dz) w.heap.size)))] [(26, (Is (.int .i64 0))), (115, (Is (.bool false))), (41, (Is (.bool false))), (32, (Is (.bool false))), (6, (Is (.bool false)))] B15 a15 W15 := S15
  refine wp_seq ?_
  refine wp_stmt_seq [.val (Is (.int .i64 0)),
      .val (Is (.bool false)),
      .val (Is (.bool false)),
      .val ((RN nz dz) w.heap.size),
      .val ((RN nz dz) w.heap.size),
      .val (Is (.bool true)),
      .val (Is (.bool false)),
      .val (Is (.bool false))] [.inr 0, .inr 1, .inr 2, .inr 3, .inr 4, .inr 5, .inr 6, .inr 7, .inr 8, .inr 9, .inr 10, .inr 11, .inr 12, .inr 13] [.inl 7, .inr 1, .inr 2, .inr 3, .inr 4] follows S15 rfl (by kernel_rfl) ?_ ?_
  · refine ⟨⟨⟨⟨⟨⟨⟨⟨trivial, ?_⟩, ?_⟩, ?_⟩, ?_⟩, ?_⟩, ?_⟩, ?_⟩, ?_⟩
    · exact owe_move rfl (wants_all rfl) (Or.inl rfl) (opnd_slot 0 26 rfl (by kernel_rfl)) rfl
    · exact owe_bin rfl (wants_all rfl) rfl (opnd_op 0 130 (by kernel_rfl) rfl) (opnd_const _) rfl (fun ρ w h1 h2 => by exact run_neq_errno_f ρ _ _ _ w _ _ rfl h1 h2)
    · exact owe_move rfl (wants_all rfl) (Or.inl rfl) (opnd_op 1 131 (by kernel_rfl) rfl) rfl
    · exact owe_load rfl (wants_if 2 132 rfl (by kernel_rfl) rfl) rfl (k := 12) rfl (by kernel_rfl) (loads_of strct_rat (shp_pr shp_zn shp_zn)) rfl
    · exact owe_load rfl (wants_if 2 132 rfl (by kernel_rfl) rfl) rfl (k := 13) rfl (by kernel_rfl) (loads_of strct_rat (shp_pr shp_zn shp_zn)) rfl
    · exact owe_call2 rfl (wants_if 2 132 rfl (by kernel_rfl) rfl) rfl (opnd_op 3 133 (by kernel_rfl) rfl) (opnd_op 4 134 (by kernel_rfl) rfl) (fresh_is _) rfl (fun args w => by go_simp) g_same
    · exact owe_un (x := .tmp 135) rfl (wants_if 2 132 rfl (by kernel_rfl) rfl) rfl (opnd_op 5 135 (by kernel_rfl) rfl) rfl (fun ρ w h1 => run_not ρ _ _ w _ h1)
    · exact owe_pick rfl (wants_all rfl) rfl (opnd_op 2 132 (by kernel_rfl) rfl) (fun h => nomatch h) (fun _ => (opnd_op 6 136 (by kernel_rfl) rfl)) rfl
  intro B16 a16 W16 S16
  replace S16 : Sta w 155 [(3, (.box 26 (PR (Zv A k1) (Zv ((D : Int)) k2)))), (4, (.box 26 (PR (Zv N k3) (Zv ((M : Int)) k4)))), (5, (.box 26 (PR (Zv C k5) (Zv ((E : Int)) k6)))), (7, (.box 26 ((RN nab dab) w.heap.size))), (9, (.box 26 ((RN nab dab) w.heap.size))), (11, (.box 26 ((RN nbc dbc) w.heap.size))), (13, (.box 26 ((RN nl dl) w.heap.size))), (15, (.box 26 ((RN nl dl) w.heap.size))), (17, (.box 26 ((RN np dp) w.heap.size))), (19, (.box 26 ((RN nq dq) w.heap.size))), (21, (.box 26 ((RN ns ds) w.heap.size))), (23, (.box 26 ((RN np dp) w.heap.size))), (25, (.box 26 ((RN nz dz) w.heap.size))), (27, (.box 26 ((RN nz dz) w.heap.size)))] [(137, (Is (.bool false))), (115, (Is (.bool false))), (41, (Is (.bool false))), (32, (Is (.bool false))), (6, (Is (.bool false)))] B16 a16 W16 := S16
  refine wp_cond_false (S16.bool 0 137 rfl) ?_
  refine wp_skip ?_
  refine thenN ?_
  refine wp_seq ?_
  refine wp_stmt_seq [.val (Part a16 4 0),
      .val (Zv N k3),
      .val (Is (.int .i64 (N).sign)),
      .val (Is (.bool false))] [.inr 0, .inr 1, .inr 2, .inr 3, .inr 4, .inr 5, .inr 6, .inr 7, .inr 8, .inr 9, .inr 10, .inr 11, .inr 12, .inr 13] [.inl 3, .inr 0, .inr 1, .inr 2, .inr 3, .inr 4] follows S16 rfl (by kernel_rfl) ?_ ?_
  · refine ⟨⟨⟨⟨trivial, ?_⟩, ?_⟩, ?_⟩, ?_⟩
    · exact owe_part rfl (wants_all rfl) rfl (k := 1) rfl (by kernel_rfl) rfl (fun ρ w b h => part_rat0 ρ _ _ w b 0 h)
    · exact owe_pload rfl (wants_all rfl) rfl (opnd_op 0 138 (by kernel_rfl) rfl) (k := 1) rfl (by kernel_rfl) rfl (fun ρ w b u h1 h2 h3 => pload_num ρ _ _ w b u h1 h2 h3)
    · exact owe_call1 rfl (wants_all rfl) rfl (opnd_op 1 139 (by kernel_rfl) rfl) (fresh_is _) rfl (fun args w => by go_simp) (fun w u h1 => g_rsign (by omega) w u ((fun _ _ h => h) _ _ h1))
    · exact owe_bin rfl (wants_all rfl) rfl (opnd_op 2 140 (by kernel_rfl) rfl) (opnd_const _) rfl (fun ρ w h1 h2 => by exact run_eql_int_f ρ _ _ _ w _ _ hs h1 h2)
  intro B17 a17 W17 S17
  replace S17 : Sta w 155 [(3, (.box 26 (PR (Zv A k1) (Zv ((D : Int)) k2)))), (4, (.box 26 (PR (Zv N k3) (Zv ((M : Int)) k4)))), (5, (.box 26 (PR (Zv C k5) (Zv ((E : Int)) k6)))), (7, (.box 26 ((RN nab dab) w.heap.size))), (9, (.box 26 ((RN nab dab) w.heap.size))), (11, (.box 26 ((RN nbc dbc) w.heap.size))), (13, (.box 26 ((RN nl dl) w.heap.size))), (15, (.box 26 ((RN nl dl) w.heap.size))), (17, (.box 26 ((RN np dp) w.heap.size))), (19, (.box 26 ((RN nq dq) w.heap.size))), (21, (.box 26 ((RN ns ds) w.heap.size))), (23, (.box 26 ((RN np dp) w.heap.size))), (25, (.box 26 ((RN nz dz) w.heap.size))), (27, (.box 26 ((RN nz dz) w.heap.size)))] [(141, (Is (.bool false))), (137, (Is (.bool false))), (115, (Is (.bool false))), (41, (Is (.bool false))), (32, (Is (.bool false))), (6, (Is (.bool false)))] B17 a17 W17 := S17
  refine wp_cond_false (S17.bool 0 141 rfl) ?_
  refine wp_skip ?_
  refine thenN ?_
  refine wp_stmt_seq [.val ((RN nq dq) w.heap.size),
      .val (PR (Zv N k3) (Zv ((M : Int)) k4)),
      .val ((TWO (RN nz dz) (IS (.int .i64 0))) w.heap.size),
      .val ((TWO (RN nz dz) (IS (.int .i64 0))) w.heap.size),
      .val ((RN nz dz) w.heap.size),
      .val (Is (.int .i64 0)),
      .new (.box 26 (Is (.agg #[.bool false, .slice none 0 0, .bool false, .slice none 0 0]))),
      .put (.inr 6) (.box 26 ((RN nz dz) w.heap.size)),
      .val (Is (.int .i64 0))] [.inr 0, .inr 1, .inr 2, .inr 3, .inr 4, .inr 5, .inr 6, .inr 7, .inr 8, .inr 9, .inr 10, .inr 11, .inr 12, .inr 13, .inl 6] [.inl 8, .inr 0, .inr 1, .inr 2, .inr 3, .inr 4, .inr 5] follows S17 rfl (by kernel_rfl) ?_ ?_
  · refine ⟨⟨⟨⟨⟨⟨⟨⟨⟨trivial, ?_⟩, ?_⟩, ?_⟩, ?_⟩, ?_⟩, ?_⟩, ?_⟩, ?_⟩, ?_⟩
    · exact owe_load rfl (wants_all rfl) rfl (k := 9) rfl (by kernel_rfl) (loads_of strct_rat (shp_pr shp_zn shp_zn)) rfl
    · exact owe_load rfl (wants_all rfl) rfl (k := 1) rfl (by kernel_rfl) (loads_of strct_rat (shp_pr shp_zv shp_zv)) rfl
    · exact owe_call2 rfl (wants_all rfl) rfl (opnd_op 0 143 (by kernel_rfl) rfl) (opnd_op 1 144 (by kernel_rfl) rfl) (fresh_two (fresh_rn _ _) (fresh_is _)) rfl (fun args w => by go_simp) (fun w u0 u1 h0 h1 => Gives.cast ((fun w u v h1 h2 => g_ratdiv (by assumption) (by assumption) hN (by omega) (by omega) (by omega) (by omega) w u v ((rn_rv lnq ldq) _ _ h1) ((pr_imp (fun _ _ h => h) (fun _ _ h => h)) _ _ h2)) w u0 u1 h0 h1) (by rw [edv]))
    · exact owe_move rfl (wants_all rfl) (Or.inl rfl) (opnd_op 2 145 (by kernel_rfl) rfl) rfl
    · exact owe_ext2 rfl (wants_all rfl) rfl (opnd_op 3 142 (by kernel_rfl) rfl) (Or.inl ⟨rfl, rfl⟩) rfl
    · exact owe_ext2 rfl (wants_all rfl) rfl (opnd_op 3 142 (by kernel_rfl) rfl) (Or.inr ⟨rfl, rfl⟩) rfl
    · exact owe_new rfl (wants_all rfl) rfl rfl (fun ρ w => alloc_rat ρ _ w)
    · exact owe_put 6 rfl (wants_all rfl) rfl (by kernel_rfl) rfl (opnd_op 4 146 (by kernel_rfl) rfl) (stores_of strct_rat shp_r0 (shp_pr shp_zn shp_zn)) rfl
    · exact owe_move rfl (wants_all rfl) (Or.inr rfl) (opnd_op 5 147 (by kernel_rfl) rfl) rfl
  intro B18 a18 W18 S18
  replace S18 : Sta w 155 [(3, (.box 26 (PR (Zv A k1) (Zv ((D : Int)) k2)))), (4, (.box 26 (PR (Zv N k3) (Zv ((M : Int)) k4)))), (5, (.box 26 (PR (Zv C k5) (Zv ((E : Int)) k6)))), (7, (.box 26 ((RN nab dab) w.heap.size))), (9, (.box 26 ((RN nab dab) w.heap.size))), (11, (.box 26 ((RN nbc dbc) w.heap.size))), (13, (.box 26 ((RN nl dl) w.heap.size))), (15, (.box 26 ((RN nl dl) w.heap.size))), (17, (.box 26 ((RN np dp) w.heap.size))), (19, (.box 26 ((RN nq dq) w.heap.size))), (21, (.box 26 ((RN ns ds) w.heap.size))), (23, (.box 26 ((RN np dp) w.heap.size))), (25, (.box 26 ((RN nz dz) w.heap.size))), (27, (.box 26 ((RN nz dz) w.heap.size))), (29, (.box 26 ((RN nz dz) w.heap.size)))] [(30, (Is (.int .i64 0))), (141, (Is (.bool false))), (137, (Is (.bool false))), (115, (Is (.bool false))), (41, (Is (.bool false))), (32, (Is (.bool false))), (6, (Is (.bool false)))] B18 a18 W18 := S18
  refine wp_stmt_seq [.val (Is (.int .i64 0)),
      .val (Is (.bool true)),
      .val (Is (.bool true)),
      .val ((RN nz dz) w.heap.size),
      .val ((RN nz dz) w.heap.size),
      .val (Is (.bool true)),
      .val (Is (.bool true)),
      .val (Is (.bool true))] [.inr 0, .inr 1, .inr 2, .inr 3, .inr 4, .inr 5, .inr 6, .inr 7, .inr 8, .inr 9, .inr 10, .inr 11, .inr 12, .inr 13, .inr 14] [.inl 7, .inr 1, .inr 2, .inr 3, .inr 4, .inr 5] follows S18 rfl (by kernel_rfl) ?_ ?_
  · refine ⟨⟨⟨⟨⟨⟨⟨⟨trivial, ?_⟩, ?_⟩, ?_⟩, ?_⟩, ?_⟩, ?_⟩, ?_⟩, ?_⟩
    · exact owe_move rfl (wants_all rfl) (Or.inl rfl) (opnd_slot 0 30 rfl (by kernel_rfl)) rfl
    · exact owe_bin rfl (wants_all rfl) rfl (opnd_op 0 148 (by kernel_rfl) rfl) (opnd_const _) rfl (fun ρ w h1 h2 => by exact run_eql_errno_t ρ _ _ _ w _ _ rfl h1 h2)
    · exact owe_move rfl (wants_all rfl) (Or.inl rfl) (opnd_op 1 149 (by kernel_rfl) rfl) rfl
    · exact owe_load rfl (wants_if 2 150 rfl (by kernel_rfl) rfl) rfl (k := 14) rfl (by kernel_rfl) (loads_of strct_rat (shp_pr shp_zn shp_zn)) rfl
    · exact owe_load rfl (wants_if 2 150 rfl (by kernel_rfl) rfl) rfl (k := 13) rfl (by kernel_rfl) (loads_of strct_rat (shp_pr shp_zn shp_zn)) rfl
    · exact owe_call2 rfl (wants_if 2 150 rfl (by kernel_rfl) rfl) rfl (opnd_op 3 151 (by kernel_rfl) rfl) (opnd_op 4 152 (by kernel_rfl) rfl) (fresh_is _) rfl (fun args w => by go_simp) g_same
    · exact owe_pick rfl (wants_all rfl) rfl (opnd_op 2 150 (by kernel_rfl) rfl) (fun _ => (opnd_op 5 153 (by kernel_rfl) rfl)) (fun h => nomatch h) rfl
    · exact owe_move rfl (wants_all rfl) (Or.inr rfl) (opnd_op 6 154 (by kernel_rfl) rfl) rfl
  intro B19 a19 W19 S19
  replace S19 : Sta w 155 [(3, (.box 26 (PR (Zv A k1) (Zv ((D : Int)) k2)))), (4, (.box 26 (PR (Zv N k3) (Zv ((M : Int)) k4)))), (5, (.box 26 (PR (Zv C k5) (Zv ((E : Int)) k6)))), (7, (.box 26 ((RN nab dab) w.heap.size))), (9, (.box 26 ((RN nab dab) w.heap.size))), (11, (.box 26 ((RN nbc dbc) w.heap.size))), (13, (.box 26 ((RN nl dl) w.heap.size))), (15, (.box 26 ((RN nl dl) w.heap.size))), (17, (.box 26 ((RN np dp) w.heap.size))), (19, (.box 26 ((RN nq dq) w.heap.size))), (21, (.box 26 ((RN ns ds) w.heap.size))), (23, (.box 26 ((RN np dp) w.heap.size))), (25, (.box 26 ((RN nz dz) w.heap.size))), (27, (.box 26 ((RN nz dz) w.heap.size))), (29, (.box 26 ((RN nz dz) w.heap.size)))] [(6, (Is (.bool true))), (141, (Is (.bool false))), (137, (Is (.bool false))), (115, (Is (.bool false))), (41, (Is (.bool false))), (32, (Is (.bool false)))] B19 a19 W19 := S19
  refine wp_ret ?_
  exact end_one S19 rfl (res_tmp S19 0 6 rfl)

set_option maxHeartbeats 4000000 in
theorem field_w0 (w : World) (A N C : Int) (D M E k1 k2 k3 k4 k5 k6 : Nat) (u v x : Value) (h : Rv A (D : Int) k1 k2 u w) (h' : Rv N (M : Int) k3 k4 v w) (h'' : Rv C (E : Int) k5 k6 x w) (hk1 : k1 ≤ 1048576) (hk2 : k2 ≤ 1048576) (hk3 : k3 ≤ 1048576) (hk4 : k4 ≤ 1048576) (hk5 : k5 ≤ 1048576) (hk6 : k6 ≤ 1048576) (sD : decide (0 < (D : Int).sign) = true) (sM : decide (0 < (M : Int).sign) = true) (sE : decide (0 < (E : Int).sign) = true) (hD : D ≠ 0) (hM : M ≠ 0) (hE : E ≠ 0) (nab : Int) (dab : Nat) (enab : nR (adN A N D M) (D * M) = nab) (edab : dR (adN A N D M) (D * M) = dab) (lnab : (digs nab.natAbs).length ≤ 8388608) (ldab : (digs dab).length ≤ 8388608) (zab : dab ≠ 0) (nbc : Int) (dbc : Nat) (enbc : nR (adN N C M E) (M * E) = nbc) (edbc : dR (adN N C M E) (M * E) = dbc) (lnbc : (digs nbc.natAbs).length ≤ 8388608) (ldbc : (digs dbc).length ≤ 8388608) (zbc : dbc ≠ 0) (nl : Int) (dl : Nat) (enl : nR (adN nab C dab E) (dab * E) = nl) (edl : dR (adN nab C dab E) (dab * E) = dl) (lnl : (digs nl.natAbs).length ≤ 8388608) (ldl : (digs dl).length ≤ 8388608) (zl : dl ≠ 0) (np : Int) (dp : Nat) (enp : nR (A * nbc) (D * dbc) = np) (edp : dR (A * nbc) (D * dbc) = dp) (lnp : (digs np.natAbs).length ≤ 8388608) (ldp : (digs dp).length ≤ 8388608) (zp : dp ≠ 0) (nq : Int) (dq : Nat) (enq : nR (A * N) (D * M) = nq) (edq : dR (A * N) (D * M) = dq) (lnq : (digs nq.natAbs).length ≤ 8388608) (ldq : (digs dq).length ≤ 8388608) (zq : dq ≠ 0) (ns : Int) (ds : Nat) (ens : nR (A * C) (D * E) = ns) (eds : dR (A * C) (D * E) = ds) (lns : (digs ns.natAbs).length ≤ 8388608) (lds : (digs ds).length ≤ 8388608) (zs : ds ≠ 0) (nz : Int) (dz : Nat) (enz : nR (A) (D) = nz) (edz : dR (A) (D) = dz) (lnz : (digs nz.natAbs).length ≤ 8388608) (ldz : (digs dz).length ≤ 8388608) (zz : dz ≠ 0) (eba : RN (nR (adN N A M D) (M * D)) (dR (adN N A M D) (M * D)) = RN nab dab) (er : RN (nR (adN A nbc D dbc) (D * dbc)) (dR (adN A nbc D dbc) (D * dbc)) = RN nl dl) (et : RN (nR (adN nq ns dq ds) (dq * ds)) (dR (adN nq ns dq ds) (dq * ds)) = RN np dp) (ek : RN (nR (adN nab (-N) dab M) (dab * M)) (dR (adN nab (-N) dab M) (dab * M)) = RN nz dz)  (hs : N.sign = 0) :
    Calls Tryd.prog 3 #[u, v, x] w (Gives (IS (.bool true)) w) := by
  refine calls_sta (sl := [(0, (PR (Zv A k1) (Zv ((D : Int)) k2))), (1, (PR (Zv N k3) (Zv ((M : Int)) k4))), (2, (PR (Zv C k5) (Zv ((E : Int)) k6)))]) Tryd.func3 rfl Tryd.ntmps3 (by simp) (args_cons rfl (rv_has h) (args_cons rfl (rv_has h') (args_cons rfl (rv_has h'') args_nil))) ?_
  intro a0 S0
  refine wp_stmt_seq [.new (.box 26 (PR (Zv A k1) (Zv ((D : Int)) k2))),
      .new (.box 26 (PR (Zv N k3) (Zv ((M : Int)) k4))),
      .new (.box 26 (PR (Zv C k5) (Zv ((E : Int)) k6))),
      .val (Is (.bool false))] [.inl 0, .inl 1, .inl 2] [.inl 3] follows S0 rfl (by kernel_rfl) ?_ ?_
  · refine ⟨⟨⟨⟨trivial, ?_⟩, ?_⟩, ?_⟩, ?_⟩
    · exact owe_box rfl (wants_all rfl) rfl (opnd_slot 0 0 rfl (by kernel_rfl)) rfl (fun ρ w h => box_rat (shp_pr shp_zv shp_zv) ρ _ _ w h)
    · exact owe_box rfl (wants_all rfl) rfl (opnd_slot 1 1 rfl (by kernel_rfl)) rfl (fun ρ w h => box_rat (shp_pr shp_zv shp_zv) ρ _ _ w h)
    · exact owe_box rfl (wants_all rfl) rfl (opnd_slot 2 2 rfl (by kernel_rfl)) rfl (fun ρ w h => box_rat (shp_pr shp_zv shp_zv) ρ _ _ w h)
    · exact owe_move rfl (wants_all rfl) (Or.inr rfl) (opnd_const _) rfl
  intro B1 a1 W1 S1
  replace S1 : Sta w 155 [(3, (.box 26 (PR (Zv A k1) (Zv ((D : Int)) k2)))), (4, (.box 26 (PR (Zv N k3) (Zv ((M : Int)) k4)))), (5, (.box 26 (PR (Zv C k5) (Zv ((E : Int)) k6))))] [(6, (Is (.bool false)))] B1 a1 W1 := S1
  refine wp_seq ?_
  refine wp_stmt_seq [.val (Is (.bool true)),
      .val (Is (.bool false))] [.inr 0, .inr 1, .inr 2] [.inl 1, .inr 0] follows S1 rfl (by kernel_rfl) ?_ ?_
  · refine ⟨⟨trivial, ?_⟩, ?_⟩
    · exact owe_call0 rfl (wants_all rfl) rfl  (fresh_is _) rfl (fun args w => by go_simp) g_awake
    · exact owe_un (x := .tmp 31) rfl (wants_all rfl) rfl (opnd_op 0 31 (by kernel_rfl) rfl) rfl (fun ρ w h1 => run_not ρ _ _ w _ h1)
  intro B2 a2 W2 S2
  replace S2 : Sta w 155 [(3, (.box 26 (PR (Zv A k1) (Zv ((D : Int)) k2)))), (4, (.box 26 (PR (Zv N k3) (Zv ((M : Int)) k4)))), (5, (.box 26 (PR (Zv C k5) (Zv ((E : Int)) k6))))] [(32, (Is (.bool false))), (6, (Is (.bool false)))] B2 a2 W2 := S2
  refine wp_cond_false (S2.bool 0 32 rfl) ?_
  refine wp_skip ?_
  refine thenN ?_
  refine wp_seq ?_
  refine wp_stmt_seq [.val (PR (Zv A k1) (Zv ((D : Int)) k2)),
      .val (PR (Zv N k3) (Zv ((M : Int)) k4)),
      .val (Is (.bool true)),
      .val (Is (.bool false)),
      .val (Is (.bool false)),
      .val (PR (Zv C k5) (Zv ((E : Int)) k6)),
      .val (Is (.bool true)),
      .val (Is (.bool false)),
      .val (Is (.bool false))] [.inr 0, .inr 1, .inr 2] [.inl 8, .inr 0, .inr 1] follows S2 rfl (by kernel_rfl) ?_ ?_
  · refine ⟨⟨⟨⟨⟨⟨⟨⟨⟨trivial, ?_⟩, ?_⟩, ?_⟩, ?_⟩, ?_⟩, ?_⟩, ?_⟩, ?_⟩, ?_⟩
    · exact owe_load rfl (wants_all rfl) rfl (k := 0) rfl (by kernel_rfl) (loads_of strct_rat (shp_pr shp_zv shp_zv)) rfl
    · exact owe_load rfl (wants_all rfl) rfl (k := 1) rfl (by kernel_rfl) (loads_of strct_rat (shp_pr shp_zv shp_zv)) rfl
    · exact owe_call2 rfl (wants_all rfl) rfl (opnd_op 0 33 (by kernel_rfl) rfl) (opnd_op 1 34 (by kernel_rfl) rfl) (fresh_is _) rfl (fun args w => by go_simp) (fun w u0 u1 h0 h1 => Gives.cast ((fun w u v h1 h2 => g_both_t sD sM (by omega) (by omega) (by omega) (by omega) w u v ((pr_imp (fun _ _ h => h) (fun _ _ h => h)) _ _ h1) ((pr_imp (fun _ _ h => h) (fun _ _ h => h)) _ _ h2)) w u0 u1 h0 h1) (by rfl))
    · exact owe_un (x := .tmp 35) rfl (wants_all rfl) rfl (opnd_op 2 35 (by kernel_rfl) rfl) rfl (fun ρ w h1 => run_not ρ _ _ w _ h1)
    · exact owe_move rfl (wants_all rfl) (Or.inl rfl) (opnd_op 3 36 (by kernel_rfl) rfl) rfl
    · exact owe_load rfl (wants_if 4 37 rfl (by kernel_rfl) rfl) rfl (k := 2) rfl (by kernel_rfl) (loads_of strct_rat (shp_pr shp_zv shp_zv)) rfl
    · exact owe_call1 rfl (wants_if 4 37 rfl (by kernel_rfl) rfl) rfl (opnd_op 5 38 (by kernel_rfl) rfl) (fresh_is _) rfl (fun args w => by go_simp) (fun w u0 h0 => Gives.cast ((fun w u h1 => g_rok (by omega) (by omega) w u ((pr_imp (fun _ _ h => h) (fun _ _ h => h)) _ _ h1)) w u0 h0) (by rw [sE]))
    · exact owe_un (x := .tmp 39) rfl (wants_if 4 37 rfl (by kernel_rfl) rfl) rfl (opnd_op 6 39 (by kernel_rfl) rfl) rfl (fun ρ w h1 => run_not ρ _ _ w _ h1)
    · exact owe_pick rfl (wants_all rfl) rfl (opnd_op 4 37 (by kernel_rfl) rfl) (fun h => nomatch h) (fun _ => (opnd_op 7 40 (by kernel_rfl) rfl)) rfl
  intro B3 a3 W3 S3
  replace S3 : Sta w 155 [(3, (.box 26 (PR (Zv A k1) (Zv ((D : Int)) k2)))), (4, (.box 26 (PR (Zv N k3) (Zv ((M : Int)) k4)))), (5, (.box 26 (PR (Zv C k5) (Zv ((E : Int)) k6))))] [(41, (Is (.bool false))), (32, (Is (.bool false))), (6, (Is (.bool false)))] B3 a3 W3 := S3
  refine wp_cond_false (S3.bool 0 41 rfl) ?_
  refine wp_skip ?_
  refine thenN ?_
  refine wp_stmt_seq [.val (PR (Zv A k1) (Zv ((D : Int)) k2)),
      .val (PR (Zv N k3) (Zv ((M : Int)) k4)),
      .val ((TWO (RN nab dab) (IS (.int .i64 0))) w.heap.size),
      .val ((TWO (RN nab dab) (IS (.int .i64 0))) w.heap.size),
      .val ((RN nab dab) w.heap.size),
      .val (Is (.int .i64 0)),
      .new (.box 26 (Is (.agg #[.bool false, .slice none 0 0, .bool false, .slice none 0 0]))),
      .put (.inr 6) (.box 26 ((RN nab dab) w.heap.size)),
      .val (Is (.int .i64 0))] [.inr 0, .inr 1, .inr 2, .inl 6] [.inr 0, .inr 1, .inr 2] follows S3 rfl (by kernel_rfl) ?_ ?_
  · refine ⟨⟨⟨⟨⟨⟨⟨⟨⟨trivial, ?_⟩, ?_⟩, ?_⟩, ?_⟩, ?_⟩, ?_⟩, ?_⟩, ?_⟩, ?_⟩
    · exact owe_load rfl (wants_all rfl) rfl (k := 0) rfl (by kernel_rfl) (loads_of strct_rat (shp_pr shp_zv shp_zv)) rfl
    · exact owe_load rfl (wants_all rfl) rfl (k := 1) rfl (by kernel_rfl) (loads_of strct_rat (shp_pr shp_zv shp_zv)) rfl
    · exact owe_call2 rfl (wants_all rfl) rfl (opnd_op 0 43 (by kernel_rfl) rfl) (opnd_op 1 44 (by kernel_rfl) rfl) (fresh_two (fresh_rn _ _) (fresh_is _)) rfl (fun args w => by go_simp) (fun w u0 u1 h0 h1 => Gives.cast ((fun w u v h1 h2 => g_ratadd (by assumption) (by assumption) (by omega) (by omega) (by omega) (by omega) w u v ((pr_imp (fun _ _ h => h) (fun _ _ h => h)) _ _ h1) ((pr_imp (fun _ _ h => h) (fun _ _ h => h)) _ _ h2)) w u0 u1 h0 h1) (by rw [enab, edab]))
    · exact owe_move rfl (wants_all rfl) (Or.inl rfl) (opnd_op 2 45 (by kernel_rfl) rfl) rfl
    · exact owe_ext2 rfl (wants_all rfl) rfl (opnd_op 3 42 (by kernel_rfl) rfl) (Or.inl ⟨rfl, rfl⟩) rfl
    · exact owe_ext2 rfl (wants_all rfl) rfl (opnd_op 3 42 (by kernel_rfl) rfl) (Or.inr ⟨rfl, rfl⟩) rfl
    · exact owe_new rfl (wants_all rfl) rfl rfl (fun ρ w => alloc_rat ρ _ w)
    · exact owe_put 6 rfl (wants_all rfl) rfl (by kernel_rfl) rfl (opnd_op 4 46 (by kernel_rfl) rfl) (stores_of strct_rat shp_r0 (shp_pr shp_zn shp_zn)) rfl
    · exact owe_move rfl (wants_all rfl) (Or.inr rfl) (opnd_op 5 47 (by kernel_rfl) rfl) rfl
  intro B4 a4 W4 S4
  replace S4 : Sta w 155 [(3, (.box 26 (PR (Zv A k1) (Zv ((D : Int)) k2)))), (4, (.box 26 (PR (Zv N k3) (Zv ((M : Int)) k4)))), (5, (.box 26 (PR (Zv C k5) (Zv ((E : Int)) k6)))), (7, (.box 26 ((RN nab dab) w.heap.size)))] [(41, (Is (.bool false))), (32, (Is (.bool false))), (6, (Is (.bool false)))] B4 a4 W4 := S4
  refine wp_stmt_seq [.val (PR (Zv N k3) (Zv ((M : Int)) k4)),
      .val (PR (Zv A k1) (Zv ((D : Int)) k2)),
      .val ((TWO (RN nab dab) (IS (.int .i64 0))) w.heap.size),
      .val ((TWO (RN nab dab) (IS (.int .i64 0))) w.heap.size),
      .val ((RN nab dab) w.heap.size),
      .val (Is (.int .i64 0)),
      .new (.box 26 (Is (.agg #[.bool false, .slice none 0 0, .bool false, .slice none 0 0]))),
      .put (.inr 6) (.box 26 ((RN nab dab) w.heap.size)),
      .val (Is (.int .i64 0))] [.inr 0, .inr 1, .inr 2, .inr 3, .inl 6] [.inr 0, .inr 1, .inr 2] follows S4 rfl (by kernel_rfl) ?_ ?_
  · refine ⟨⟨⟨⟨⟨⟨⟨⟨⟨trivial, ?_⟩, ?_⟩, ?_⟩, ?_⟩, ?_⟩, ?_⟩, ?_⟩, ?_⟩, ?_⟩
    · exact owe_load rfl (wants_all rfl) rfl (k := 1) rfl (by kernel_rfl) (loads_of strct_rat (shp_pr shp_zv shp_zv)) rfl
    · exact owe_load rfl (wants_all rfl) rfl (k := 0) rfl (by kernel_rfl) (loads_of strct_rat (shp_pr shp_zv shp_zv)) rfl
    · exact owe_call2 rfl (wants_all rfl) rfl (opnd_op 0 49 (by kernel_rfl) rfl) (opnd_op 1 50 (by kernel_rfl) rfl) (fresh_two (fresh_rn _ _) (fresh_is _)) rfl (fun args w => by go_simp) (fun w u0 u1 h0 h1 => Gives.cast ((fun w u v h1 h2 => g_ratadd (by assumption) (by assumption) (by omega) (by omega) (by omega) (by omega) w u v ((pr_imp (fun _ _ h => h) (fun _ _ h => h)) _ _ h1) ((pr_imp (fun _ _ h => h) (fun _ _ h => h)) _ _ h2)) w u0 u1 h0 h1) (by rw [eba]))
    · exact owe_move rfl (wants_all rfl) (Or.inl rfl) (opnd_op 2 51 (by kernel_rfl) rfl) rfl
    · exact owe_ext2 rfl (wants_all rfl) rfl (opnd_op 3 48 (by kernel_rfl) rfl) (Or.inl ⟨rfl, rfl⟩) rfl
    · exact owe_ext2 rfl (wants_all rfl) rfl (opnd_op 3 48 (by kernel_rfl) rfl) (Or.inr ⟨rfl, rfl⟩) rfl
    · exact owe_new rfl (wants_all rfl) rfl rfl (fun ρ w => alloc_rat ρ _ w)
    · exact owe_put 6 rfl (wants_all rfl) rfl (by kernel_rfl) rfl (opnd_op 4 52 (by kernel_rfl) rfl) (stores_of strct_rat shp_r0 (shp_pr shp_zn shp_zn)) rfl
    · exact owe_move rfl (wants_all rfl) (Or.inr rfl) (opnd_op 5 53 (by kernel_rfl) rfl) rfl
  intro B5 a5 W5 S5
  replace S5 : Sta w 155 [(3, (.box 26 (PR (Zv A k1) (Zv ((D : Int)) k2)))), (4, (.box 26 (PR (Zv N k3) (Zv ((M : Int)) k4)))), (5, (.box 26 (PR (Zv C k5) (Zv ((E : Int)) k6)))), (7, (.box 26 ((RN nab dab) w.heap.size))), (9, (.box 26 ((RN nab dab) w.heap.size)))] [(41, (Is (.bool false))), (32, (Is (.bool false))), (6, (Is (.bool false)))] B5 a5 W5 := S5
  refine wp_stmt_seq [.val (PR (Zv N k3) (Zv ((M : Int)) k4)),
      .val (PR (Zv C k5) (Zv ((E : Int)) k6)),
      .val ((TWO (RN nbc dbc) (IS (.int .i64 0))) w.heap.size),
      .val ((TWO (RN nbc dbc) (IS (.int .i64 0))) w.heap.size),
      .val ((RN nbc dbc) w.heap.size),
      .val (Is (.int .i64 0)),
      .new (.box 26 (Is (.agg #[.bool false, .slice none 0 0, .bool false, .slice none 0 0]))),
      .put (.inr 6) (.box 26 ((RN nbc dbc) w.heap.size)),
      .val (Is (.int .i64 0))] [.inr 0, .inr 1, .inr 2, .inr 3, .inr 4, .inl 6] [.inr 0, .inr 1, .inr 2] follows S5 rfl (by kernel_rfl) ?_ ?_
  · refine ⟨⟨⟨⟨⟨⟨⟨⟨⟨trivial, ?_⟩, ?_⟩, ?_⟩, ?_⟩, ?_⟩, ?_⟩, ?_⟩, ?_⟩, ?_⟩
    · exact owe_load rfl (wants_all rfl) rfl (k := 1) rfl (by kernel_rfl) (loads_of strct_rat (shp_pr shp_zv shp_zv)) rfl
    · exact owe_load rfl (wants_all rfl) rfl (k := 2) rfl (by kernel_rfl) (loads_of strct_rat (shp_pr shp_zv shp_zv)) rfl
    · exact owe_call2 rfl (wants_all rfl) rfl (opnd_op 0 55 (by kernel_rfl) rfl) (opnd_op 1 56 (by kernel_rfl) rfl) (fresh_two (fresh_rn _ _) (fresh_is _)) rfl (fun args w => by go_simp) (fun w u0 u1 h0 h1 => Gives.cast ((fun w u v h1 h2 => g_ratadd (by assumption) (by assumption) (by omega) (by omega) (by omega) (by omega) w u v ((pr_imp (fun _ _ h => h) (fun _ _ h => h)) _ _ h1) ((pr_imp (fun _ _ h => h) (fun _ _ h => h)) _ _ h2)) w u0 u1 h0 h1) (by rw [enbc, edbc]))
    · exact owe_move rfl (wants_all rfl) (Or.inl rfl) (opnd_op 2 57 (by kernel_rfl) rfl) rfl
    · exact owe_ext2 rfl (wants_all rfl) rfl (opnd_op 3 54 (by kernel_rfl) rfl) (Or.inl ⟨rfl, rfl⟩) rfl
    · exact owe_ext2 rfl (wants_all rfl) rfl (opnd_op 3 54 (by kernel_rfl) rfl) (Or.inr ⟨rfl, rfl⟩) rfl
    · exact owe_new rfl (wants_all rfl) rfl rfl (fun ρ w => alloc_rat ρ _ w)
    · exact owe_put 6 rfl (wants_all rfl) rfl (by kernel_rfl) rfl (opnd_op 4 58 (by kernel_rfl) rfl) (stores_of strct_rat shp_r0 (shp_pr shp_zn shp_zn)) rfl
    · exact owe_move rfl (wants_all rfl) (Or.inr rfl) (opnd_op 5 59 (by kernel_rfl) rfl) rfl
  intro B6 a6 W6 S6
  replace S6 : Sta w 155 [(3, (.box 26 (PR (Zv A k1) (Zv ((D : Int)) k2)))), (4, (.box 26 (PR (Zv N k3) (Zv ((M : Int)) k4)))), (5, (.box 26 (PR (Zv C k5) (Zv ((E : Int)) k6)))), (7, (.box 26 ((RN nab dab) w.heap.size))), (9, (.box 26 ((RN nab dab) w.heap.size))), (11, (.box 26 ((RN nbc dbc) w.heap.size)))] [(41, (Is (.bool false))), (32, (Is (.bool false))), (6, (Is (.bool false)))] B6 a6 W6 := S6
  refine wp_stmt_seq [.val ((RN nab dab) w.heap.size),
      .val (PR (Zv C k5) (Zv ((E : Int)) k6)),
      .val ((TWO (RN nl dl) (IS (.int .i64 0))) w.heap.size),
      .val ((TWO (RN nl dl) (IS (.int .i64 0))) w.heap.size),
      .val ((RN nl dl) w.heap.size),
      .val (Is (.int .i64 0)),
      .new (.box 26 (Is (.agg #[.bool false, .slice none 0 0, .bool false, .slice none 0 0]))),
      .put (.inr 6) (.box 26 ((RN nl dl) w.heap.size)),
      .val (Is (.int .i64 0))] [.inr 0, .inr 1, .inr 2, .inr 3, .inr 4, .inr 5, .inl 6] [.inr 0, .inr 1, .inr 2] follows S6 rfl (by kernel_rfl) ?_ ?_
  · refine ⟨⟨⟨⟨⟨⟨⟨⟨⟨trivial, ?_⟩, ?_⟩, ?_⟩, ?_⟩, ?_⟩, ?_⟩, ?_⟩, ?_⟩, ?_⟩
    · exact owe_load rfl (wants_all rfl) rfl (k := 3) rfl (by kernel_rfl) (loads_of strct_rat (shp_pr shp_zn shp_zn)) rfl
    · exact owe_load rfl (wants_all rfl) rfl (k := 2) rfl (by kernel_rfl) (loads_of strct_rat (shp_pr shp_zv shp_zv)) rfl
    · exact owe_call2 rfl (wants_all rfl) rfl (opnd_op 0 61 (by kernel_rfl) rfl) (opnd_op 1 62 (by kernel_rfl) rfl) (fresh_two (fresh_rn _ _) (fresh_is _)) rfl (fun args w => by go_simp) (fun w u0 u1 h0 h1 => Gives.cast ((fun w u v h1 h2 => g_ratadd (by assumption) (by assumption) (by omega) (by omega) (by omega) (by omega) w u v ((rn_rv lnab ldab) _ _ h1) ((pr_imp (fun _ _ h => h) (fun _ _ h => h)) _ _ h2)) w u0 u1 h0 h1) (by rw [enl, edl]))
    · exact owe_move rfl (wants_all rfl) (Or.inl rfl) (opnd_op 2 63 (by kernel_rfl) rfl) rfl
    · exact owe_ext2 rfl (wants_all rfl) rfl (opnd_op 3 60 (by kernel_rfl) rfl) (Or.inl ⟨rfl, rfl⟩) rfl
    · exact owe_ext2 rfl (wants_all rfl) rfl (opnd_op 3 60 (by kernel_rfl) rfl) (Or.inr ⟨rfl, rfl⟩) rfl
    · exact owe_new rfl (wants_all rfl) rfl rfl (fun ρ w => alloc_rat ρ _ w)
    · exact owe_put 6 rfl (wants_all rfl) rfl (by kernel_rfl) rfl (opnd_op 4 64 (by kernel_rfl) rfl) (stores_of strct_rat shp_r0 (shp_pr shp_zn shp_zn)) rfl
    · exact owe_move rfl (wants_all rfl) (Or.inr rfl) (opnd_op 5 65 (by kernel_rfl) rfl) rfl
  intro B7 a7 W7 S7
  replace S7 : Sta w 155 [(3, (.box 26 (PR (Zv A k1) (Zv ((D : Int)) k2)))), (4, (.box 26 (PR (Zv N k3) (Zv ((M : Int)) k4)))), (5, (.box 26 (PR (Zv C k5) (Zv ((E : Int)) k6)))), (7, (.box 26 ((RN nab dab) w.heap.size))), (9, (.box 26 ((RN nab dab) w.heap.size))), (11, (.box 26 ((RN nbc dbc) w.heap.size))), (13, (.box 26 ((RN nl dl) w.heap.size)))] [(41, (Is (.bool false))), (32, (Is (.bool false))), (6, (Is (.bool false)))] B7 a7 W7 := S7
  refine wp_stmt_seq [.val (PR (Zv A k1) (Zv ((D : Int)) k2)),
      .val ((RN nbc dbc) w.heap.size),
      .val ((TWO (RN nl dl) (IS (.int .i64 0))) w.heap.size),
      .val ((TWO (RN nl dl) (IS (.int .i64 0))) w.heap.size),
      .val ((RN nl dl) w.heap.size),
      .val (Is (.int .i64 0)),
      .new (.box 26 (Is (.agg #[.bool false, .slice none 0 0, .bool false, .slice none 0 0]))),
      .put (.inr 6) (.box 26 ((RN nl dl) w.heap.size)),
      .val (Is (.int .i64 0))] [.inr 0, .inr 1, .inr 2, .inr 3, .inr 4, .inr 5, .inr 6, .inl 6] [.inr 0, .inr 1, .inr 2] follows S7 rfl (by kernel_rfl) ?_ ?_
  · refine ⟨⟨⟨⟨⟨⟨⟨⟨⟨trivial, ?_⟩, ?_⟩, ?_⟩, ?_⟩, ?_⟩, ?_⟩, ?_⟩, ?_⟩, ?_⟩
    · exact owe_load rfl (wants_all rfl) rfl (k := 0) rfl (by kernel_rfl) (loads_of strct_rat (shp_pr shp_zv shp_zv)) rfl
    · exact owe_load rfl (wants_all rfl) rfl (k := 5) rfl (by kernel_rfl) (loads_of strct_rat (shp_pr shp_zn shp_zn)) rfl
    · exact owe_call2 rfl (wants_all rfl) rfl (opnd_op 0 67 (by kernel_rfl) rfl) (opnd_op 1 68 (by kernel_rfl) rfl) (fresh_two (fresh_rn _ _) (fresh_is _)) rfl (fun args w => by go_simp) (fun w u0 u1 h0 h1 => Gives.cast ((fun w u v h1 h2 => g_ratadd (by assumption) (by assumption) (by omega) (by omega) (by omega) (by omega) w u v ((pr_imp (fun _ _ h => h) (fun _ _ h => h)) _ _ h1) ((rn_rv lnbc ldbc) _ _ h2)) w u0 u1 h0 h1) (by rw [er]))
    · exact owe_move rfl (wants_all rfl) (Or.inl rfl) (opnd_op 2 69 (by kernel_rfl) rfl) rfl
    · exact owe_ext2 rfl (wants_all rfl) rfl (opnd_op 3 66 (by kernel_rfl) rfl) (Or.inl ⟨rfl, rfl⟩) rfl
    · exact owe_ext2 rfl (wants_all rfl) rfl (opnd_op 3 66 (by kernel_rfl) rfl) (Or.inr ⟨rfl, rfl⟩) rfl
    · exact owe_new rfl (wants_all rfl) rfl rfl (fun ρ w => alloc_rat ρ _ w)
    · exact owe_put 6 rfl (wants_all rfl) rfl (by kernel_rfl) rfl (opnd_op 4 70 (by kernel_rfl) rfl) (stores_of strct_rat shp_r0 (shp_pr shp_zn shp_zn)) rfl
    · exact owe_move rfl (wants_all rfl) (Or.inr rfl) (opnd_op 5 71 (by kernel_rfl) rfl) rfl
  intro B8 a8 W8 S8
  replace S8 : Sta w 155 [(3, (.box 26 (PR (Zv A k1) (Zv ((D : Int)) k2)))), (4, (.box 26 (PR (Zv N k3) (Zv ((M : Int)) k4)))), (5, (.box 26 (PR (Zv C k5) (Zv ((E : Int)) k6)))), (7, (.box 26 ((RN nab dab) w.heap.size))), (9, (.box 26 ((RN nab dab) w.heap.size))), (11, (.box 26 ((RN nbc dbc) w.heap.size))), (13, (.box 26 ((RN nl dl) w.heap.size))), (15, (.box 26 ((RN nl dl) w.heap.size)))] [(41, (Is (.bool false))), (32, (Is (.bool false))), (6, (Is (.bool false)))] B8 a8 W8 := S8
  refine wp_stmt_seq [.val (PR (Zv A k1) (Zv ((D : Int)) k2)),
      .val ((RN nbc dbc) w.heap.size),
      .val ((TWO (RN np dp) (IS (.int .i64 0))) w.heap.size),
      .val ((TWO (RN np dp) (IS (.int .i64 0))) w.heap.size),
      .val ((RN np dp) w.heap.size),
      .val (Is (.int .i64 0)),
      .new (.box 26 (Is (.agg #[.bool false, .slice none 0 0, .bool false, .slice none 0 0]))),
      .put (.inr 6) (.box 26 ((RN np dp) w.heap.size)),
      .val (Is (.int .i64 0))] [.inr 0, .inr 1, .inr 2, .inr 3, .inr 4, .inr 5, .inr 6, .inr 7, .inl 6] [.inr 0, .inr 1, .inr 2] follows S8 rfl (by kernel_rfl) ?_ ?_
  · refine ⟨⟨⟨⟨⟨⟨⟨⟨⟨trivial, ?_⟩, ?_⟩, ?_⟩, ?_⟩, ?_⟩, ?_⟩, ?_⟩, ?_⟩, ?_⟩
    · exact owe_load rfl (wants_all rfl) rfl (k := 0) rfl (by kernel_rfl) (loads_of strct_rat (shp_pr shp_zv shp_zv)) rfl
    · exact owe_load rfl (wants_all rfl) rfl (k := 5) rfl (by kernel_rfl) (loads_of strct_rat (shp_pr shp_zn shp_zn)) rfl
    · exact owe_call2 rfl (wants_all rfl) rfl (opnd_op 0 73 (by kernel_rfl) rfl) (opnd_op 1 74 (by kernel_rfl) rfl) (fresh_two (fresh_rn _ _) (fresh_is _)) rfl (fun args w => by go_simp) (fun w u0 u1 h0 h1 => Gives.cast ((fun w u v h1 h2 => g_ratmul (by assumption) (by assumption) (by omega) (by omega) (by omega) (by omega) w u v ((pr_imp (fun _ _ h => h) (fun _ _ h => h)) _ _ h1) ((rn_rv lnbc ldbc) _ _ h2)) w u0 u1 h0 h1) (by rw [enp, edp]))
    · exact owe_move rfl (wants_all rfl) (Or.inl rfl) (opnd_op 2 75 (by kernel_rfl) rfl) rfl
    · exact owe_ext2 rfl (wants_all rfl) rfl (opnd_op 3 72 (by kernel_rfl) rfl) (Or.inl ⟨rfl, rfl⟩) rfl
    · exact owe_ext2 rfl (wants_all rfl) rfl (opnd_op 3 72 (by kernel_rfl) rfl) (Or.inr ⟨rfl, rfl⟩) rfl
    · exact owe_new rfl (wants_all rfl) rfl rfl (fun ρ w => alloc_rat ρ _ w)
    · exact owe_put 6 rfl (wants_all rfl) rfl (by kernel_rfl) rfl (opnd_op 4 76 (by kernel_rfl) rfl) (stores_of strct_rat shp_r0 (shp_pr shp_zn shp_zn)) rfl
    · exact owe_move rfl (wants_all rfl) (Or.inr rfl) (opnd_op 5 77 (by kernel_rfl) rfl) rfl
  intro B9 a9 W9 S9
  replace S9 : Sta w 155 [(3, (.box 26 (PR (Zv A k1) (Zv ((D : Int)) k2)))), (4, (.box 26 (PR (Zv N k3) (Zv ((M : Int)) k4)))), (5, (.box 26 (PR (Zv C k5) (Zv ((E : Int)) k6)))), (7, (.box 26 ((RN nab dab) w.heap.size))), (9, (.box 26 ((RN nab dab) w.heap.size))), (11, (.box 26 ((RN nbc dbc) w.heap.size))), (13, (.box 26 ((RN nl dl) w.heap.size))), (15, (.box 26 ((RN nl dl) w.heap.size))), (17, (.box 26 ((RN np dp) w.heap.size)))] [(41, (Is (.bool false))), (32, (Is (.bool false))), (6, (Is (.bool false)))] B9 a9 W9 := S9
  refine wp_stmt_seq [.val (PR (Zv A k1) (Zv ((D : Int)) k2)),
      .val (PR (Zv N k3) (Zv ((M : Int)) k4)),
      .val ((TWO (RN nq dq) (IS (.int .i64 0))) w.heap.size),
      .val ((TWO (RN nq dq) (IS (.int .i64 0))) w.heap.size),
      .val ((RN nq dq) w.heap.size),
      .val (Is (.int .i64 0)),
      .new (.box 26 (Is (.agg #[.bool false, .slice none 0 0, .bool false, .slice none 0 0]))),
      .put (.inr 6) (.box 26 ((RN nq dq) w.heap.size)),
      .val (Is (.int .i64 0))] [.inr 0, .inr 1, .inr 2, .inr 3, .inr 4, .inr 5, .inr 6, .inr 7, .inr 8, .inl 6] [.inr 0, .inr 1, .inr 2] follows S9 rfl (by kernel_rfl) ?_ ?_
  · refine ⟨⟨⟨⟨⟨⟨⟨⟨⟨trivial, ?_⟩, ?_⟩, ?_⟩, ?_⟩, ?_⟩, ?_⟩, ?_⟩, ?_⟩, ?_⟩
    · exact owe_load rfl (wants_all rfl) rfl (k := 0) rfl (by kernel_rfl) (loads_of strct_rat (shp_pr shp_zv shp_zv)) rfl
    · exact owe_load rfl (wants_all rfl) rfl (k := 1) rfl (by kernel_rfl) (loads_of strct_rat (shp_pr shp_zv shp_zv)) rfl
    · exact owe_call2 rfl (wants_all rfl) rfl (opnd_op 0 79 (by kernel_rfl) rfl) (opnd_op 1 80 (by kernel_rfl) rfl) (fresh_two (fresh_rn _ _) (fresh_is _)) rfl (fun args w => by go_simp) (fun w u0 u1 h0 h1 => Gives.cast ((fun w u v h1 h2 => g_ratmul (by assumption) (by assumption) (by omega) (by omega) (by omega) (by omega) w u v ((pr_imp (fun _ _ h => h) (fun _ _ h => h)) _ _ h1) ((pr_imp (fun _ _ h => h) (fun _ _ h => h)) _ _ h2)) w u0 u1 h0 h1) (by rw [enq, edq]))
    · exact owe_move rfl (wants_all rfl) (Or.inl rfl) (opnd_op 2 81 (by kernel_rfl) rfl) rfl
    · exact owe_ext2 rfl (wants_all rfl) rfl (opnd_op 3 78 (by kernel_rfl) rfl) (Or.inl ⟨rfl, rfl⟩) rfl
    · exact owe_ext2 rfl (wants_all rfl) rfl (opnd_op 3 78 (by kernel_rfl) rfl) (Or.inr ⟨rfl, rfl⟩) rfl
    · exact owe_new rfl (wants_all rfl) rfl rfl (fun ρ w => alloc_rat ρ _ w)
    · exact owe_put 6 rfl (wants_all rfl) rfl (by kernel_rfl) rfl (opnd_op 4 82 (by kernel_rfl) rfl) (stores_of strct_rat shp_r0 (shp_pr shp_zn shp_zn)) rfl
    · exact owe_move rfl (wants_all rfl) (Or.inr rfl) (opnd_op 5 83 (by kernel_rfl) rfl) rfl
  intro B10 a10 W10 S10
  replace S10 : Sta w 155 [(3, (.box 26 (PR (Zv A k1) (Zv ((D : Int)) k2)))), (4, (.box 26 (PR (Zv N k3) (Zv ((M : Int)) k4)))), (5, (.box 26 (PR (Zv C k5) (Zv ((E : Int)) k6)))), (7, (.box 26 ((RN nab dab) w.heap.size))), (9, (.box 26 ((RN nab dab) w.heap.size))), (11, (.box 26 ((RN nbc dbc) w.heap.size))), (13, (.box 26 ((RN nl dl) w.heap.size))), (15, (.box 26 ((RN nl dl) w.heap.size))), (17, (.box 26 ((RN np dp) w.heap.size))), (19, (.box 26 ((RN nq dq) w.heap.size)))] [(41, (Is (.bool false))), (32, (Is (.bool false))), (6, (Is (.bool false)))] B10 a10 W10 := S10
  refine wp_stmt_seq [.val (PR (Zv A k1) (Zv ((D : Int)) k2)),
      .val (PR (Zv C k5) (Zv ((E : Int)) k6)),
      .val ((TWO (RN ns ds) (IS (.int .i64 0))) w.heap.size),
      .val ((TWO (RN ns ds) (IS (.int .i64 0))) w.heap.size),
      .val ((RN ns ds) w.heap.size),
      .val (Is (.int .i64 0)),
      .new (.box 26 (Is (.agg #[.bool false, .slice none 0 0, .bool false, .slice none 0 0]))),
      .put (.inr 6) (.box 26 ((RN ns ds) w.heap.size)),
      .val (Is (.int .i64 0))] [.inr 0, .inr 1, .inr 2, .inr 3, .inr 4, .inr 5, .inr 6, .inr 7, .inr 8, .inr 9, .inl 6] [.inr 0, .inr 1, .inr 2] follows S10 rfl (by kernel_rfl) ?_ ?_
  · refine ⟨⟨⟨⟨⟨⟨⟨⟨⟨trivial, ?_⟩, ?_⟩, ?_⟩, ?_⟩, ?_⟩, ?_⟩, ?_⟩, ?_⟩, ?_⟩
    · exact owe_load rfl (wants_all rfl) rfl (k := 0) rfl (by kernel_rfl) (loads_of strct_rat (shp_pr shp_zv shp_zv)) rfl
    · exact owe_load rfl (wants_all rfl) rfl (k := 2) rfl (by kernel_rfl) (loads_of strct_rat (shp_pr shp_zv shp_zv)) rfl
    · exact owe_call2 rfl (wants_all rfl) rfl (opnd_op 0 85 (by kernel_rfl) rfl) (opnd_op 1 86 (by kernel_rfl) rfl) (fresh_two (fresh_rn _ _) (fresh_is _)) rfl (fun args w => by go_simp) (fun w u0 u1 h0 h1 => Gives.cast ((fun w u v h1 h2 => g_ratmul (by assumption) (by assumption) (by omega) (by omega) (by omega) (by omega) w u v ((pr_imp (fun _ _ h => h) (fun _ _ h => h)) _ _ h1) ((pr_imp (fun _ _ h => h) (fun _ _ h => h)) _ _ h2)) w u0 u1 h0 h1) (by rw [ens, eds]))
    · exact owe_move rfl (wants_all rfl) (Or.inl rfl) (opnd_op 2 87 (by kernel_rfl) rfl) rfl
    · exact owe_ext2 rfl (wants_all rfl) rfl (opnd_op 3 84 (by kernel_rfl) rfl) (Or.inl ⟨rfl, rfl⟩) rfl
    · exact owe_ext2 rfl (wants_all rfl) rfl (opnd_op 3 84 (by kernel_rfl) rfl) (Or.inr ⟨rfl, rfl⟩) rfl
    · exact owe_new rfl (wants_all rfl) rfl rfl (fun ρ w => alloc_rat ρ _ w)
    · exact owe_put 6 rfl (wants_all rfl) rfl (by kernel_rfl) rfl (opnd_op 4 88 (by kernel_rfl) rfl) (stores_of strct_rat shp_r0 (shp_pr shp_zn shp_zn)) rfl
    · exact owe_move rfl (wants_all rfl) (Or.inr rfl) (opnd_op 5 89 (by kernel_rfl) rfl) rfl
  intro B11 a11 W11 S11
  replace S11 : Sta w 155 [(3, (.box 26 (PR (Zv A k1) (Zv ((D : Int)) k2)))), (4, (.box 26 (PR (Zv N k3) (Zv ((M : Int)) k4)))), (5, (.box 26 (PR (Zv C k5) (Zv ((E : Int)) k6)))), (7, (.box 26 ((RN nab dab) w.heap.size))), (9, (.box 26 ((RN nab dab) w.heap.size))), (11, (.box 26 ((RN nbc dbc) w.heap.size))), (13, (.box 26 ((RN nl dl) w.heap.size))), (15, (.box 26 ((RN nl dl) w.heap.size))), (17, (.box 26 ((RN np dp) w.heap.size))), (19, (.box 26 ((RN nq dq) w.heap.size))), (21, (.box 26 ((RN ns ds) w.heap.size)))] [(41, (Is (.bool false))), (32, (Is (.bool false))), (6, (Is (.bool false)))] B11 a11 W11 := S11
  refine wp_stmt_seq [.val ((RN nq dq) w.heap.size),
      .val ((RN ns ds) w.heap.size),
      .val ((TWO (RN np dp) (IS (.int .i64 0))) w.heap.size),
      .val ((TWO (RN np dp) (IS (.int .i64 0))) w.heap.size),
      .val ((RN np dp) w.heap.size),
      .val (Is (.int .i64 0)),
      .new (.box 26 (Is (.agg #[.bool false, .slice none 0 0, .bool false, .slice none 0 0]))),
      .put (.inr 6) (.box 26 ((RN np dp) w.heap.size)),
      .val (Is (.int .i64 0))] [.inr 0, .inr 1, .inr 2, .inr 3, .inr 4, .inr 5, .inr 6, .inr 7, .inr 8, .inr 9, .inr 10, .inl 6] [.inl 8, .inr 0, .inr 1, .inr 2] follows S11 rfl (by kernel_rfl) ?_ ?_
  · refine ⟨⟨⟨⟨⟨⟨⟨⟨⟨trivial, ?_⟩, ?_⟩, ?_⟩, ?_⟩, ?_⟩, ?_⟩, ?_⟩, ?_⟩, ?_⟩
    · exact owe_load rfl (wants_all rfl) rfl (k := 9) rfl (by kernel_rfl) (loads_of strct_rat (shp_pr shp_zn shp_zn)) rfl
    · exact owe_load rfl (wants_all rfl) rfl (k := 10) rfl (by kernel_rfl) (loads_of strct_rat (shp_pr shp_zn shp_zn)) rfl
    · exact owe_call2 rfl (wants_all rfl) rfl (opnd_op 0 91 (by kernel_rfl) rfl) (opnd_op 1 92 (by kernel_rfl) rfl) (fresh_two (fresh_rn _ _) (fresh_is _)) rfl (fun args w => by go_simp) (fun w u0 u1 h0 h1 => Gives.cast ((fun w u v h1 h2 => g_ratadd (by assumption) (by assumption) (by omega) (by omega) (by omega) (by omega) w u v ((rn_rv lnq ldq) _ _ h1) ((rn_rv lns lds) _ _ h2)) w u0 u1 h0 h1) (by rw [et]))
    · exact owe_move rfl (wants_all rfl) (Or.inl rfl) (opnd_op 2 93 (by kernel_rfl) rfl) rfl
    · exact owe_ext2 rfl (wants_all rfl) rfl (opnd_op 3 90 (by kernel_rfl) rfl) (Or.inl ⟨rfl, rfl⟩) rfl
    · exact owe_ext2 rfl (wants_all rfl) rfl (opnd_op 3 90 (by kernel_rfl) rfl) (Or.inr ⟨rfl, rfl⟩) rfl
    · exact owe_new rfl (wants_all rfl) rfl rfl (fun ρ w => alloc_rat ρ _ w)
    · exact owe_put 6 rfl (wants_all rfl) rfl (by kernel_rfl) rfl (opnd_op 4 94 (by kernel_rfl) rfl) (stores_of strct_rat shp_r0 (shp_pr shp_zn shp_zn)) rfl
    · exact owe_move rfl (wants_all rfl) (Or.inr rfl) (opnd_op 5 95 (by kernel_rfl) rfl) rfl
  intro B12 a12 W12 S12
  replace S12 : Sta w 155 [(3, (.box 26 (PR (Zv A k1) (Zv ((D : Int)) k2)))), (4, (.box 26 (PR (Zv N k3) (Zv ((M : Int)) k4)))), (5, (.box 26 (PR (Zv C k5) (Zv ((E : Int)) k6)))), (7, (.box 26 ((RN nab dab) w.heap.size))), (9, (.box 26 ((RN nab dab) w.heap.size))), (11, (.box 26 ((RN nbc dbc) w.heap.size))), (13, (.box 26 ((RN nl dl) w.heap.size))), (15, (.box 26 ((RN nl dl) w.heap.size))), (17, (.box 26 ((RN np dp) w.heap.size))), (19, (.box 26 ((RN nq dq) w.heap.size))), (21, (.box 26 ((RN ns ds) w.heap.size))), (23, (.box 26 ((RN np dp) w.heap.size)))] [(24, (Is (.int .i64 0))), (41, (Is (.bool false))), (32, (Is (.bool false))), (6, (Is (.bool false)))] B12 a12 W12 := S12
  refine wp_seq ?_
  refine wp_stmt_seq [.val (Is (.int .i64 0)),
      .val (Is (.bool false)),
      .val (Is (.bool false)),
      .val ((RN nab dab) w.heap.size),
      .val ((RN nab dab) w.heap.size),
      .val (Is (.bool true)),
      .val (Is (.bool false)),
      .val (Is (.bool false)),
      .val (Is (.bool false)),
      .val ((RN nl dl) w.heap.size),
      .val ((RN nl dl) w.heap.size),
      .val (Is (.bool true)),
      .val (Is (.bool false)),
      .val (Is (.bool false)),
      .val (Is (.bool false)),
      .val ((RN np dp) w.heap.size),
      .val ((RN np dp) w.heap.size),
      .val (Is (.bool true)),
      .val (Is (.bool false)),
      .val (Is (.bool false))] [.inr 0, .inr 1, .inr 2, .inr 3, .inr 4, .inr 5, .inr 6, .inr 7, .inr 8, .inr 9, .inr 10, .inr 11] [.inl 19, .inr 1, .inr 2, .inr 3] follows S12 rfl (by kernel_rfl) ?_ ?_
  · refine ⟨⟨⟨⟨⟨⟨⟨⟨⟨⟨⟨⟨⟨⟨⟨⟨⟨⟨⟨⟨trivial, ?_⟩, ?_⟩, ?_⟩, ?_⟩, ?_⟩, ?_⟩, ?_⟩, ?_⟩, ?_⟩, ?_⟩, ?_⟩, ?_⟩, ?_⟩, ?_⟩, ?_⟩, ?_⟩, ?_⟩, ?_⟩, ?_⟩, ?_⟩
    · exact owe_move rfl (wants_all rfl) (Or.inl rfl) (opnd_slot 0 24 rfl (by kernel_rfl)) rfl
    · exact owe_bin rfl (wants_all rfl) rfl (opnd_op 0 96 (by kernel_rfl) rfl) (opnd_const _) rfl (fun ρ w h1 h2 => by exact run_neq_errno_f ρ _ _ _ w _ _ rfl h1 h2)
    · exact owe_move rfl (wants_all rfl) (Or.inl rfl) (opnd_op 1 97 (by kernel_rfl) rfl) rfl
    · exact owe_load rfl (wants_if 2 98 rfl (by kernel_rfl) rfl) rfl (k := 3) rfl (by kernel_rfl) (loads_of strct_rat (shp_pr shp_zn shp_zn)) rfl
    · exact owe_load rfl (wants_if 2 98 rfl (by kernel_rfl) rfl) rfl (k := 4) rfl (by kernel_rfl) (loads_of strct_rat (shp_pr shp_zn shp_zn)) rfl
    · exact owe_call2 rfl (wants_if 2 98 rfl (by kernel_rfl) rfl) rfl (opnd_op 3 99 (by kernel_rfl) rfl) (opnd_op 4 100 (by kernel_rfl) rfl) (fresh_is _) rfl (fun args w => by go_simp) g_same
    · exact owe_un (x := .tmp 101) rfl (wants_if 2 98 rfl (by kernel_rfl) rfl) rfl (opnd_op 5 101 (by kernel_rfl) rfl) rfl (fun ρ w h1 => run_not ρ _ _ w _ h1)
    · exact owe_pick rfl (wants_all rfl) rfl (opnd_op 2 98 (by kernel_rfl) rfl) (fun h => nomatch h) (fun _ => (opnd_op 6 102 (by kernel_rfl) rfl)) rfl
    · exact owe_move rfl (wants_all rfl) (Or.inl rfl) (opnd_op 7 103 (by kernel_rfl) rfl) rfl
    · exact owe_load rfl (wants_if 8 104 rfl (by kernel_rfl) rfl) rfl (k := 6) rfl (by kernel_rfl) (loads_of strct_rat (shp_pr shp_zn shp_zn)) rfl
    · exact owe_load rfl (wants_if 8 104 rfl (by kernel_rfl) rfl) rfl (k := 7) rfl (by kernel_rfl) (loads_of strct_rat (shp_pr shp_zn shp_zn)) rfl
    · exact owe_call2 rfl (wants_if 8 104 rfl (by kernel_rfl) rfl) rfl (opnd_op 9 105 (by kernel_rfl) rfl) (opnd_op 10 106 (by kernel_rfl) rfl) (fresh_is _) rfl (fun args w => by go_simp) g_same
    · exact owe_un (x := .tmp 107) rfl (wants_if 8 104 rfl (by kernel_rfl) rfl) rfl (opnd_op 11 107 (by kernel_rfl) rfl) rfl (fun ρ w h1 => run_not ρ _ _ w _ h1)
    · exact owe_pick rfl (wants_all rfl) rfl (opnd_op 8 104 (by kernel_rfl) rfl) (fun h => nomatch h) (fun _ => (opnd_op 12 108 (by kernel_rfl) rfl)) rfl
    · exact owe_move rfl (wants_all rfl) (Or.inl rfl) (opnd_op 13 109 (by kernel_rfl) rfl) rfl
    · exact owe_load rfl (wants_if 14 110 rfl (by kernel_rfl) rfl) rfl (k := 8) rfl (by kernel_rfl) (loads_of strct_rat (shp_pr shp_zn shp_zn)) rfl
    · exact owe_load rfl (wants_if 14 110 rfl (by kernel_rfl) rfl) rfl (k := 11) rfl (by kernel_rfl) (loads_of strct_rat (shp_pr shp_zn shp_zn)) rfl
    · exact owe_call2 rfl (wants_if 14 110 rfl (by kernel_rfl) rfl) rfl (opnd_op 15 111 (by kernel_rfl) rfl) (opnd_op 16 112 (by kernel_rfl) rfl) (fresh_is _) rfl (fun args w => by go_simp) g_same
    · exact owe_un (x := .tmp 113) rfl (wants_if 14 110 rfl (by kernel_rfl) rfl) rfl (opnd_op 17 113 (by kernel_rfl) rfl) rfl (fun ρ w h1 => run_not ρ _ _ w _ h1)
    · exact owe_pick rfl (wants_all rfl) rfl (opnd_op 14 110 (by kernel_rfl) rfl) (fun h => nomatch h) (fun _ => (opnd_op 18 114 (by kernel_rfl) rfl)) rfl
  intro B13 a13 W13 S13
  replace S13 : Sta w 155 [(3, (.box 26 (PR (Zv A k1) (Zv ((D : Int)) k2)))), (4, (.box 26 (PR (Zv N k3) (Zv ((M : Int)) k4)))), (5, (.box 26 (PR (Zv C k5) (Zv ((E : Int)) k6)))), (7, (.box 26 ((RN nab dab) w.heap.size))), (9, (.box 26 ((RN nab dab) w.heap.size))), (11, (.box 26 ((RN nbc dbc) w.heap.size))), (13, (.box 26 ((RN nl dl) w.heap.size))), (15, (.box 26 ((RN nl dl) w.heap.size))), (17, (.box 26 ((RN np dp) w.heap.size))), (19, (.box 26 ((RN nq dq) w.heap.size))), (21, (.box 26 ((RN ns ds) w.heap.size))), (23, (.box 26 ((RN np dp) w.heap.size)))] [(115, (Is (.bool false))), (41, (Is (.bool false))), (32, (Is (.bool false))), (6, (Is (.bool false)))] B13 a13 W13 := S13
  refine wp_cond_false (S13.bool 0 115 rfl) ?_
  refine wp_skip ?_
  refine thenN ?_
  refine wp_stmt_seq [.val ((RN nab dab) w.heap.size),
      .val (PR (Zv N k3) (Zv ((M : Int)) k4)),
      .val ((TWO (RN nz dz) (IS (.int .i64 0))) w.heap.size),
      .val ((TWO (RN nz dz) (IS (.int .i64 0))) w.heap.size),
      .val ((RN nz dz) w.heap.size),
      .val (Is (.int .i64 0)),
      .new (.box 26 (Is (.agg #[.bool false, .slice none 0 0, .bool false, .slice none 0 0]))),
      .put (.inr 6) (.box 26 ((RN nz dz) w.heap.size)),
      .val (Is (.int .i64 0))] [.inr 0, .inr 1, .inr 2, .inr 3, .inr 4, .inr 5, .inr 6, .inr 7, .inr 8, .inr 9, .inr 10, .inr 11, .inl 6] [.inl 8, .inr 0, .inr 1, .inr 2, .inr 3] follows S13 rfl (by kernel_rfl) ?_ ?_
  · refine ⟨⟨⟨⟨⟨⟨⟨⟨⟨trivial, ?_⟩, ?_⟩, ?_⟩, ?_⟩, ?_⟩, ?_⟩, ?_⟩, ?_⟩, ?_⟩
    · exact owe_load rfl (wants_all rfl) rfl (k := 3) rfl (by kernel_rfl) (loads_of strct_rat (shp_pr shp_zn shp_zn)) rfl
    · exact owe_load rfl (wants_all rfl) rfl (k := 1) rfl (by kernel_rfl) (loads_of strct_rat (shp_pr shp_zv shp_zv)) rfl
    · exact owe_call2 rfl (wants_all rfl) rfl (opnd_op 0 117 (by kernel_rfl) rfl) (opnd_op 1 118 (by kernel_rfl) rfl) (fresh_two (fresh_rn _ _) (fresh_is _)) rfl (fun args w => by go_simp) (fun w u0 u1 h0 h1 => Gives.cast ((fun w u v h1 h2 => g_ratsub (by assumption) (by assumption) (by omega) (by omega) (by omega) (by omega) w u v ((rn_rv lnab ldab) _ _ h1) ((pr_imp (fun _ _ h => h) (fun _ _ h => h)) _ _ h2)) w u0 u1 h0 h1) (by rw [ek]))
    · exact owe_move rfl (wants_all rfl) (Or.inl rfl) (opnd_op 2 119 (by kernel_rfl) rfl) rfl
    · exact owe_ext2 rfl (wants_all rfl) rfl (opnd_op 3 116 (by kernel_rfl) rfl) (Or.inl ⟨rfl, rfl⟩) rfl
    · exact owe_ext2 rfl (wants_all rfl) rfl (opnd_op 3 116 (by kernel_rfl) rfl) (Or.inr ⟨rfl, rfl⟩) rfl
    · exact owe_new rfl (wants_all rfl) rfl rfl (fun ρ w => alloc_rat ρ _ w)
    · exact owe_put 6 rfl (wants_all rfl) rfl (by kernel_rfl) rfl (opnd_op 4 120 (by kernel_rfl) rfl) (stores_of strct_rat shp_r0 (shp_pr shp_zn shp_zn)) rfl
    · exact owe_move rfl (wants_all rfl) (Or.inr rfl) (opnd_op 5 121 (by kernel_rfl) rfl) rfl
  intro B14 a14 W14 S14
  replace S14 : Sta w 155 [(3, (.box 26 (PR (Zv A k1) (Zv ((D : Int)) k2)))), (4, (.box 26 (PR (Zv N k3) (Zv ((M : Int)) k4)))), (5, (.box 26 (PR (Zv C k5) (Zv ((E : Int)) k6)))), (7, (.box 26 ((RN nab dab) w.heap.size))), (9, (.box 26 ((RN nab dab) w.heap.size))), (11, (.box 26 ((RN nbc dbc) w.heap.size))), (13, (.box 26 ((RN nl dl) w.heap.size))), (15, (.box 26 ((RN nl dl) w.heap.size))), (17, (.box 26 ((RN np dp) w.heap.size))), (19, (.box 26 ((RN nq dq) w.heap.size))), (21, (.box 26 ((RN ns ds) w.heap.size))), (23, (.box 26 ((RN np dp) w.heap.size))), (25, (.box 26 ((RN nz dz) w.heap.size)))] [(26, (Is (.int .i64 0))), (115, (Is (.bool false))), (41, (Is (.bool false))), (32, (Is (.bool false))), (6, (Is (.bool false)))] B14 a14 W14 := S14
  refine wp_stmt_seq [.val (Part a14 3 0),
      .val (Zv A k1),
      .val (Part a14 3 2),
      .val (Zv ((D : Int)) k2),
      .val ((TWO (RN nz dz) (IS (.int .i64 0))) w.heap.size),
      .val ((TWO (RN nz dz) (IS (.int .i64 0))) w.heap.size),
      .val ((RN nz dz) w.heap.size),
      .val (Is (.int .i64 0)),
      .new (.box 26 (Is (.agg #[.bool false, .slice none 0 0, .bool false, .slice none 0 0]))),
      .put (.inr 8) (.box 26 ((RN nz dz) w.heap.size)),
      .val (Is (.int .i64 0))] [.inr 0, .inr 1, .inr 2, .inr 3, .inr 4, .inr 5, .inr 6, .inr 7, .inr 8, .inr 9, .inr 10, .inr 11, .inr 12, .inl 8] [.inr 0, .inr 1, .inr 2, .inr 3, .inr 4] follows S14 rfl (by kernel_rfl) ?_ ?_
  · refine ⟨⟨⟨⟨⟨⟨⟨⟨⟨⟨⟨trivial, ?_⟩, ?_⟩, ?_⟩, ?_⟩, ?_⟩, ?_⟩, ?_⟩, ?_⟩, ?_⟩, ?_⟩, ?_⟩
    · exact owe_part rfl (wants_all rfl) rfl (k := 0) rfl (by kernel_rfl) rfl (fun ρ w b h => part_rat0 ρ _ _ w b 0 h)
    · exact owe_pload rfl (wants_all rfl) rfl (opnd_op 0 123 (by kernel_rfl) rfl) (k := 0) rfl (by kernel_rfl) rfl (fun ρ w b u h1 h2 h3 => pload_num ρ _ _ w b u h1 h2 h3)
    · exact owe_part rfl (wants_all rfl) rfl (k := 0) rfl (by kernel_rfl) rfl (fun ρ w b h => part_rat1 ρ _ _ w b 0 h)
    · exact owe_pload rfl (wants_all rfl) rfl (opnd_op 2 125 (by kernel_rfl) rfl) (k := 0) rfl (by kernel_rfl) rfl (fun ρ w b u h1 h2 h3 => pload_den ρ _ _ w b u h1 h2 h3)
    · exact owe_call2 rfl (wants_all rfl) rfl (opnd_op 1 124 (by kernel_rfl) rfl) (opnd_op 3 126 (by kernel_rfl) rfl) (fresh_two (fresh_rn _ _) (fresh_is _)) rfl (fun args w => by go_simp) (fun w u0 u1 h0 h1 => Gives.cast ((fun w u v h1 h2 => g_ratmake (by assumption) (by omega) (by omega) w u v ((fun _ _ h => h) _ _ h1) ((fun _ _ h => h) _ _ h2)) w u0 u1 h0 h1) (by rw [enz, edz]))
    · exact owe_move rfl (wants_all rfl) (Or.inl rfl) (opnd_op 4 127 (by kernel_rfl) rfl) rfl
    · exact owe_ext2 rfl (wants_all rfl) rfl (opnd_op 5 122 (by kernel_rfl) rfl) (Or.inl ⟨rfl, rfl⟩) rfl
    · exact owe_ext2 rfl (wants_all rfl) rfl (opnd_op 5 122 (by kernel_rfl) rfl) (Or.inr ⟨rfl, rfl⟩) rfl
    · exact owe_new rfl (wants_all rfl) rfl rfl (fun ρ w => alloc_rat ρ _ w)
    · exact owe_put 8 rfl (wants_all rfl) rfl (by kernel_rfl) rfl (opnd_op 6 128 (by kernel_rfl) rfl) (stores_of strct_rat shp_r0 (shp_pr shp_zn shp_zn)) rfl
    · exact owe_move rfl (wants_all rfl) (Or.inr rfl) (opnd_op 7 129 (by kernel_rfl) rfl) rfl
  intro B15 a15 W15 S15
  replace S15 : Sta w 155 [(3, (.box 26 (PR (Zv A k1) (Zv ((D : Int)) k2)))), (4, (.box 26 (PR (Zv N k3) (Zv ((M : Int)) k4)))), (5, (.box 26 (PR (Zv C k5) (Zv ((E : Int)) k6)))), (7, (.box 26 ((RN nab dab) w.heap.size))), (9, (.box 26 ((RN nab dab) w.heap.size))), (11, (.box 26 ((RN nbc dbc) w.heap.size))), (13, (.box 26 ((RN nl dl) w.heap.size))), (15, (.box 26 ((RN nl dl) w.heap.size))), (17, (.box 26 ((RN np dp) w.heap.size))), (19, (.box 26 ((RN nq dq) w.heap.size))), (21, (.box 26 ((RN ns ds) w.heap.size))), (23, (.box 26 ((RN np dp) w.heap.size))), (25, (.box 26 ((RN nz dz) w.heap.size))), (27, (.box 26 ((RN nz dz) w.heap.size)))] [(26, (Is (.int .i64 0))), (115, (Is (.bool false))), (41, (Is (.bool false))), (32, (Is (.bool false))), (6, (Is (.bool false)))] B15 a15 W15 := S15
  refine wp_seq ?_
  refine wp_stmt_seq [.val (Is (.int .i64 0)),
      .val (Is (.bool false)),
      .val (Is (.bool false)),
      .val ((RN nz dz) w.heap.size),
      .val ((RN nz dz) w.heap.size),
      .val (Is (.bool true)),
      .val (Is (.bool false)),
      .val (Is (.bool false))] [.inr 0, .inr 1, .inr 2, .inr 3, .inr 4, .inr 5, .inr 6, .inr 7, .inr 8, .inr 9, .inr 10, .inr 11, .inr 12, .inr 13] [.inl 7, .inr 1, .inr 2, .inr 3, .inr 4] follows S15 rfl (by kernel_rfl) ?_ ?_
  · refine ⟨⟨⟨⟨⟨⟨⟨⟨trivial, ?_⟩, ?_⟩, ?_⟩, ?_⟩, ?_⟩, ?_⟩, ?_⟩, ?_⟩
    · exact owe_move rfl (wants_all rfl) (Or.inl rfl) (opnd_slot 0 26 rfl (by kernel_rfl)) rfl
    · exact owe_bin rfl (wants_all rfl) rfl (opnd_op 0 130 (by kernel_rfl) rfl) (opnd_const _) rfl (fun ρ w h1 h2 => by exact run_neq_errno_f ρ _ _ _ w _ _ rfl h1 h2)
    · exact owe_move rfl (wants_all rfl) (Or.inl rfl) (opnd_op 1 131 (by kernel_rfl) rfl) rfl
    · exact owe_load rfl (wants_if 2 132 rfl (by kernel_rfl) rfl) rfl (k := 12) rfl (by kernel_rfl) (loads_of strct_rat (shp_pr shp_zn shp_zn)) rfl
    · exact owe_load rfl (wants_if 2 132 rfl (by kernel_rfl) rfl) rfl (k := 13) rfl (by kernel_rfl) (loads_of strct_rat (shp_pr shp_zn shp_zn)) rfl
    · exact owe_call2 rfl (wants_if 2 132 rfl (by kernel_rfl) rfl) rfl (opnd_op 3 133 (by kernel_rfl) rfl) (opnd_op 4 134 (by kernel_rfl) rfl) (fresh_is _) rfl (fun args w => by go_simp) g_same
    · exact owe_un (x := .tmp 135) rfl (wants_if 2 132 rfl (by kernel_rfl) rfl) rfl (opnd_op 5 135 (by kernel_rfl) rfl) rfl (fun ρ w h1 => run_not ρ _ _ w _ h1)
    · exact owe_pick rfl (wants_all rfl) rfl (opnd_op 2 132 (by kernel_rfl) rfl) (fun h => nomatch h) (fun _ => (opnd_op 6 136 (by kernel_rfl) rfl)) rfl
  intro B16 a16 W16 S16
  replace S16 : Sta w 155 [(3, (.box 26 (PR (Zv A k1) (Zv ((D : Int)) k2)))), (4, (.box 26 (PR (Zv N k3) (Zv ((M : Int)) k4)))), (5, (.box 26 (PR (Zv C k5) (Zv ((E : Int)) k6)))), (7, (.box 26 ((RN nab dab) w.heap.size))), (9, (.box 26 ((RN nab dab) w.heap.size))), (11, (.box 26 ((RN nbc dbc) w.heap.size))), (13, (.box 26 ((RN nl dl) w.heap.size))), (15, (.box 26 ((RN nl dl) w.heap.size))), (17, (.box 26 ((RN np dp) w.heap.size))), (19, (.box 26 ((RN nq dq) w.heap.size))), (21, (.box 26 ((RN ns ds) w.heap.size))), (23, (.box 26 ((RN np dp) w.heap.size))), (25, (.box 26 ((RN nz dz) w.heap.size))), (27, (.box 26 ((RN nz dz) w.heap.size)))] [(137, (Is (.bool false))), (115, (Is (.bool false))), (41, (Is (.bool false))), (32, (Is (.bool false))), (6, (Is (.bool false)))] B16 a16 W16 := S16
  refine wp_cond_false (S16.bool 0 137 rfl) ?_
  refine wp_skip ?_
  refine thenN ?_
  refine wp_seq ?_
  refine wp_stmt_seq [.val (Part a16 4 0),
      .val (Zv N k3),
      .val (Is (.int .i64 (N).sign)),
      .val (Is (.bool true))] [.inr 0, .inr 1, .inr 2, .inr 3, .inr 4, .inr 5, .inr 6, .inr 7, .inr 8, .inr 9, .inr 10, .inr 11, .inr 12, .inr 13] [.inl 3, .inr 0, .inr 1, .inr 2, .inr 3, .inr 4] follows S16 rfl (by kernel_rfl) ?_ ?_
  · refine ⟨⟨⟨⟨trivial, ?_⟩, ?_⟩, ?_⟩, ?_⟩
    · exact owe_part rfl (wants_all rfl) rfl (k := 1) rfl (by kernel_rfl) rfl (fun ρ w b h => part_rat0 ρ _ _ w b 0 h)
    · exact owe_pload rfl (wants_all rfl) rfl (opnd_op 0 138 (by kernel_rfl) rfl) (k := 1) rfl (by kernel_rfl) rfl (fun ρ w b u h1 h2 h3 => pload_num ρ _ _ w b u h1 h2 h3)
    · exact owe_call1 rfl (wants_all rfl) rfl (opnd_op 1 139 (by kernel_rfl) rfl) (fresh_is _) rfl (fun args w => by go_simp) (fun w u h1 => g_rsign (by omega) w u ((fun _ _ h => h) _ _ h1))
    · exact owe_bin rfl (wants_all rfl) rfl (opnd_op 2 140 (by kernel_rfl) rfl) (opnd_const _) rfl (fun ρ w h1 h2 => by exact run_eql_int_t ρ _ _ _ w _ _ hs h1 h2)
  intro B17 a17 W17 S17
  replace S17 : Sta w 155 [(3, (.box 26 (PR (Zv A k1) (Zv ((D : Int)) k2)))), (4, (.box 26 (PR (Zv N k3) (Zv ((M : Int)) k4)))), (5, (.box 26 (PR (Zv C k5) (Zv ((E : Int)) k6)))), (7, (.box 26 ((RN nab dab) w.heap.size))), (9, (.box 26 ((RN nab dab) w.heap.size))), (11, (.box 26 ((RN nbc dbc) w.heap.size))), (13, (.box 26 ((RN nl dl) w.heap.size))), (15, (.box 26 ((RN nl dl) w.heap.size))), (17, (.box 26 ((RN np dp) w.heap.size))), (19, (.box 26 ((RN nq dq) w.heap.size))), (21, (.box 26 ((RN ns ds) w.heap.size))), (23, (.box 26 ((RN np dp) w.heap.size))), (25, (.box 26 ((RN nz dz) w.heap.size))), (27, (.box 26 ((RN nz dz) w.heap.size)))] [(141, (Is (.bool true))), (137, (Is (.bool false))), (115, (Is (.bool false))), (41, (Is (.bool false))), (32, (Is (.bool false))), (6, (Is (.bool false)))] B17 a17 W17 := S17
  refine wp_cond_true (S17.bool 0 141 rfl) ?_
  refine wp_stmt_seq [.val (Is (.bool true))] [.inr 0, .inr 1, .inr 2, .inr 3, .inr 4, .inr 5, .inr 6, .inr 7, .inr 8, .inr 9, .inr 10, .inr 11, .inr 12, .inr 13] [.inl 0, .inr 0, .inr 1, .inr 2, .inr 3, .inr 4] follows S17 rfl (by kernel_rfl) ?_ ?_
  · refine ⟨trivial, ?_⟩
    · exact owe_move rfl (wants_all rfl) (Or.inr rfl) (opnd_const _) rfl
  intro B18 a18 W18 S18
  replace S18 : Sta w 155 [(3, (.box 26 (PR (Zv A k1) (Zv ((D : Int)) k2)))), (4, (.box 26 (PR (Zv N k3) (Zv ((M : Int)) k4)))), (5, (.box 26 (PR (Zv C k5) (Zv ((E : Int)) k6)))), (7, (.box 26 ((RN nab dab) w.heap.size))), (9, (.box 26 ((RN nab dab) w.heap.size))), (11, (.box 26 ((RN nbc dbc) w.heap.size))), (13, (.box 26 ((RN nl dl) w.heap.size))), (15, (.box 26 ((RN nl dl) w.heap.size))), (17, (.box 26 ((RN np dp) w.heap.size))), (19, (.box 26 ((RN nq dq) w.heap.size))), (21, (.box 26 ((RN ns ds) w.heap.size))), (23, (.box 26 ((RN np dp) w.heap.size))), (25, (.box 26 ((RN nz dz) w.heap.size))), (27, (.box 26 ((RN nz dz) w.heap.size)))] [(6, (Is (.bool true))), (141, (Is (.bool true))), (137, (Is (.bool false))), (115, (Is (.bool false))), (41, (Is (.bool false))), (32, (Is (.bool false)))] B18 a18 W18 := S18
  refine wp_ret ?_
  refine thenR ?_
  exact end_one S18 rfl (res_tmp S18 0 6 rfl)

set_option maxHeartbeats 1000000 in
theorem field_b1 (w : World) (A N C D M E : Int) (k1 k2 k3 k4 k5 k6 : Nat) (u v x : Value) (h : Rv A D k1 k2 u w) (h' : Rv N M k3 k4 v w) (h'' : Rv C E k5 k6 x w) (hk1 : k1 ≤ 1048576) (hk2 : k2 ≤ 1048576) (hk3 : k3 ≤ 1048576) (hk4 : k4 ≤ 1048576) (hk5 : k5 ≤ 1048576) (hk6 : k6 ≤ 1048576) (hmay : (decide (0 < D.sign) && decide (0 < M.sign)) = false) :
    Calls Tryd.prog 3 #[u, v, x] w (Gives (IS (.bool true)) w) := by
  refine calls_sta (sl := [(0, (PR (Zv A k1) (Zv D k2))), (1, (PR (Zv N k3) (Zv M k4))), (2, (PR (Zv C k5) (Zv E k6)))]) Tryd.func3 rfl Tryd.ntmps3 (by simp) (args_cons rfl (rv_has h) (args_cons rfl (rv_has h') (args_cons rfl (rv_has h'') args_nil))) ?_
  intro a0 S0
  refine wp_stmt_seq [.new (.box 26 (PR (Zv A k1) (Zv D k2))),
      .new (.box 26 (PR (Zv N k3) (Zv M k4))),
      .new (.box 26 (PR (Zv C k5) (Zv E k6))),
      .val (Is (.bool false))] [.inl 0, .inl 1, .inl 2] [.inl 3] follows S0 rfl (by kernel_rfl) ?_ ?_
  · refine ⟨⟨⟨⟨trivial, ?_⟩, ?_⟩, ?_⟩, ?_⟩
    · exact owe_box rfl (wants_all rfl) rfl (opnd_slot 0 0 rfl (by kernel_rfl)) rfl (fun ρ w h => box_rat (shp_pr shp_zv shp_zv) ρ _ _ w h)
    · exact owe_box rfl (wants_all rfl) rfl (opnd_slot 1 1 rfl (by kernel_rfl)) rfl (fun ρ w h => box_rat (shp_pr shp_zv shp_zv) ρ _ _ w h)
    · exact owe_box rfl (wants_all rfl) rfl (opnd_slot 2 2 rfl (by kernel_rfl)) rfl (fun ρ w h => box_rat (shp_pr shp_zv shp_zv) ρ _ _ w h)
    · exact owe_move rfl (wants_all rfl) (Or.inr rfl) (opnd_const _) rfl
  intro B1 a1 W1 S1
  replace S1 : Sta w 155 [(3, (.box 26 (PR (Zv A k1) (Zv D k2)))), (4, (.box 26 (PR (Zv N k3) (Zv M k4)))), (5, (.box 26 (PR (Zv C k5) (Zv E k6))))] [(6, (Is (.bool false)))] B1 a1 W1 := S1
  refine wp_seq ?_
  refine wp_stmt_seq [.val (Is (.bool true)),
      .val (Is (.bool false))] [.inr 0, .inr 1, .inr 2] [.inl 1, .inr 0] follows S1 rfl (by kernel_rfl) ?_ ?_
  · refine ⟨⟨trivial, ?_⟩, ?_⟩
    · exact owe_call0 rfl (wants_all rfl) rfl  (fresh_is _) rfl (fun args w => by go_simp) g_awake
    · exact owe_un (x := .tmp 31) rfl (wants_all rfl) rfl (opnd_op 0 31 (by kernel_rfl) rfl) rfl (fun ρ w h1 => run_not ρ _ _ w _ h1)
  intro B2 a2 W2 S2
  replace S2 : Sta w 155 [(3, (.box 26 (PR (Zv A k1) (Zv D k2)))), (4, (.box 26 (PR (Zv N k3) (Zv M k4)))), (5, (.box 26 (PR (Zv C k5) (Zv E k6))))] [(32, (Is (.bool false))), (6, (Is (.bool false)))] B2 a2 W2 := S2
  refine wp_cond_false (S2.bool 0 32 rfl) ?_
  refine wp_skip ?_
  refine thenN ?_
  refine wp_seq ?_
  refine wp_stmt_seq [.val (PR (Zv A k1) (Zv D k2)),
      .val (PR (Zv N k3) (Zv M k4)),
      .val (Is (.bool false)),
      .val (Is (.bool true)),
      .val (Is (.bool true)),
      .off,
      .off,
      .off,
      .val (Is (.bool true))] [.inr 0, .inr 1, .inr 2] [.inl 8, .inr 0, .inr 1] follows S2 rfl (by kernel_rfl) ?_ ?_
  · refine ⟨⟨⟨⟨⟨⟨⟨⟨⟨trivial, ?_⟩, ?_⟩, ?_⟩, ?_⟩, ?_⟩, ?_⟩, ?_⟩, ?_⟩, ?_⟩
    · exact owe_load rfl (wants_all rfl) rfl (k := 0) rfl (by kernel_rfl) (loads_of strct_rat (shp_pr shp_zv shp_zv)) rfl
    · exact owe_load rfl (wants_all rfl) rfl (k := 1) rfl (by kernel_rfl) (loads_of strct_rat (shp_pr shp_zv shp_zv)) rfl
    · exact owe_call2 rfl (wants_all rfl) rfl (opnd_op 0 33 (by kernel_rfl) rfl) (opnd_op 1 34 (by kernel_rfl) rfl) (fresh_is _) rfl (fun args w => by go_simp) (fun w u v h1 h2 => g_both_f hmay (by omega) (by omega) (by omega) (by omega) w u v ((pr_imp (fun _ _ h => h) (fun _ _ h => h)) _ _ h1) ((pr_imp (fun _ _ h => h) (fun _ _ h => h)) _ _ h2))
    · exact owe_un (x := .tmp 35) rfl (wants_all rfl) rfl (opnd_op 2 35 (by kernel_rfl) rfl) rfl (fun ρ w h1 => run_not ρ _ _ w _ h1)
    · exact owe_move rfl (wants_all rfl) (Or.inl rfl) (opnd_op 3 36 (by kernel_rfl) rfl) rfl
    · exact owe_off 4 37 rfl rfl rfl (by kernel_rfl) rfl (by decide)
    · exact owe_off 4 37 rfl rfl rfl (by kernel_rfl) rfl (by decide)
    · exact owe_off 4 37 rfl rfl rfl (by kernel_rfl) rfl (by decide)
    · exact owe_pick rfl (wants_all rfl) rfl (opnd_op 4 37 (by kernel_rfl) rfl) (fun _ => (opnd_const _)) (fun h => nomatch h) rfl
  intro B3 a3 W3 S3
  replace S3 : Sta w 155 [(3, (.box 26 (PR (Zv A k1) (Zv D k2)))), (4, (.box 26 (PR (Zv N k3) (Zv M k4)))), (5, (.box 26 (PR (Zv C k5) (Zv E k6))))] [(41, (Is (.bool true))), (32, (Is (.bool false))), (6, (Is (.bool false)))] B3 a3 W3 := S3
  refine wp_cond_true (S3.bool 0 41 rfl) ?_
  refine wp_stmt_seq [.val (Is (.bool true))] [.inr 0, .inr 1, .inr 2] [.inl 0, .inr 0, .inr 1] follows S3 rfl (by kernel_rfl) ?_ ?_
  · refine ⟨trivial, ?_⟩
    · exact owe_move rfl (wants_all rfl) (Or.inr rfl) (opnd_const _) rfl
  intro B4 a4 W4 S4
  replace S4 : Sta w 155 [(3, (.box 26 (PR (Zv A k1) (Zv D k2)))), (4, (.box 26 (PR (Zv N k3) (Zv M k4)))), (5, (.box 26 (PR (Zv C k5) (Zv E k6))))] [(6, (Is (.bool true))), (41, (Is (.bool true))), (32, (Is (.bool false)))] B4 a4 W4 := S4
  refine wp_ret ?_
  refine thenR ?_
  exact end_one S4 rfl (res_tmp S4 0 6 rfl)

set_option maxHeartbeats 1000000 in
theorem field_b2 (w : World) (A N C D M E : Int) (k1 k2 k3 k4 k5 k6 : Nat) (u v x : Value) (h : Rv A D k1 k2 u w) (h' : Rv N M k3 k4 v w) (h'' : Rv C E k5 k6 x w) (hk1 : k1 ≤ 1048576) (hk2 : k2 ≤ 1048576) (hk3 : k3 ≤ 1048576) (hk4 : k4 ≤ 1048576) (hk5 : k5 ≤ 1048576) (hk6 : k6 ≤ 1048576) (sD : decide (0 < D.sign) = true) (sM : decide (0 < M.sign) = true) (sE : decide (0 < E.sign) = false) :
    Calls Tryd.prog 3 #[u, v, x] w (Gives (IS (.bool true)) w) := by
  refine calls_sta (sl := [(0, (PR (Zv A k1) (Zv D k2))), (1, (PR (Zv N k3) (Zv M k4))), (2, (PR (Zv C k5) (Zv E k6)))]) Tryd.func3 rfl Tryd.ntmps3 (by simp) (args_cons rfl (rv_has h) (args_cons rfl (rv_has h') (args_cons rfl (rv_has h'') args_nil))) ?_
  intro a0 S0
  refine wp_stmt_seq [.new (.box 26 (PR (Zv A k1) (Zv D k2))),
      .new (.box 26 (PR (Zv N k3) (Zv M k4))),
      .new (.box 26 (PR (Zv C k5) (Zv E k6))),
      .val (Is (.bool false))] [.inl 0, .inl 1, .inl 2] [.inl 3] follows S0 rfl (by kernel_rfl) ?_ ?_
  · refine ⟨⟨⟨⟨trivial, ?_⟩, ?_⟩, ?_⟩, ?_⟩
    · exact owe_box rfl (wants_all rfl) rfl (opnd_slot 0 0 rfl (by kernel_rfl)) rfl (fun ρ w h => box_rat (shp_pr shp_zv shp_zv) ρ _ _ w h)
    · exact owe_box rfl (wants_all rfl) rfl (opnd_slot 1 1 rfl (by kernel_rfl)) rfl (fun ρ w h => box_rat (shp_pr shp_zv shp_zv) ρ _ _ w h)
    · exact owe_box rfl (wants_all rfl) rfl (opnd_slot 2 2 rfl (by kernel_rfl)) rfl (fun ρ w h => box_rat (shp_pr shp_zv shp_zv) ρ _ _ w h)
    · exact owe_move rfl (wants_all rfl) (Or.inr rfl) (opnd_const _) rfl
  intro B1 a1 W1 S1
  replace S1 : Sta w 155 [(3, (.box 26 (PR (Zv A k1) (Zv D k2)))), (4, (.box 26 (PR (Zv N k3) (Zv M k4)))), (5, (.box 26 (PR (Zv C k5) (Zv E k6))))] [(6, (Is (.bool false)))] B1 a1 W1 := S1
  refine wp_seq ?_
  refine wp_stmt_seq [.val (Is (.bool true)),
      .val (Is (.bool false))] [.inr 0, .inr 1, .inr 2] [.inl 1, .inr 0] follows S1 rfl (by kernel_rfl) ?_ ?_
  · refine ⟨⟨trivial, ?_⟩, ?_⟩
    · exact owe_call0 rfl (wants_all rfl) rfl  (fresh_is _) rfl (fun args w => by go_simp) g_awake
    · exact owe_un (x := .tmp 31) rfl (wants_all rfl) rfl (opnd_op 0 31 (by kernel_rfl) rfl) rfl (fun ρ w h1 => run_not ρ _ _ w _ h1)
  intro B2 a2 W2 S2
  replace S2 : Sta w 155 [(3, (.box 26 (PR (Zv A k1) (Zv D k2)))), (4, (.box 26 (PR (Zv N k3) (Zv M k4)))), (5, (.box 26 (PR (Zv C k5) (Zv E k6))))] [(32, (Is (.bool false))), (6, (Is (.bool false)))] B2 a2 W2 := S2
  refine wp_cond_false (S2.bool 0 32 rfl) ?_
  refine wp_skip ?_
  refine thenN ?_
  refine wp_seq ?_
  refine wp_stmt_seq [.val (PR (Zv A k1) (Zv D k2)),
      .val (PR (Zv N k3) (Zv M k4)),
      .val (Is (.bool true)),
      .val (Is (.bool false)),
      .val (Is (.bool false)),
      .val (PR (Zv C k5) (Zv E k6)),
      .val (Is (.bool false)),
      .val (Is (.bool true)),
      .val (Is (.bool true))] [.inr 0, .inr 1, .inr 2] [.inl 8, .inr 0, .inr 1] follows S2 rfl (by kernel_rfl) ?_ ?_
  · refine ⟨⟨⟨⟨⟨⟨⟨⟨⟨trivial, ?_⟩, ?_⟩, ?_⟩, ?_⟩, ?_⟩, ?_⟩, ?_⟩, ?_⟩, ?_⟩
    · exact owe_load rfl (wants_all rfl) rfl (k := 0) rfl (by kernel_rfl) (loads_of strct_rat (shp_pr shp_zv shp_zv)) rfl
    · exact owe_load rfl (wants_all rfl) rfl (k := 1) rfl (by kernel_rfl) (loads_of strct_rat (shp_pr shp_zv shp_zv)) rfl
    · exact owe_call2 rfl (wants_all rfl) rfl (opnd_op 0 33 (by kernel_rfl) rfl) (opnd_op 1 34 (by kernel_rfl) rfl) (fresh_is _) rfl (fun args w => by go_simp) (fun w u v h1 h2 => g_both_t sD sM (by omega) (by omega) (by omega) (by omega) w u v ((pr_imp (fun _ _ h => h) (fun _ _ h => h)) _ _ h1) ((pr_imp (fun _ _ h => h) (fun _ _ h => h)) _ _ h2))
    · exact owe_un (x := .tmp 35) rfl (wants_all rfl) rfl (opnd_op 2 35 (by kernel_rfl) rfl) rfl (fun ρ w h1 => run_not ρ _ _ w _ h1)
    · exact owe_move rfl (wants_all rfl) (Or.inl rfl) (opnd_op 3 36 (by kernel_rfl) rfl) rfl
    · exact owe_load rfl (wants_if 4 37 rfl (by kernel_rfl) rfl) rfl (k := 2) rfl (by kernel_rfl) (loads_of strct_rat (shp_pr shp_zv shp_zv)) rfl
    · exact owe_call1 rfl (wants_if 4 37 rfl (by kernel_rfl) rfl) rfl (opnd_op 5 38 (by kernel_rfl) rfl) (fresh_is _) rfl (fun args w => by go_simp) (fun w u0 h0 => Gives.cast ((fun w u h1 => g_rok (by omega) (by omega) w u ((pr_imp (fun _ _ h => h) (fun _ _ h => h)) _ _ h1)) w u0 h0) (by rw [sE]))
    · exact owe_un (x := .tmp 39) rfl (wants_if 4 37 rfl (by kernel_rfl) rfl) rfl (opnd_op 6 39 (by kernel_rfl) rfl) rfl (fun ρ w h1 => run_not ρ _ _ w _ h1)
    · exact owe_pick rfl (wants_all rfl) rfl (opnd_op 4 37 (by kernel_rfl) rfl) (fun h => nomatch h) (fun _ => (opnd_op 7 40 (by kernel_rfl) rfl)) rfl
  intro B3 a3 W3 S3
  replace S3 : Sta w 155 [(3, (.box 26 (PR (Zv A k1) (Zv D k2)))), (4, (.box 26 (PR (Zv N k3) (Zv M k4)))), (5, (.box 26 (PR (Zv C k5) (Zv E k6))))] [(41, (Is (.bool true))), (32, (Is (.bool false))), (6, (Is (.bool false)))] B3 a3 W3 := S3
  refine wp_cond_true (S3.bool 0 41 rfl) ?_
  refine wp_stmt_seq [.val (Is (.bool true))] [.inr 0, .inr 1, .inr 2] [.inl 0, .inr 0, .inr 1] follows S3 rfl (by kernel_rfl) ?_ ?_
  · refine ⟨trivial, ?_⟩
    · exact owe_move rfl (wants_all rfl) (Or.inr rfl) (opnd_const _) rfl
  intro B4 a4 W4 S4
  replace S4 : Sta w 155 [(3, (.box 26 (PR (Zv A k1) (Zv D k2)))), (4, (.box 26 (PR (Zv N k3) (Zv M k4)))), (5, (.box 26 (PR (Zv C k5) (Zv E k6))))] [(6, (Is (.bool true))), (41, (Is (.bool true))), (32, (Is (.bool false)))] B4 a4 W4 := S4
  refine wp_ret ?_
  refine thenR ?_
  exact end_one S4 rfl (res_tmp S4 0 6 rfl)


theorem cancel {k a b : Int} (hk : k ≠ 0) (h : k * a = k * b) : a = b := Int.eq_of_mul_eq_mul_left hk h
set_option maxHeartbeats 4000000 in
theorem field_all (w : World) (A N C D M E : Int) (k1 k2 k3 k4 k5 k6 : Nat) (u v x : Value) (h : Rv A D k1 k2 u w) (h' : Rv N M k3 k4 v w) (h'' : Rv C E k5 k6 x w) (hk1 : k1 ≤ 1048576) (hk2 : k2 ≤ 1048576) (hk3 : k3 ≤ 1048576) (hk4 : k4 ≤ 1048576) (hk5 : k5 ≤ 1048576) (hk6 : k6 ≤ 1048576) :
    Calls Tryd.prog 3 #[u, v, x] w (Gives (IS (.bool true)) w) := by
  cases hmay : (decide (0 < D.sign) && decide (0 < M.sign)) with
  | false => exact field_b1 w A N C D M E k1 k2 k3 k4 k5 k6 u v x h h' h'' hk1 hk2 hk3 hk4 hk5 hk6 hmay
  | true =>
    simp only [Bool.and_eq_true] at hmay
    obtain ⟨sD, sM⟩ := hmay
    cases sE : decide (0 < E.sign) with
    | false => exact field_b2 w A N C D M E k1 k2 k3 k4 k5 k6 u v x h h' h'' hk1 hk2 hk3 hk4 hk5 hk6 sD sM sE
    | true =>
      obtain ⟨D, rfl, hD⟩ := pos_of_sign sD
      obtain ⟨M, rfl, hM⟩ := pos_of_sign sM
      obtain ⟨E, rfl, hE⟩ := pos_of_sign sE
      obtain ⟨lA, lD⟩ : (digs A.natAbs).length ≤ 1048576 ∧ (digs D).length ≤ 1048576 := by
        obtain ⟨_, _, _, _, _, a, b⟩ := h
        have := zvn_len a; have := zvn_len b; rw [Int.natAbs_natCast] at this; omega
      obtain ⟨lN, lM⟩ : (digs N.natAbs).length ≤ 1048576 ∧ (digs M).length ≤ 1048576 := by
        obtain ⟨_, _, _, _, _, a, b⟩ := h'
        have := zvn_len a; have := zvn_len b; rw [Int.natAbs_natCast] at this; omega
      obtain ⟨lC, lE⟩ : (digs C.natAbs).length ≤ 1048576 ∧ (digs E).length ≤ 1048576 := by
        obtain ⟨_, _, _, _, _, a, b⟩ := h''
        have := zvn_len a; have := zvn_len b; rw [Int.natAbs_natCast] at this; omega
      obtain ⟨nab, enab⟩ : ∃ n, nR (adN A N D M) (D * M) = n := ⟨_, rfl⟩
      obtain ⟨dab, edab⟩ : ∃ n, dR (adN A N D M) (D * M) = n := ⟨_, rfl⟩
      obtain ⟨nbc, enbc⟩ : ∃ n, nR (adN N C M E) (M * E) = n := ⟨_, rfl⟩
      obtain ⟨dbc, edbc⟩ : ∃ n, dR (adN N C M E) (M * E) = n := ⟨_, rfl⟩
      obtain ⟨nl, enl⟩ : ∃ n, nR (adN nab C dab E) (dab * E) = n := ⟨_, rfl⟩
      obtain ⟨dl, edl⟩ : ∃ n, dR (adN nab C dab E) (dab * E) = n := ⟨_, rfl⟩
      obtain ⟨np, enp⟩ : ∃ n, nR (A * nbc) (D * dbc) = n := ⟨_, rfl⟩
      obtain ⟨dp, edp⟩ : ∃ n, dR (A * nbc) (D * dbc) = n := ⟨_, rfl⟩
      obtain ⟨nq, enq⟩ : ∃ n, nR (A * N) (D * M) = n := ⟨_, rfl⟩
      obtain ⟨dq, edq⟩ : ∃ n, dR (A * N) (D * M) = n := ⟨_, rfl⟩
      obtain ⟨ns, ens⟩ : ∃ n, nR (A * C) (D * E) = n := ⟨_, rfl⟩
      obtain ⟨ds, eds⟩ : ∃ n, dR (A * C) (D * E) = n := ⟨_, rfl⟩
      obtain ⟨nz, enz⟩ : ∃ n, nR A D = n := ⟨_, rfl⟩
      obtain ⟨dz, edz⟩ : ∃ n, dR A D = n := ⟨_, rfl⟩
      have DM := Nat.mul_ne_zero hD hM
      have ME := Nat.mul_ne_zero hM hE
      have DE := Nat.mul_ne_zero hD hE
      have zab : dab ≠ 0 := edab ▸ dR_ne DM
      have zbc : dbc ≠ 0 := edbc ▸ dR_ne ME
      have zq : dq ≠ 0 := edq ▸ dR_ne DM
      have zs : ds ≠ 0 := eds ▸ dR_ne DE
      have zz : dz ≠ 0 := edz ▸ dR_ne hD
      have abE := Nat.mul_ne_zero zab hE
      have Dbc := Nat.mul_ne_zero hD zbc
      have qs := Nat.mul_ne_zero zq zs
      have abM := Nat.mul_ne_zero zab hM
      have zl : dl ≠ 0 := edl ▸ dR_ne abE
      have zp : dp ≠ 0 := edp ▸ dR_ne Dbc
      have lnab : (digs nab.natAbs).length ≤ 2097153 := enab ▸ nR_len (adN_len lA lD lN lM)
      have ldab : (digs dab).length ≤ 2097152 := edab ▸ dR_len (len_mul lD lM)
      have lnbc : (digs nbc.natAbs).length ≤ 2097153 := enbc ▸ nR_len (adN_len lN lM lC lE)
      have ldbc : (digs dbc).length ≤ 2097152 := edbc ▸ dR_len (len_mul lM lE)
      have lnl : (digs nl.natAbs).length ≤ 2097153 + 1048576 + 1 := enl ▸ nR_len (adN_len lnab (by omega) lC lE)
      have ldl : (digs dl).length ≤ 2097152 + 1048576 := edl ▸ dR_len (len_mul ldab lE)
      have lnp : (digs np.natAbs).length ≤ 1048576 + 2097153 := enp ▸ nR_len (dl_mul lA lnbc)
      have ldp : (digs dp).length ≤ 1048576 + 2097152 := edp ▸ dR_len (len_mul lD ldbc)
      have lnq : (digs nq.natAbs).length ≤ 1048576 + 1048576 := enq ▸ nR_len (dl_mul lA lN)
      have ldq : (digs dq).length ≤ 1048576 + 1048576 := edq ▸ dR_len (len_mul lD lM)
      have lns : (digs ns.natAbs).length ≤ 1048576 + 1048576 := ens ▸ nR_len (dl_mul lA lC)
      have lds : (digs ds).length ≤ 1048576 + 1048576 := eds ▸ dR_len (len_mul lD lE)
      have lnz : (digs nz.natAbs).length ≤ 1048576 := enz ▸ nR_len lA
      have ldz : (digs dz).length ≤ 1048576 := edz ▸ dR_len lD
      have iD : (D : Int) ≠ 0 := by omega
      have iM : (M : Int) ≠ 0 := by omega
      have iE : (E : Int) ≠ 0 := by omega
      have fab := fr enab edab
      have fbc := fr enbc edbc
      have fq := fr enq edq
      have fs := fr ens eds
      have eba : RN (nR (adN N A M D) (M * D)) (dR (adN N A M D) (M * D)) = RN nab dab := low_eq (Nat.mul_ne_zero hM hD) DM (by simp only [Int.natCast_mul]; unfold adN; grind) enab edab
      have er : RN (nR (adN A nbc D dbc) (D * dbc)) (dR (adN A nbc D dbc) (D * dbc)) = RN nl dl := low_eq Dbc abE (by
        simp only [Int.natCast_mul] at fab fbc ⊢
        unfold adN at fab fbc ⊢
        refine cancel iM ?_
        grind) enl edl
      have et : RN (nR (adN nq ns dq ds) (dq * ds)) (dR (adN nq ns dq ds) (dq * ds)) = RN np dp := low_eq qs Dbc (by
        simp only [Int.natCast_mul] at fbc fq fs ⊢
        unfold adN at fbc ⊢
        refine cancel (Int.mul_ne_zero (Int.mul_ne_zero iD iM) iE) ?_
        grind) enp edp
      have ek : RN (nR (adN nab (-N) dab M) (dab * M)) (dR (adN nab (-N) dab M) (dab * M)) = RN nz dz := low_eq abM hD (by
        simp only [Int.natCast_mul] at fab ⊢
        unfold adN at fab ⊢
        grind) enz edz
      by_cases hN : N = 0
      · exact field_w0 w A N C D M E k1 k2 k3 k4 k5 k6 u v x h h' h'' hk1 hk2 hk3 hk4 hk5 hk6 sD sM sE hD hM hE nab dab enab edab (by omega) (by omega) zab nbc dbc enbc edbc (by omega) (by omega) zbc nl dl enl edl (by omega) (by omega) zl np dp enp edp (by omega) (by omega) zp nq dq enq edq (by omega) (by omega) zq ns ds ens eds (by omega) (by omega) zs nz dz enz edz (by omega) (by omega) zz eba er et ek (by rw [hN]; rfl)
      · have edv : RN (nR (dvN nq N M) (dq * (N).natAbs)) (dR (dvN nq N M) (dq * (N).natAbs)) = RN nz dz := low_eq (Nat.mul_ne_zero zq (by omega)) hD (by
          simp only [Int.natCast_mul] at fq ⊢
          unfold dvN sw ng
          rcases Int.lt_trichotomy N 0 with h0 | h0 | h0
          · rw [show ((N.natAbs : Nat) : Int) = -N from by omega, if_pos (by simpa using h0)]
            grind
          · exact absurd h0 hN
          · rw [show ((N.natAbs : Nat) : Int) = N from by omega, if_neg (by simp; omega)]
            grind) enz edz
        exact field_w1 w A N C D M E k1 k2 k3 k4 k5 k6 u v x h h' h'' hk1 hk2 hk3 hk4 hk5 hk6 sD sM sE hD hM hE nab dab enab edab (by omega) (by omega) zab nbc dbc enbc edbc (by omega) (by omega) zbc nl dl enl edl (by omega) (by omega) zl np dp enp edp (by omega) (by omega) zp nq dq enq edq (by omega) (by omega) zq ns ds ens eds (by omega) (by omega) zs nz dz enz edz (by omega) (by omega) zz eba er et ek hN (fun e => hN (Int.sign_eq_zero_iff_zero.1 e)) edv
theorem ratfield_walk (w : World) (s1 : Bool) (p1 : Option Addr) (n1 c1 : Nat) (xs1 : List Nat) (t1 : Bool) (q1 : Option Addr) (m1 d1 : Nat) (ys1 : List Nat) (s2 : Bool) (p2 : Option Addr) (n2 c2 : Nat) (xs2 : List Nat) (t2 : Bool) (q2 : Option Addr) (m2 d2 : Nat) (ys2 : List Nat) (s3 : Bool) (p3 : Option Addr) (n3 c3 : Nat) (xs3 : List Nat) (t3 : Bool) (q3 : Option Addr) (m3 d3 : Nat) (ys3 : List Nat)
    (h1 : Sl w p1 n1 c1 xs1) (g1 : Sl w q1 m1 d1 ys1) (h2 : Sl w p2 n2 c2 xs2) (g2 : Sl w q2 m2 d2 ys2) (h3 : Sl w p3 n3 c3 xs3) (g3 : Sl w q3 m3 d3 ys3) (b1 : c1 ≤ 1048576) (b2 : d1 ≤ 1048576) (b3 : c2 ≤ 1048576) (b4 : d2 ≤ 1048576) (b5 : c3 ≤ 1048576) (b6 : d3 ≤ 1048576) :
    Calls Tryd.prog 3 #[.agg #[.bool s1, .slice p1 n1 c1, .bool t1, .slice q1 m1 d1], .agg #[.bool s2, .slice p2 n2 c2, .bool t2, .slice q2 m2 d2], .agg #[.bool s3, .slice p3 n3 c3, .bool t3, .slice q3 m3 d3]] w fun e w' => e = .returned (.bool true) ∧ Below w.heap.size w w' := by
  have e1 := h1.cap; have e2 := g1.cap; have e3 := h2.cap; have e4 := g2.cap; have e5 := h3.cap; have e6 := g3.cap
  refine (field_all w _ _ _ _ _ _ n1 m1 n2 m2 n3 m3 _ _ _ (rv_in h1 g1) (rv_in h2 g2) (rv_in h3 g3) (by omega) (by omega) (by omega) (by omega) (by omega) (by omega)).mono ?_
  rintro e w' ⟨v, rfl, hb, hv⟩
  obtain rfl : v = _ := hv
  exact ⟨rfl, hb⟩
end Go.Proofs.YteamecapeghnoaaDoor
