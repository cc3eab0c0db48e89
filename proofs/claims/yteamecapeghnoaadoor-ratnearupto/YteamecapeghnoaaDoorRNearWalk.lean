/-
  RatNear's walk: it returns true and writes nothing that was there.
-/
import Derived.Test.YteamecapeghnoaaDoorSetS
import Derived.Test.YteamecapeghnoaaDoorRNearMath
namespace Go.Proofs.YteamecapeghnoaaDoor
open Go Go.RowKit Nt
set_option linter.unusedSimpArgs false
set_option linter.unusedVariables false
set_option maxRecDepth 20000

set_option maxHeartbeats 400000 in
theorem half_w (w : World) (n : Int) (h1 : -9223372036854775808 ≤ n) (h2 : n < 9223372036854775808) :
    Calls Tryd.prog 19 #[.int .i64 n] w (Gives (PRF (ZN (n)) (ZN (2))) w) := by
  refine calls_sta (sl := [(0, (Is (.int .i64 n)))]) Tryd.func19 rfl Tryd.ntmps19 (by simp) (args_cons rfl (is_has _) args_nil) ?_
  intro a0 S0
  refine wp_stmt_seq [.new (.box 26 (Is (.agg #[.bool false, .slice none 0 0, .bool false, .slice none 0 0])))] [.inl 0] [.inr 0] follows S0 rfl (by kernel_rfl) ?_ ?_
  · refine ⟨trivial, ?_⟩
    · exact owe_new rfl (wants_all rfl) rfl rfl (fun ρ w => alloc_rat ρ _ w)
  intro B1 a1 W1 S1
  replace S1 : Sta w 7 [(2, (.box 26 (Is (.agg #[.bool false, .slice none 0 0, .bool false, .slice none 0 0]))))] [(0, (Is (.int .i64 n)))] B1 a1 W1 := S1
  refine wp_stmt_seq [.val (Is (.int .i64 n)),
      .val ((ZN (n)) w.heap.size),
      .val ((ZN (2)) w.heap.size),
      .val (PR ((ZN (n)) w.heap.size) ((ZN (2)) w.heap.size)),
      .put (.inl 2) (.box 26 (PR ((ZN (n)) w.heap.size) ((ZN (2)) w.heap.size)))] [.inr 0] [] follows S1 rfl (by kernel_rfl) ?_ ?_
  · refine ⟨⟨⟨⟨⟨trivial, ?_⟩, ?_⟩, ?_⟩, ?_⟩, ?_⟩
    · exact owe_move rfl (wants_all rfl) (Or.inl rfl) (opnd_slot 0 0 rfl (by kernel_rfl)) rfl
    · exact owe_call1 rfl (wants_all rfl) rfl (opnd_op 0 3 (by kernel_rfl) rfl) (fresh_zn _) rfl (fun args w => by go_simp) (g_rof n (by omega) (by omega))
    · exact owe_call1 rfl (wants_all rfl) rfl (opnd_const _) (fresh_zn _) rfl (fun args w => by go_simp) (g_rof 2 (by omega) (by omega))
    · exact owe_build2 rfl (wants_all rfl) rfl (opnd_op 1 4 (by kernel_rfl) rfl) (opnd_op 2 5 (by kernel_rfl) rfl) shp_zn shp_zn rfl
    · exact owe_set rfl (wants_all rfl) rfl (k := 0) rfl (by kernel_rfl) (opnd_op 3 6 (by kernel_rfl) rfl) (stores_of strct_rat shp_r0 (shp_pr shp_zn shp_zn)) rfl
  intro B2 a2 W2 S2
  replace S2 : Sta w 7 [(2, (.box 26 (PR ((ZN (n)) w.heap.size) ((ZN (2)) w.heap.size))))] [] B2 a2 W2 := S2
  refine wp_ret ?_
  exact end_one S2 rfl (res_cell S2 0 2 rfl strct_rat (shp_pr shp_zn shp_zn))

theorem g_half (n : Int) (h1 : -9223372036854775808 ≤ n) (h2 : n < 9223372036854775808) : ∀ w u, Is (.int .i64 n) u w → Calls Tryd.prog 19 #[u] w (Gives (RN n 2) w) := fun w u e => by
  obtain rfl : u = _ := e
  exact half_w w n h1 h2

set_option maxHeartbeats 4000000 in
theorem near_w (w : World) (A : Int) (D k1 k2 : Nat) (u : Value) (h : Rv A (D : Int) k1 k2 u w) (hk1 : k1 ≤ 1048576) (hk2 : k2 ≤ 1048576) (hD : D ≠ 0) (sD : decide (0 < (D : Int).sign) = true) (n f na nb : Int) (da db : Nat) (en : nr A (D : Int) = n) (ef : fl A (D : Int) = f) (ena : nR (adN n (-A) 1 D) (1 * D) = na) (eda : dR (adN n (-A) 1 D) (1 * D) = da) (enb : nR (adN A (-f) D 1) (D * 1) = nb) (edb : dR (adN A (-f) D 1) (D * 1) = db) (ln : (digs n.natAbs).length ≤ 1048577) (lf : (digs f.natAbs).length ≤ 1048577) (lna : (digs na.natAbs).length ≤ 8388608) (lda : (digs da).length ≤ 8388608) (lnb : (digs nb.natAbs).length ≤ 8388608) (ldb : (digs db).length ≤ 8388608) (zda : da ≠ 0) (zdb : db ≠ 0) (q1 : (na * ((2 : Nat) : Int) - 1 * ((da : Nat) : Int)).sign ≤ 0) (q2 : 0 < (na * ((2 : Nat) : Int) - (-1) * ((da : Nat) : Int)).sign) (q3 : 0 ≤ (nb * ((1 : Nat) : Int) - 0 * ((db : Nat) : Int)).sign) (q4 : (nb * ((2 : Nat) : Int) - 2 * ((db : Nat) : Int)).sign < 0) :
    Calls Tryd.prog 4 #[u] w (Gives (IS (.bool true)) w) := by
  have l0 : (digs (0 : Int).natAbs).length ≤ 0 := digs_length_le (k := 0) (by decide)
  have l1 : (digs 1).length ≤ 1 := digs_length_le (by decide)
  have l2 : (digs 2).length ≤ 1 := digs_length_le (by decide)
  have l1i : (digs (1 : Int).natAbs).length ≤ 1 := dl_small (by decide)
  have l2i : (digs (2 : Int).natAbs).length ≤ 1 := dl_small (by decide)
  have lmi : (digs (-1 : Int).natAbs).length ≤ 1 := dl_small (by decide)
  refine calls_sta (sl := [(0, (PR (Zv A k1) (Zv ((D : Int)) k2)))]) Tryd.func4 rfl Tryd.ntmps4 (by simp) (args_cons rfl (rv_has h) args_nil) ?_
  intro a0 S0
  refine wp_stmt_seq [.new (.box 26 (PR (Zv A k1) (Zv ((D : Int)) k2))),
      .val (Is (.bool false))] [.inl 0] [.inl 1] follows S0 rfl (by kernel_rfl) ?_ ?_
  · refine ⟨⟨trivial, ?_⟩, ?_⟩
    · exact owe_box rfl (wants_all rfl) rfl (opnd_slot 0 0 rfl (by kernel_rfl)) rfl (fun ρ w h => box_rat (shp_pr shp_zv shp_zv) ρ _ _ w h)
    · exact owe_move rfl (wants_all rfl) (Or.inr rfl) (opnd_const _) rfl
  intro B1 a1 W1 S1
  replace S1 : Sta w 107 [(1, (.box 26 (PR (Zv A k1) (Zv ((D : Int)) k2))))] [(2, (Is (.bool false)))] B1 a1 W1 := S1
  refine wp_seq ?_
  refine wp_stmt_seq [.val (Is (.bool true)),
      .val (Is (.bool false))] [.inr 0] [.inl 1, .inr 0] follows S1 rfl (by kernel_rfl) ?_ ?_
  · refine ⟨⟨trivial, ?_⟩, ?_⟩
    · exact owe_call0 rfl (wants_all rfl) rfl  (fresh_is _) rfl (fun args w => by go_simp) g_awake
    · exact owe_un (x := .tmp 19) rfl (wants_all rfl) rfl (opnd_op 0 19 (by kernel_rfl) rfl) rfl (fun ρ w h1 => run_not ρ _ _ w _ h1)
  intro B2 a2 W2 S2
  replace S2 : Sta w 107 [(1, (.box 26 (PR (Zv A k1) (Zv ((D : Int)) k2))))] [(20, (Is (.bool false))), (2, (Is (.bool false)))] B2 a2 W2 := S2
  refine wp_cond_false (S2.bool 0 20 rfl) ?_
  refine wp_skip ?_
  refine thenN ?_
  refine wp_seq ?_
  refine wp_stmt_seq [.val (PR (Zv A k1) (Zv ((D : Int)) k2)),
      .val (Is (.bool true)),
      .val (Is (.bool false))] [.inr 0] [.inl 2, .inr 0, .inr 1] follows S2 rfl (by kernel_rfl) ?_ ?_
  · refine ⟨⟨⟨trivial, ?_⟩, ?_⟩, ?_⟩
    · exact owe_load rfl (wants_all rfl) rfl (k := 0) rfl (by kernel_rfl) (loads_of strct_rat (shp_pr shp_zv shp_zv)) rfl
    · exact owe_call1 rfl (wants_all rfl) rfl (opnd_op 0 21 (by kernel_rfl) rfl) (fresh_is _) rfl (fun args w => by go_simp) (fun w u0 h0 => Gives.cast ((fun w u h1 => g_rok (by omega) (by omega) w u ((pr_imp (fun _ _ h => h) (fun _ _ h => h)) _ _ h1)) w u0 h0) (by rw [sD]))
    · exact owe_un (x := .tmp 22) rfl (wants_all rfl) rfl (opnd_op 1 22 (by kernel_rfl) rfl) rfl (fun ρ w h1 => run_not ρ _ _ w _ h1)
  intro B3 a3 W3 S3
  replace S3 : Sta w 107 [(1, (.box 26 (PR (Zv A k1) (Zv ((D : Int)) k2))))] [(23, (Is (.bool false))), (20, (Is (.bool false))), (2, (Is (.bool false)))] B3 a3 W3 := S3
  refine wp_cond_false (S3.bool 0 23 rfl) ?_
  refine wp_skip ?_
  refine thenN ?_
  refine wp_stmt_seq [.val (PR (Zv A k1) (Zv ((D : Int)) k2)),
      .val ((TWO (ZN (n)) (IS (.int .i64 0))) w.heap.size),
      .val ((TWO (ZN (n)) (IS (.int .i64 0))) w.heap.size),
      .val ((ZN (n)) w.heap.size),
      .val (Is (.int .i64 0)),
      .new (.box 24 (Is (.agg #[.bool false, .slice none 0 0]))),
      .put (.inr 5) (.box 24 ((ZN (n)) w.heap.size)),
      .val (Is (.int .i64 0))] [.inr 0, .inl 5] [.inr 0, .inr 1, .inr 2] follows S3 rfl (by kernel_rfl) ?_ ?_
  · refine ⟨⟨⟨⟨⟨⟨⟨⟨trivial, ?_⟩, ?_⟩, ?_⟩, ?_⟩, ?_⟩, ?_⟩, ?_⟩, ?_⟩
    · exact owe_load rfl (wants_all rfl) rfl (k := 0) rfl (by kernel_rfl) (loads_of strct_rat (shp_pr shp_zv shp_zv)) rfl
    · exact owe_call1 rfl (wants_all rfl) rfl (opnd_op 0 25 (by kernel_rfl) rfl) (fresh_two (fresh_zn _) (fresh_is _)) rfl (fun args w => by go_simp) (fun w u0 h0 => Gives.cast ((fun w u h1 => g_ratnear hD (by omega) (by omega) w u ((pr_imp (fun _ _ h => h) (fun _ _ h => h)) _ _ h1)) w u0 h0) (by rw [en]))
    · exact owe_move rfl (wants_all rfl) (Or.inl rfl) (opnd_op 1 26 (by kernel_rfl) rfl) rfl
    · exact owe_ext2 rfl (wants_all rfl) rfl (opnd_op 2 24 (by kernel_rfl) rfl) (Or.inl ⟨rfl, rfl⟩) rfl
    · exact owe_ext2 rfl (wants_all rfl) rfl (opnd_op 2 24 (by kernel_rfl) rfl) (Or.inr ⟨rfl, rfl⟩) rfl
    · exact owe_new rfl (wants_all rfl) rfl rfl (fun ρ w => alloc_int ρ _ w)
    · exact owe_put 5 rfl (wants_all rfl) rfl (by kernel_rfl) rfl (opnd_op 3 27 (by kernel_rfl) rfl) (stores_of strct_int shp_z0 shp_zn) rfl
    · exact owe_move rfl (wants_all rfl) (Or.inr rfl) (opnd_op 4 28 (by kernel_rfl) rfl) rfl
  intro B4 a4 W4 S4
  replace S4 : Sta w 107 [(1, (.box 26 (PR (Zv A k1) (Zv ((D : Int)) k2)))), (3, (.box 24 ((ZN (n)) w.heap.size)))] [(23, (Is (.bool false))), (20, (Is (.bool false))), (2, (Is (.bool false)))] B4 a4 W4 := S4
  refine wp_stmt_seq [.val (PR (Zv A k1) (Zv ((D : Int)) k2)),
      .val ((TWO (ZN (f)) (IS (.int .i64 0))) w.heap.size),
      .val ((TWO (ZN (f)) (IS (.int .i64 0))) w.heap.size),
      .val ((ZN (f)) w.heap.size),
      .val (Is (.int .i64 0)),
      .new (.box 24 (Is (.agg #[.bool false, .slice none 0 0]))),
      .put (.inr 5) (.box 24 ((ZN (f)) w.heap.size)),
      .val (Is (.int .i64 0))] [.inr 0, .inr 1, .inl 5] [.inr 0, .inr 1, .inr 2] follows S4 rfl (by kernel_rfl) ?_ ?_
  · refine ⟨⟨⟨⟨⟨⟨⟨⟨trivial, ?_⟩, ?_⟩, ?_⟩, ?_⟩, ?_⟩, ?_⟩, ?_⟩, ?_⟩
    · exact owe_load rfl (wants_all rfl) rfl (k := 0) rfl (by kernel_rfl) (loads_of strct_rat (shp_pr shp_zv shp_zv)) rfl
    · exact owe_call1 rfl (wants_all rfl) rfl (opnd_op 0 30 (by kernel_rfl) rfl) (fresh_two (fresh_zn _) (fresh_is _)) rfl (fun args w => by go_simp) (fun w u0 h0 => Gives.cast ((fun w u h1 => g_ratfloor hD (by omega) (by omega) w u ((pr_imp (fun _ _ h => h) (fun _ _ h => h)) _ _ h1)) w u0 h0) (by rw [ef]))
    · exact owe_move rfl (wants_all rfl) (Or.inl rfl) (opnd_op 1 31 (by kernel_rfl) rfl) rfl
    · exact owe_ext2 rfl (wants_all rfl) rfl (opnd_op 2 29 (by kernel_rfl) rfl) (Or.inl ⟨rfl, rfl⟩) rfl
    · exact owe_ext2 rfl (wants_all rfl) rfl (opnd_op 2 29 (by kernel_rfl) rfl) (Or.inr ⟨rfl, rfl⟩) rfl
    · exact owe_new rfl (wants_all rfl) rfl rfl (fun ρ w => alloc_int ρ _ w)
    · exact owe_put 5 rfl (wants_all rfl) rfl (by kernel_rfl) rfl (opnd_op 3 32 (by kernel_rfl) rfl) (stores_of strct_int shp_z0 shp_zn) rfl
    · exact owe_move rfl (wants_all rfl) (Or.inr rfl) (opnd_op 4 33 (by kernel_rfl) rfl) rfl
  intro B5 a5 W5 S5
  replace S5 : Sta w 107 [(1, (.box 26 (PR (Zv A k1) (Zv ((D : Int)) k2)))), (3, (.box 24 ((ZN (n)) w.heap.size))), (5, (.box 24 ((ZN (f)) w.heap.size)))] [(23, (Is (.bool false))), (20, (Is (.bool false))), (2, (Is (.bool false)))] B5 a5 W5 := S5
  refine wp_stmt_seq [.val ((ZN (n)) w.heap.size),
      .val ((RN n 1) w.heap.size),
      .val (PR (Zv A k1) (Zv ((D : Int)) k2)),
      .val ((TWO (RN na da) (IS (.int .i64 0))) w.heap.size),
      .val ((TWO (RN na da) (IS (.int .i64 0))) w.heap.size),
      .val ((RN na da) w.heap.size),
      .val (Is (.int .i64 0)),
      .new (.box 26 (Is (.agg #[.bool false, .slice none 0 0, .bool false, .slice none 0 0]))),
      .put (.inr 7) (.box 26 ((RN na da) w.heap.size)),
      .val (Is (.int .i64 0))] [.inr 0, .inr 1, .inr 2, .inl 7] [.inl 9, .inr 0, .inr 1, .inr 2] follows S5 rfl (by kernel_rfl) ?_ ?_
  · refine ⟨⟨⟨⟨⟨⟨⟨⟨⟨⟨trivial, ?_⟩, ?_⟩, ?_⟩, ?_⟩, ?_⟩, ?_⟩, ?_⟩, ?_⟩, ?_⟩, ?_⟩
    · exact owe_load rfl (wants_all rfl) rfl (k := 1) rfl (by kernel_rfl) (loads_of strct_int shp_zn) rfl
    · exact owe_call1 rfl (wants_all rfl) rfl (opnd_op 0 35 (by kernel_rfl) rfl) (fresh_rn _ _) rfl (fun args w => by go_simp) (fun w u h1 => g_ratof (by omega) w u ((zn_zv ln) _ _ h1))
    · exact owe_load rfl (wants_all rfl) rfl (k := 0) rfl (by kernel_rfl) (loads_of strct_rat (shp_pr shp_zv shp_zv)) rfl
    · exact owe_call2 rfl (wants_all rfl) rfl (opnd_op 1 36 (by kernel_rfl) rfl) (opnd_op 2 37 (by kernel_rfl) rfl) (fresh_two (fresh_rn _ _) (fresh_is _)) rfl (fun args w => by go_simp) (fun w u0 u1 h0 h1 => Gives.cast ((fun w u v h1 h2 => g_ratsub (by first | assumption | decide) (by first | assumption | decide) (by omega) (by omega) (by omega) (by omega) w u v ((rn_rv ln l1) _ _ h1) ((pr_imp (fun _ _ h => h) (fun _ _ h => h)) _ _ h2)) w u0 u1 h0 h1) (by rw [ena, eda]))
    · exact owe_move rfl (wants_all rfl) (Or.inl rfl) (opnd_op 3 38 (by kernel_rfl) rfl) rfl
    · exact owe_ext2 rfl (wants_all rfl) rfl (opnd_op 4 34 (by kernel_rfl) rfl) (Or.inl ⟨rfl, rfl⟩) rfl
    · exact owe_ext2 rfl (wants_all rfl) rfl (opnd_op 4 34 (by kernel_rfl) rfl) (Or.inr ⟨rfl, rfl⟩) rfl
    · exact owe_new rfl (wants_all rfl) rfl rfl (fun ρ w => alloc_rat ρ _ w)
    · exact owe_put 7 rfl (wants_all rfl) rfl (by kernel_rfl) rfl (opnd_op 5 39 (by kernel_rfl) rfl) (stores_of strct_rat shp_r0 (shp_pr shp_zn shp_zn)) rfl
    · exact owe_move rfl (wants_all rfl) (Or.inr rfl) (opnd_op 6 40 (by kernel_rfl) rfl) rfl
  intro B6 a6 W6 S6
  replace S6 : Sta w 107 [(1, (.box 26 (PR (Zv A k1) (Zv ((D : Int)) k2)))), (3, (.box 24 ((ZN (n)) w.heap.size))), (5, (.box 24 ((ZN (f)) w.heap.size))), (7, (.box 26 ((RN na da) w.heap.size)))] [(8, (Is (.int .i64 0))), (23, (Is (.bool false))), (20, (Is (.bool false))), (2, (Is (.bool false)))] B6 a6 W6 := S6
  refine wp_stmt_seq [.val ((RN na da) w.heap.size),
      .val ((RN 1 2) w.heap.size),
      .val ((TWO (IS (.int .i64 (na * ((2 : Nat) : Int) - 1 * ((da : Nat) : Int)).sign)) (IS (.int .i64 0))) w.heap.size),
      .val ((TWO (IS (.int .i64 (na * ((2 : Nat) : Int) - 1 * ((da : Nat) : Int)).sign)) (IS (.int .i64 0))) w.heap.size),
      .val (Is (.int .i64 (na * ((2 : Nat) : Int) - 1 * ((da : Nat) : Int)).sign)),
      .val (Is (.int .i64 0)),
      .val (Is (.int .i64 (na * ((2 : Nat) : Int) - 1 * ((da : Nat) : Int)).sign)),
      .val (Is (.int .i64 0))] [.inr 0, .inr 1, .inr 2, .inr 3] [.inl 6, .inl 7, .inr 0, .inr 1, .inr 2, .inr 3] follows S6 rfl (by kernel_rfl) ?_ ?_
  · refine ⟨⟨⟨⟨⟨⟨⟨⟨trivial, ?_⟩, ?_⟩, ?_⟩, ?_⟩, ?_⟩, ?_⟩, ?_⟩, ?_⟩
    · exact owe_load rfl (wants_all rfl) rfl (k := 3) rfl (by kernel_rfl) (loads_of strct_rat (shp_pr shp_zn shp_zn)) rfl
    · exact owe_call1 rfl (wants_all rfl) rfl (opnd_const _) (fresh_rn _ _) rfl (fun args w => by go_simp) (g_half 1 (by decide) (by decide))
    · exact owe_call2 rfl (wants_all rfl) rfl (opnd_op 0 42 (by kernel_rfl) rfl) (opnd_op 1 43 (by kernel_rfl) rfl) (fresh_two (fresh_is _) (fresh_is _)) rfl (fun args w => by go_simp) (fun w u v h1 h2 => g_ratcmp (by first | assumption | decide) (by first | assumption | decide) (by omega) (by omega) (by omega) (by omega) w u v ((rn_rv lna lda) _ _ h1) ((rn_rv l1i l2) _ _ h2))
    · exact owe_move rfl (wants_all rfl) (Or.inl rfl) (opnd_op 2 44 (by kernel_rfl) rfl) rfl
    · exact owe_ext2 rfl (wants_all rfl) rfl (opnd_op 3 41 (by kernel_rfl) rfl) (Or.inl ⟨rfl, rfl⟩) rfl
    · exact owe_ext2 rfl (wants_all rfl) rfl (opnd_op 3 41 (by kernel_rfl) rfl) (Or.inr ⟨rfl, rfl⟩) rfl
    · exact owe_move rfl (wants_all rfl) (Or.inr rfl) (opnd_op 4 45 (by kernel_rfl) rfl) rfl
    · exact owe_move rfl (wants_all rfl) (Or.inr rfl) (opnd_op 5 46 (by kernel_rfl) rfl) rfl
  intro B7 a7 W7 S7
  replace S7 : Sta w 107 [(1, (.box 26 (PR (Zv A k1) (Zv ((D : Int)) k2)))), (3, (.box 24 ((ZN (n)) w.heap.size))), (5, (.box 24 ((ZN (f)) w.heap.size))), (7, (.box 26 ((RN na da) w.heap.size)))] [(9, (Is (.int .i64 (na * ((2 : Nat) : Int) - 1 * ((da : Nat) : Int)).sign))), (10, (Is (.int .i64 0))), (8, (Is (.int .i64 0))), (23, (Is (.bool false))), (20, (Is (.bool false))), (2, (Is (.bool false)))] B7 a7 W7 := S7
  refine wp_stmt_seq [.val ((RN na da) w.heap.size),
      .val ((RN (-1) 2) w.heap.size),
      .val ((TWO (IS (.int .i64 (na * ((2 : Nat) : Int) - (-1) * ((da : Nat) : Int)).sign)) (IS (.int .i64 0))) w.heap.size),
      .val ((TWO (IS (.int .i64 (na * ((2 : Nat) : Int) - (-1) * ((da : Nat) : Int)).sign)) (IS (.int .i64 0))) w.heap.size),
      .val (Is (.int .i64 (na * ((2 : Nat) : Int) - (-1) * ((da : Nat) : Int)).sign)),
      .val (Is (.int .i64 0)),
      .val (Is (.int .i64 (na * ((2 : Nat) : Int) - (-1) * ((da : Nat) : Int)).sign)),
      .val (Is (.int .i64 0))] [.inr 0, .inr 1, .inr 2, .inr 3] [.inl 6, .inl 7, .inr 0, .inr 1, .inr 2, .inr 3, .inr 4, .inr 5] follows S7 rfl (by kernel_rfl) ?_ ?_
  · refine ⟨⟨⟨⟨⟨⟨⟨⟨trivial, ?_⟩, ?_⟩, ?_⟩, ?_⟩, ?_⟩, ?_⟩, ?_⟩, ?_⟩
    · exact owe_load rfl (wants_all rfl) rfl (k := 3) rfl (by kernel_rfl) (loads_of strct_rat (shp_pr shp_zn shp_zn)) rfl
    · exact owe_call1 rfl (wants_all rfl) rfl (opnd_const _) (fresh_rn _ _) rfl (fun args w => by go_simp) (g_half (-1) (by decide) (by decide))
    · exact owe_call2 rfl (wants_all rfl) rfl (opnd_op 0 48 (by kernel_rfl) rfl) (opnd_op 1 49 (by kernel_rfl) rfl) (fresh_two (fresh_is _) (fresh_is _)) rfl (fun args w => by go_simp) (fun w u v h1 h2 => g_ratcmp (by first | assumption | decide) (by first | assumption | decide) (by omega) (by omega) (by omega) (by omega) w u v ((rn_rv lna lda) _ _ h1) ((rn_rv lmi l2) _ _ h2))
    · exact owe_move rfl (wants_all rfl) (Or.inl rfl) (opnd_op 2 50 (by kernel_rfl) rfl) rfl
    · exact owe_ext2 rfl (wants_all rfl) rfl (opnd_op 3 47 (by kernel_rfl) rfl) (Or.inl ⟨rfl, rfl⟩) rfl
    · exact owe_ext2 rfl (wants_all rfl) rfl (opnd_op 3 47 (by kernel_rfl) rfl) (Or.inr ⟨rfl, rfl⟩) rfl
    · exact owe_move rfl (wants_all rfl) (Or.inr rfl) (opnd_op 4 51 (by kernel_rfl) rfl) rfl
    · exact owe_move rfl (wants_all rfl) (Or.inr rfl) (opnd_op 5 52 (by kernel_rfl) rfl) rfl
  intro B8 a8 W8 S8
  replace S8 : Sta w 107 [(1, (.box 26 (PR (Zv A k1) (Zv ((D : Int)) k2)))), (3, (.box 24 ((ZN (n)) w.heap.size))), (5, (.box 24 ((ZN (f)) w.heap.size))), (7, (.box 26 ((RN na da) w.heap.size)))] [(11, (Is (.int .i64 (na * ((2 : Nat) : Int) - (-1) * ((da : Nat) : Int)).sign))), (12, (Is (.int .i64 0))), (9, (Is (.int .i64 (na * ((2 : Nat) : Int) - 1 * ((da : Nat) : Int)).sign))), (10, (Is (.int .i64 0))), (8, (Is (.int .i64 0))), (23, (Is (.bool false))), (20, (Is (.bool false))), (2, (Is (.bool false)))] B8 a8 W8 := S8
  refine wp_stmt_seq [.val (PR (Zv A k1) (Zv ((D : Int)) k2)),
      .val ((ZN (f)) w.heap.size),
      .val ((RN f 1) w.heap.size),
      .val ((TWO (RN nb db) (IS (.int .i64 0))) w.heap.size),
      .val ((TWO (RN nb db) (IS (.int .i64 0))) w.heap.size),
      .val ((RN nb db) w.heap.size),
      .val (Is (.int .i64 0)),
      .new (.box 26 (Is (.agg #[.bool false, .slice none 0 0, .bool false, .slice none 0 0]))),
      .put (.inr 7) (.box 26 ((RN nb db) w.heap.size)),
      .val (Is (.int .i64 0))] [.inr 0, .inr 1, .inr 2, .inr 3, .inl 7] [.inr 0, .inr 1, .inr 2, .inr 3, .inr 4, .inr 5, .inr 6, .inr 7] follows S8 rfl (by kernel_rfl) ?_ ?_
  · refine ⟨⟨⟨⟨⟨⟨⟨⟨⟨⟨trivial, ?_⟩, ?_⟩, ?_⟩, ?_⟩, ?_⟩, ?_⟩, ?_⟩, ?_⟩, ?_⟩, ?_⟩
    · exact owe_load rfl (wants_all rfl) rfl (k := 0) rfl (by kernel_rfl) (loads_of strct_rat (shp_pr shp_zv shp_zv)) rfl
    · exact owe_load rfl (wants_all rfl) rfl (k := 2) rfl (by kernel_rfl) (loads_of strct_int shp_zn) rfl
    · exact owe_call1 rfl (wants_all rfl) rfl (opnd_op 1 55 (by kernel_rfl) rfl) (fresh_rn _ _) rfl (fun args w => by go_simp) (fun w u h1 => g_ratof (by omega) w u ((zn_zv lf) _ _ h1))
    · exact owe_call2 rfl (wants_all rfl) rfl (opnd_op 0 54 (by kernel_rfl) rfl) (opnd_op 2 56 (by kernel_rfl) rfl) (fresh_two (fresh_rn _ _) (fresh_is _)) rfl (fun args w => by go_simp) (fun w u0 u1 h0 h1 => Gives.cast ((fun w u v h1 h2 => g_ratsub (by first | assumption | decide) (by first | assumption | decide) (by omega) (by omega) (by omega) (by omega) w u v ((pr_imp (fun _ _ h => h) (fun _ _ h => h)) _ _ h1) ((rn_rv lf l1) _ _ h2)) w u0 u1 h0 h1) (by rw [enb, edb]))
    · exact owe_move rfl (wants_all rfl) (Or.inl rfl) (opnd_op 3 57 (by kernel_rfl) rfl) rfl
    · exact owe_ext2 rfl (wants_all rfl) rfl (opnd_op 4 53 (by kernel_rfl) rfl) (Or.inl ⟨rfl, rfl⟩) rfl
    · exact owe_ext2 rfl (wants_all rfl) rfl (opnd_op 4 53 (by kernel_rfl) rfl) (Or.inr ⟨rfl, rfl⟩) rfl
    · exact owe_new rfl (wants_all rfl) rfl rfl (fun ρ w => alloc_rat ρ _ w)
    · exact owe_put 7 rfl (wants_all rfl) rfl (by kernel_rfl) rfl (opnd_op 5 58 (by kernel_rfl) rfl) (stores_of strct_rat shp_r0 (shp_pr shp_zn shp_zn)) rfl
    · exact owe_move rfl (wants_all rfl) (Or.inr rfl) (opnd_op 6 59 (by kernel_rfl) rfl) rfl
  intro B9 a9 W9 S9
  replace S9 : Sta w 107 [(1, (.box 26 (PR (Zv A k1) (Zv ((D : Int)) k2)))), (3, (.box 24 ((ZN (n)) w.heap.size))), (5, (.box 24 ((ZN (f)) w.heap.size))), (7, (.box 26 ((RN na da) w.heap.size))), (13, (.box 26 ((RN nb db) w.heap.size)))] [(11, (Is (.int .i64 (na * ((2 : Nat) : Int) - (-1) * ((da : Nat) : Int)).sign))), (12, (Is (.int .i64 0))), (9, (Is (.int .i64 (na * ((2 : Nat) : Int) - 1 * ((da : Nat) : Int)).sign))), (10, (Is (.int .i64 0))), (8, (Is (.int .i64 0))), (23, (Is (.bool false))), (20, (Is (.bool false))), (2, (Is (.bool false)))] B9 a9 W9 := S9
  refine wp_stmt_seq [.val ((RN nb db) w.heap.size),
      .val (Is (.agg #[.bool false, .slice none 0 0])),
      .val ((RN 0 1) w.heap.size),
      .val ((TWO (IS (.int .i64 (nb * ((1 : Nat) : Int) - 0 * ((db : Nat) : Int)).sign)) (IS (.int .i64 0))) w.heap.size),
      .val ((TWO (IS (.int .i64 (nb * ((1 : Nat) : Int) - 0 * ((db : Nat) : Int)).sign)) (IS (.int .i64 0))) w.heap.size),
      .val (Is (.int .i64 (nb * ((1 : Nat) : Int) - 0 * ((db : Nat) : Int)).sign)),
      .val (Is (.int .i64 0)),
      .val (Is (.int .i64 (nb * ((1 : Nat) : Int) - 0 * ((db : Nat) : Int)).sign)),
      .val (Is (.int .i64 0))] [.inr 0, .inr 1, .inr 2, .inr 3, .inr 4] [.inl 7, .inl 8, .inr 0, .inr 1, .inr 2, .inr 3, .inr 4, .inr 5, .inr 6, .inr 7] follows S9 rfl (by kernel_rfl) ?_ ?_
  · refine ⟨⟨⟨⟨⟨⟨⟨⟨⟨trivial, ?_⟩, ?_⟩, ?_⟩, ?_⟩, ?_⟩, ?_⟩, ?_⟩, ?_⟩, ?_⟩
    · exact owe_load rfl (wants_all rfl) rfl (k := 4) rfl (by kernel_rfl) (loads_of strct_rat (shp_pr shp_zn shp_zn)) rfl
    · exact owe_build_int rfl (wants_all rfl) rfl rfl
    · exact owe_call1 rfl (wants_all rfl) rfl (opnd_op 1 62 (by kernel_rfl) rfl) (fresh_rn _ _) rfl (fun args w => by go_simp) (fun w u h1 => g_ratof (by omega) w u (zero_zv _ _ h1))
    · exact owe_call2 rfl (wants_all rfl) rfl (opnd_op 0 61 (by kernel_rfl) rfl) (opnd_op 2 63 (by kernel_rfl) rfl) (fresh_two (fresh_is _) (fresh_is _)) rfl (fun args w => by go_simp) (fun w u v h1 h2 => g_ratcmp (by first | assumption | decide) (by first | assumption | decide) (by omega) (by omega) (by omega) (by omega) w u v ((rn_rv lnb ldb) _ _ h1) ((rn_rv l0 l1) _ _ h2))
    · exact owe_move rfl (wants_all rfl) (Or.inl rfl) (opnd_op 3 64 (by kernel_rfl) rfl) rfl
    · exact owe_ext2 rfl (wants_all rfl) rfl (opnd_op 4 60 (by kernel_rfl) rfl) (Or.inl ⟨rfl, rfl⟩) rfl
    · exact owe_ext2 rfl (wants_all rfl) rfl (opnd_op 4 60 (by kernel_rfl) rfl) (Or.inr ⟨rfl, rfl⟩) rfl
    · exact owe_move rfl (wants_all rfl) (Or.inr rfl) (opnd_op 5 65 (by kernel_rfl) rfl) rfl
    · exact owe_move rfl (wants_all rfl) (Or.inr rfl) (opnd_op 6 66 (by kernel_rfl) rfl) rfl
  intro B10 a10 W10 S10
  replace S10 : Sta w 107 [(1, (.box 26 (PR (Zv A k1) (Zv ((D : Int)) k2)))), (3, (.box 24 ((ZN (n)) w.heap.size))), (5, (.box 24 ((ZN (f)) w.heap.size))), (7, (.box 26 ((RN na da) w.heap.size))), (13, (.box 26 ((RN nb db) w.heap.size)))] [(15, (Is (.int .i64 (nb * ((1 : Nat) : Int) - 0 * ((db : Nat) : Int)).sign))), (16, (Is (.int .i64 0))), (11, (Is (.int .i64 (na * ((2 : Nat) : Int) - (-1) * ((da : Nat) : Int)).sign))), (12, (Is (.int .i64 0))), (9, (Is (.int .i64 (na * ((2 : Nat) : Int) - 1 * ((da : Nat) : Int)).sign))), (10, (Is (.int .i64 0))), (8, (Is (.int .i64 0))), (23, (Is (.bool false))), (20, (Is (.bool false))), (2, (Is (.bool false)))] B10 a10 W10 := S10
  refine wp_stmt_seq [.val ((RN nb db) w.heap.size),
      .val ((RN 2 2) w.heap.size),
      .val ((TWO (IS (.int .i64 (nb * ((2 : Nat) : Int) - 2 * ((db : Nat) : Int)).sign)) (IS (.int .i64 0))) w.heap.size),
      .val ((TWO (IS (.int .i64 (nb * ((2 : Nat) : Int) - 2 * ((db : Nat) : Int)).sign)) (IS (.int .i64 0))) w.heap.size),
      .val (Is (.int .i64 (nb * ((2 : Nat) : Int) - 2 * ((db : Nat) : Int)).sign)),
      .val (Is (.int .i64 0)),
      .val (Is (.int .i64 (nb * ((2 : Nat) : Int) - 2 * ((db : Nat) : Int)).sign)),
      .val (Is (.int .i64 0))] [.inr 0, .inr 1, .inr 2, .inr 3, .inr 4] [.inl 6, .inl 7, .inr 0, .inr 1, .inr 2, .inr 3, .inr 4, .inr 5, .inr 6, .inr 7, .inr 8, .inr 9] follows S10 rfl (by kernel_rfl) ?_ ?_
  · refine ⟨⟨⟨⟨⟨⟨⟨⟨trivial, ?_⟩, ?_⟩, ?_⟩, ?_⟩, ?_⟩, ?_⟩, ?_⟩, ?_⟩
    · exact owe_load rfl (wants_all rfl) rfl (k := 4) rfl (by kernel_rfl) (loads_of strct_rat (shp_pr shp_zn shp_zn)) rfl
    · exact owe_call1 rfl (wants_all rfl) rfl (opnd_const _) (fresh_rn _ _) rfl (fun args w => by go_simp) (g_half 2 (by decide) (by decide))
    · exact owe_call2 rfl (wants_all rfl) rfl (opnd_op 0 68 (by kernel_rfl) rfl) (opnd_op 1 69 (by kernel_rfl) rfl) (fresh_two (fresh_is _) (fresh_is _)) rfl (fun args w => by go_simp) (fun w u v h1 h2 => g_ratcmp (by first | assumption | decide) (by first | assumption | decide) (by omega) (by omega) (by omega) (by omega) w u v ((rn_rv lnb ldb) _ _ h1) ((rn_rv l2i l2) _ _ h2))
    · exact owe_move rfl (wants_all rfl) (Or.inl rfl) (opnd_op 2 70 (by kernel_rfl) rfl) rfl
    · exact owe_ext2 rfl (wants_all rfl) rfl (opnd_op 3 67 (by kernel_rfl) rfl) (Or.inl ⟨rfl, rfl⟩) rfl
    · exact owe_ext2 rfl (wants_all rfl) rfl (opnd_op 3 67 (by kernel_rfl) rfl) (Or.inr ⟨rfl, rfl⟩) rfl
    · exact owe_move rfl (wants_all rfl) (Or.inr rfl) (opnd_op 4 71 (by kernel_rfl) rfl) rfl
    · exact owe_move rfl (wants_all rfl) (Or.inr rfl) (opnd_op 5 72 (by kernel_rfl) rfl) rfl
  intro B11 a11 W11 S11
  replace S11 : Sta w 107 [(1, (.box 26 (PR (Zv A k1) (Zv ((D : Int)) k2)))), (3, (.box 24 ((ZN (n)) w.heap.size))), (5, (.box 24 ((ZN (f)) w.heap.size))), (7, (.box 26 ((RN na da) w.heap.size))), (13, (.box 26 ((RN nb db) w.heap.size)))] [(17, (Is (.int .i64 (nb * ((2 : Nat) : Int) - 2 * ((db : Nat) : Int)).sign))), (18, (Is (.int .i64 0))), (15, (Is (.int .i64 (nb * ((1 : Nat) : Int) - 0 * ((db : Nat) : Int)).sign))), (16, (Is (.int .i64 0))), (11, (Is (.int .i64 (na * ((2 : Nat) : Int) - (-1) * ((da : Nat) : Int)).sign))), (12, (Is (.int .i64 0))), (9, (Is (.int .i64 (na * ((2 : Nat) : Int) - 1 * ((da : Nat) : Int)).sign))), (10, (Is (.int .i64 0))), (8, (Is (.int .i64 0))), (23, (Is (.bool false))), (20, (Is (.bool false))), (2, (Is (.bool false)))] B11 a11 W11 := S11
  refine wp_stmt_seq [.val (Is (.int .i64 0)),
      .val (Is (.bool true)),
      .val (Is (.bool true)),
      .val (Is (.int .i64 0)),
      .val (Is (.bool true)),
      .val (Is (.bool true)),
      .val (Is (.bool true)),
      .val (Is (.int .i64 0)),
      .val (Is (.bool true)),
      .val (Is (.bool true)),
      .val (Is (.bool true)),
      .val (Is (.int .i64 0)),
      .val (Is (.bool true)),
      .val (Is (.bool true)),
      .val (Is (.bool true)),
      .val (Is (.int .i64 0)),
      .val (Is (.bool true)),
      .val (Is (.bool true)),
      .val (Is (.bool true)),
      .val (Is (.int .i64 (na * ((2 : Nat) : Int) - 1 * ((da : Nat) : Int)).sign)),
      .val (Is (.bool true)),
      .val (Is (.bool true)),
      .val (Is (.bool true)),
      .val (Is (.int .i64 (na * ((2 : Nat) : Int) - (-1) * ((da : Nat) : Int)).sign)),
      .val (Is (.bool true)),
      .val (Is (.bool true)),
      .val (Is (.bool true)),
      .val (Is (.int .i64 (nb * ((1 : Nat) : Int) - 0 * ((db : Nat) : Int)).sign)),
      .val (Is (.bool true)),
      .val (Is (.bool true)),
      .val (Is (.bool true)),
      .val (Is (.int .i64 (nb * ((2 : Nat) : Int) - 2 * ((db : Nat) : Int)).sign)),
      .val (Is (.bool true)),
      .val (Is (.bool true)),
      .val (Is (.bool true))] [.inr 0, .inr 1, .inr 2, .inr 3, .inr 4] [.inl 34, .inr 9, .inr 10] follows S11 rfl (by kernel_rfl) ?_ ?_
  · refine ⟨⟨⟨⟨⟨⟨⟨⟨⟨⟨⟨⟨⟨⟨⟨⟨⟨⟨⟨⟨⟨⟨⟨⟨⟨⟨⟨⟨⟨⟨⟨⟨⟨⟨⟨trivial, ?_⟩, ?_⟩, ?_⟩, ?_⟩, ?_⟩, ?_⟩, ?_⟩, ?_⟩, ?_⟩, ?_⟩, ?_⟩, ?_⟩, ?_⟩, ?_⟩, ?_⟩, ?_⟩, ?_⟩, ?_⟩, ?_⟩, ?_⟩, ?_⟩, ?_⟩, ?_⟩, ?_⟩, ?_⟩, ?_⟩, ?_⟩, ?_⟩, ?_⟩, ?_⟩, ?_⟩, ?_⟩, ?_⟩, ?_⟩, ?_⟩
    · exact owe_move rfl (wants_all rfl) (Or.inl rfl) (opnd_slot 8 8 rfl (by kernel_rfl)) rfl
    · exact owe_bin rfl (wants_all rfl) rfl (opnd_op 0 73 (by kernel_rfl) rfl) (opnd_const _) rfl (fun ρ w h1 h2 => by exact run_eql_errno_t ρ _ _ _ w _ _ rfl h1 h2)
    · exact owe_move rfl (wants_all rfl) (Or.inl rfl) (opnd_op 1 74 (by kernel_rfl) rfl) rfl
    · exact owe_move rfl (wants_if 2 75 rfl (by kernel_rfl) rfl) (Or.inl rfl) (opnd_slot 7 10 rfl (by kernel_rfl)) rfl
    · exact owe_bin rfl (wants_if 2 75 rfl (by kernel_rfl) rfl) rfl (opnd_op 3 76 (by kernel_rfl) rfl) (opnd_const _) rfl (fun ρ w h1 h2 => by exact run_eql_errno_t ρ _ _ _ w _ _ rfl h1 h2)
    · exact owe_pick rfl (wants_all rfl) rfl (opnd_op 2 75 (by kernel_rfl) rfl) (fun _ => (opnd_op 4 77 (by kernel_rfl) rfl)) (fun h => nomatch h) rfl
    · exact owe_move rfl (wants_all rfl) (Or.inl rfl) (opnd_op 5 78 (by kernel_rfl) rfl) rfl
    · exact owe_move rfl (wants_if 6 79 rfl (by kernel_rfl) rfl) (Or.inl rfl) (opnd_slot 5 12 rfl (by kernel_rfl)) rfl
    · exact owe_bin rfl (wants_if 6 79 rfl (by kernel_rfl) rfl) rfl (opnd_op 7 80 (by kernel_rfl) rfl) (opnd_const _) rfl (fun ρ w h1 h2 => by exact run_eql_errno_t ρ _ _ _ w _ _ rfl h1 h2)
    · exact owe_pick rfl (wants_all rfl) rfl (opnd_op 6 79 (by kernel_rfl) rfl) (fun _ => (opnd_op 8 81 (by kernel_rfl) rfl)) (fun h => nomatch h) rfl
    · exact owe_move rfl (wants_all rfl) (Or.inl rfl) (opnd_op 9 82 (by kernel_rfl) rfl) rfl
    · exact owe_move rfl (wants_if 10 83 rfl (by kernel_rfl) rfl) (Or.inl rfl) (opnd_slot 3 16 rfl (by kernel_rfl)) rfl
    · exact owe_bin rfl (wants_if 10 83 rfl (by kernel_rfl) rfl) rfl (opnd_op 11 84 (by kernel_rfl) rfl) (opnd_const _) rfl (fun ρ w h1 h2 => by exact run_eql_errno_t ρ _ _ _ w _ _ rfl h1 h2)
    · exact owe_pick rfl (wants_all rfl) rfl (opnd_op 10 83 (by kernel_rfl) rfl) (fun _ => (opnd_op 12 85 (by kernel_rfl) rfl)) (fun h => nomatch h) rfl
    · exact owe_move rfl (wants_all rfl) (Or.inl rfl) (opnd_op 13 86 (by kernel_rfl) rfl) rfl
    · exact owe_move rfl (wants_if 14 87 rfl (by kernel_rfl) rfl) (Or.inl rfl) (opnd_slot 1 18 rfl (by kernel_rfl)) rfl
    · exact owe_bin rfl (wants_if 14 87 rfl (by kernel_rfl) rfl) rfl (opnd_op 15 88 (by kernel_rfl) rfl) (opnd_const _) rfl (fun ρ w h1 h2 => by exact run_eql_errno_t ρ _ _ _ w _ _ rfl h1 h2)
    · exact owe_pick rfl (wants_all rfl) rfl (opnd_op 14 87 (by kernel_rfl) rfl) (fun _ => (opnd_op 16 89 (by kernel_rfl) rfl)) (fun h => nomatch h) rfl
    · exact owe_move rfl (wants_all rfl) (Or.inl rfl) (opnd_op 17 90 (by kernel_rfl) rfl) rfl
    · exact owe_move rfl (wants_if 18 91 rfl (by kernel_rfl) rfl) (Or.inl rfl) (opnd_slot 6 9 rfl (by kernel_rfl)) rfl
    · exact owe_bin rfl (wants_if 18 91 rfl (by kernel_rfl) rfl) rfl (opnd_op 19 92 (by kernel_rfl) rfl) (opnd_const _) rfl (fun ρ w h1 h2 => by exact run_leq_int_t ρ _ _ _ w _ _ q1 h1 h2)
    · exact owe_pick rfl (wants_all rfl) rfl (opnd_op 18 91 (by kernel_rfl) rfl) (fun _ => (opnd_op 20 93 (by kernel_rfl) rfl)) (fun h => nomatch h) rfl
    · exact owe_move rfl (wants_all rfl) (Or.inl rfl) (opnd_op 21 94 (by kernel_rfl) rfl) rfl
    · exact owe_move rfl (wants_if 22 95 rfl (by kernel_rfl) rfl) (Or.inl rfl) (opnd_slot 4 11 rfl (by kernel_rfl)) rfl
    · exact owe_bin rfl (wants_if 22 95 rfl (by kernel_rfl) rfl) rfl (opnd_op 23 96 (by kernel_rfl) rfl) (opnd_const _) rfl (fun ρ w h1 h2 => by exact run_gtr_int_t ρ _ _ _ w _ _ q2 h1 h2)
    · exact owe_pick rfl (wants_all rfl) rfl (opnd_op 22 95 (by kernel_rfl) rfl) (fun _ => (opnd_op 24 97 (by kernel_rfl) rfl)) (fun h => nomatch h) rfl
    · exact owe_move rfl (wants_all rfl) (Or.inl rfl) (opnd_op 25 98 (by kernel_rfl) rfl) rfl
    · exact owe_move rfl (wants_if 26 99 rfl (by kernel_rfl) rfl) (Or.inl rfl) (opnd_slot 2 15 rfl (by kernel_rfl)) rfl
    · exact owe_bin rfl (wants_if 26 99 rfl (by kernel_rfl) rfl) rfl (opnd_op 27 100 (by kernel_rfl) rfl) (opnd_const _) rfl (fun ρ w h1 h2 => by exact run_geq_int_t ρ _ _ _ w _ _ q3 h1 h2)
    · exact owe_pick rfl (wants_all rfl) rfl (opnd_op 26 99 (by kernel_rfl) rfl) (fun _ => (opnd_op 28 101 (by kernel_rfl) rfl)) (fun h => nomatch h) rfl
    · exact owe_move rfl (wants_all rfl) (Or.inl rfl) (opnd_op 29 102 (by kernel_rfl) rfl) rfl
    · exact owe_move rfl (wants_if 30 103 rfl (by kernel_rfl) rfl) (Or.inl rfl) (opnd_slot 0 17 rfl (by kernel_rfl)) rfl
    · exact owe_bin rfl (wants_if 30 103 rfl (by kernel_rfl) rfl) rfl (opnd_op 31 104 (by kernel_rfl) rfl) (opnd_const _) rfl (fun ρ w h1 h2 => by exact run_lss_int_t ρ _ _ _ w _ _ q4 h1 h2)
    · exact owe_pick rfl (wants_all rfl) rfl (opnd_op 30 103 (by kernel_rfl) rfl) (fun _ => (opnd_op 32 105 (by kernel_rfl) rfl)) (fun h => nomatch h) rfl
    · exact owe_move rfl (wants_all rfl) (Or.inr rfl) (opnd_op 33 106 (by kernel_rfl) rfl) rfl
  intro B12 a12 W12 S12
  replace S12 : Sta w 107 [(1, (.box 26 (PR (Zv A k1) (Zv ((D : Int)) k2)))), (3, (.box 24 ((ZN (n)) w.heap.size))), (5, (.box 24 ((ZN (f)) w.heap.size))), (7, (.box 26 ((RN na da) w.heap.size))), (13, (.box 26 ((RN nb db) w.heap.size)))] [(2, (Is (.bool true))), (23, (Is (.bool false))), (20, (Is (.bool false)))] B12 a12 W12 := S12
  refine wp_ret ?_
  exact end_one S12 rfl (res_tmp S12 0 2 rfl)

set_option maxHeartbeats 400000 in
theorem near_b (w : World) (A D : Int) (k1 k2 : Nat) (u : Value) (h : Rv A D k1 k2 u w) (hk1 : k1 ≤ 8388608) (hk2 : k2 ≤ 8388608) (sD : decide (0 < D.sign) = false) :
    Calls Tryd.prog 4 #[u] w (Gives (IS (.bool true)) w) := by
  refine calls_sta (sl := [(0, (PR (Zv A k1) (Zv D k2)))]) Tryd.func4 rfl Tryd.ntmps4 (by simp) (args_cons rfl (rv_has h) args_nil) ?_
  intro a0 S0
  refine wp_stmt_seq [.new (.box 26 (PR (Zv A k1) (Zv D k2))),
      .val (Is (.bool false))] [.inl 0] [.inl 1] follows S0 rfl (by kernel_rfl) ?_ ?_
  · refine ⟨⟨trivial, ?_⟩, ?_⟩
    · exact owe_box rfl (wants_all rfl) rfl (opnd_slot 0 0 rfl (by kernel_rfl)) rfl (fun ρ w h => box_rat (shp_pr shp_zv shp_zv) ρ _ _ w h)
    · exact owe_move rfl (wants_all rfl) (Or.inr rfl) (opnd_const _) rfl
  intro B1 a1 W1 S1
  replace S1 : Sta w 107 [(1, (.box 26 (PR (Zv A k1) (Zv D k2))))] [(2, (Is (.bool false)))] B1 a1 W1 := S1
  refine wp_seq ?_
  refine wp_stmt_seq [.val (Is (.bool true)),
      .val (Is (.bool false))] [.inr 0] [.inl 1, .inr 0] follows S1 rfl (by kernel_rfl) ?_ ?_
  · refine ⟨⟨trivial, ?_⟩, ?_⟩
    · exact owe_call0 rfl (wants_all rfl) rfl  (fresh_is _) rfl (fun args w => by go_simp) g_awake
    · exact owe_un (x := .tmp 19) rfl (wants_all rfl) rfl (opnd_op 0 19 (by kernel_rfl) rfl) rfl (fun ρ w h1 => run_not ρ _ _ w _ h1)
  intro B2 a2 W2 S2
  replace S2 : Sta w 107 [(1, (.box 26 (PR (Zv A k1) (Zv D k2))))] [(20, (Is (.bool false))), (2, (Is (.bool false)))] B2 a2 W2 := S2
  refine wp_cond_false (S2.bool 0 20 rfl) ?_
  refine wp_skip ?_
  refine thenN ?_
  refine wp_seq ?_
  refine wp_stmt_seq [.val (PR (Zv A k1) (Zv D k2)),
      .val (Is (.bool false)),
      .val (Is (.bool true))] [.inr 0] [.inl 2, .inr 0, .inr 1] follows S2 rfl (by kernel_rfl) ?_ ?_
  · refine ⟨⟨⟨trivial, ?_⟩, ?_⟩, ?_⟩
    · exact owe_load rfl (wants_all rfl) rfl (k := 0) rfl (by kernel_rfl) (loads_of strct_rat (shp_pr shp_zv shp_zv)) rfl
    · exact owe_call1 rfl (wants_all rfl) rfl (opnd_op 0 21 (by kernel_rfl) rfl) (fresh_is _) rfl (fun args w => by go_simp) (fun w u0 h0 => Gives.cast ((fun w u h1 => g_rok (by omega) (by omega) w u ((pr_imp (fun _ _ h => h) (fun _ _ h => h)) _ _ h1)) w u0 h0) (by rw [sD]))
    · exact owe_un (x := .tmp 22) rfl (wants_all rfl) rfl (opnd_op 1 22 (by kernel_rfl) rfl) rfl (fun ρ w h1 => run_not ρ _ _ w _ h1)
  intro B3 a3 W3 S3
  replace S3 : Sta w 107 [(1, (.box 26 (PR (Zv A k1) (Zv D k2))))] [(23, (Is (.bool true))), (20, (Is (.bool false))), (2, (Is (.bool false)))] B3 a3 W3 := S3
  refine wp_cond_true (S3.bool 0 23 rfl) ?_
  refine wp_stmt_seq [.val (Is (.bool true))] [.inr 0] [.inl 0, .inr 0, .inr 1] follows S3 rfl (by kernel_rfl) ?_ ?_
  · refine ⟨trivial, ?_⟩
    · exact owe_move rfl (wants_all rfl) (Or.inr rfl) (opnd_const _) rfl
  intro B4 a4 W4 S4
  replace S4 : Sta w 107 [(1, (.box 26 (PR (Zv A k1) (Zv D k2))))] [(2, (Is (.bool true))), (23, (Is (.bool true))), (20, (Is (.bool false)))] B4 a4 W4 := S4
  refine wp_ret ?_
  refine thenR ?_
  exact end_one S4 rfl (res_tmp S4 0 2 rfl)


theorem near_all (w : World) (A D : Int) (k1 k2 : Nat) (u : Value) (h : Rv A D k1 k2 u w) (hk1 : k1 ≤ 1048576) (hk2 : k2 ≤ 1048576) : Calls Tryd.prog 4 #[u] w (Gives (IS (.bool true)) w) := by
  cases sD : decide (0 < D.sign) with
  | false => exact near_b w A D k1 k2 u h (by omega) (by omega) sD
  | true =>
    obtain ⟨D, rfl, hD⟩ := pos_of_sign sD
    have iD : (D : Int) ≠ 0 := by omega
    obtain ⟨lA, lD⟩ : (digs A.natAbs).length ≤ 1048576 ∧ (digs D).length ≤ 1048576 := by
      obtain ⟨_, _, _, _, _, a, b⟩ := h
      have := zvn_len a; have := zvn_len b; rw [Int.natAbs_natCast] at this; omega
    obtain ⟨n, en⟩ : ∃ n, nr A (D : Int) = n := ⟨_, rfl⟩
    obtain ⟨f, ef⟩ : ∃ n, fl A (D : Int) = n := ⟨_, rfl⟩
    obtain ⟨na, ena⟩ : ∃ x, nR (adN n (-A) 1 D) (1 * D) = x := ⟨_, rfl⟩
    obtain ⟨da, eda⟩ : ∃ x, dR (adN n (-A) 1 D) (1 * D) = x := ⟨_, rfl⟩
    obtain ⟨nb, enb⟩ : ∃ x, nR (adN A (-f) D 1) (D * 1) = x := ⟨_, rfl⟩
    obtain ⟨db, edb⟩ : ∃ x, dR (adN A (-f) D 1) (D * 1) = x := ⟨_, rfl⟩
    have fa := fr ena eda
    have fb := fr enb edb
    have zda : da ≠ 0 := eda ▸ dR_ne (by omega)
    have zdb : db ≠ 0 := edb ▸ dR_ne (by omega)
    obtain ⟨r1, r2, _⟩ := rm_bounds (A := A) iD
    obtain ⟨s1, s2, _⟩ := rm_bounds (A := 2 * A + (D : Int)) (B := 2 * (D : Int)) (by omega)
    have r2 := r2 (by omega)
    have s2 := s2 (by omega)
    have lf : (digs f.natAbs).length ≤ 1048577 := ef ▸ fl_len iD lA
    have ln : (digs n.natAbs).length ≤ 1048577 := en ▸ near_len iD lA
    have e1 : fl (2 * A + (D : Int)) (2 * (D : Int)) = n := en
    rw [e1] at s1
    rw [ef] at r1
    have l1 : (digs 1).length ≤ 1048577 := Nat.le_trans (digs_length_le (k := 1) (by decide)) (by decide)
    have lna : (digs na.natAbs).length ≤ 1048577 + 1048576 + 1 := ena ▸ nR_len (adN_len ln l1 (by rw [Int.natAbs_neg]; exact lA) lD)
    have lda : (digs da).length ≤ 1048576 := eda ▸ dR_len (by rw [Nat.one_mul]; exact lD)
    have lnb : (digs nb.natAbs).length ≤ 1048576 + 1048577 + 1 := enb ▸ nR_len (adN_len lA lD (by rw [Int.natAbs_neg]; exact lf) l1)
    have ldb : (digs db).length ≤ 1048576 := edb ▸ dR_len (by rw [Nat.mul_one]; exact lD)
    rw [Nat.one_mul] at fa
    rw [Nat.mul_one] at fb
    obtain ⟨X, hX⟩ : ∃ X, n * (D : Int) = X := ⟨_, rfl⟩
    obtain ⟨Y, hY⟩ : ∃ Y, f * (D : Int) = Y := ⟨_, rfl⟩
    have s1' : 2 * A + (D : Int) = 2 * X + rm (2 * A + (D : Int)) (2 * (D : Int)) := by rw [← hX]; rw [show n * (2 * (D : Int)) = 2 * (n * (D : Int)) from by grind] at s1; exact s1
    rw [hY] at r1
    have pa : adN n (-A) 1 D = X - A := by unfold adN; rw [hX]; simp; omega
    have pb : adN A (-f) D 1 = A - Y := by unfold adN; rw [Int.neg_mul, hY]; simp; omega
    rw [pa] at fa
    rw [pb] at fb
    have t1 := sc_le hD fa 2 1 (by omega)
    have t2 := sc_lt hD zda fa (-2) 1 (by omega)
    have t3 := sc_le hD fb (-1) 0 (by omega)
    have t4 := sc_lt hD zdb fb 1 1 (by omega)
    exact near_w w A D k1 k2 u h hk1 hk2 hD sD n f na nb da db en ef ena eda enb edb ln lf (by omega) (by omega) (by omega) (by omega) zda zdb (sign_le (by omega)) (sign_gt (by omega)) (sign_ge (by omega)) (sign_lt (by omega))
theorem ratnear_walk (w : World) (s1 : Bool) (p1 : Option Addr) (n1 c1 : Nat) (xs1 : List Nat) (t1 : Bool) (q1 : Option Addr) (m1 d1 : Nat) (ys1 : List Nat) (h1 : Sl w p1 n1 c1 xs1) (g1 : Sl w q1 m1 d1 ys1) (b1 : c1 ≤ 1048576) (b2 : d1 ≤ 1048576) :
    Calls Tryd.prog 4 #[.agg #[.bool s1, .slice p1 n1 c1, .bool t1, .slice q1 m1 d1]] w fun e w' => e = .returned (.bool true) ∧ Below w.heap.size w w' := by
  have e1 := h1.cap; have e2 := g1.cap
  refine (near_all w _ _ n1 m1 _ (rv_in h1 g1) (by omega) (by omega)).mono ?_
  rintro e w' ⟨v, rfl, hb, hv⟩
  obtain rfl : v = _ := hv
  exact ⟨rfl, hb⟩
end Go.Proofs.YteamecapeghnoaaDoor
