/-
  ZintTops' walk: it returns true and writes nothing that was there.
-/
import Derived.Test.YtcngoobdknifdaaDoorZTop
namespace Go.Proofs.YtcngoobdknifdaaDoor
open Go Go.RowKit Nt
set_option linter.unusedSimpArgs false
set_option linter.unusedVariables false

set_option maxHeartbeats 1000000 in
theorem ztops_w (w : World) (s : Bool) (p : Option Addr) (n c : Nat) (xs : List Nat) (h : Sl w p n c xs) (A : Int) (eA : sg s (val xs) = A) (hn : n ≤ 1048576) (hc : c ≤ 35184372087808) (hT : T32 w) :
    Calls Tryd.prog 3 #[.agg #[.bool s, .slice p n c]] w (Gives (IS (.bool true)) w) := by
  refine calls_sta (sl := [(0, (Zx s p n c xs))]) Tryd.func3 rfl Tryd.ntmps3 (by simp) (args_cons rfl (zx_has h) args_nil) ?_
  intro a0 S0
  replace S0 : Sta w 67 [] [(0, (Zx s p n c xs)), (0, TB)] (fun _ => False) a0 w := S0.more 0 (tb_has hT)
  refine wp_stmt_seq [.new (.box 24 (Zx s p n c xs)),
      .val (Is (.bool false))] [.inl 0] [.inl 1, .inr 1] follows S0 rfl (by kernel_rfl) ?_ ?_
  · refine ⟨⟨trivial, ?_⟩, ?_⟩
    · exact owe_box rfl (wants_all rfl) rfl (opnd_slot 0 0 rfl (by kernel_rfl)) rfl (fun ρ w h => box_int shp_zx ρ _ _ w h)
    · exact owe_move rfl (wants_all rfl) (Or.inr rfl) (opnd_const _) rfl
  intro B1 a1 W1 S1
  replace S1 : Sta w 67 [(1, (.box 24 (Zx s p n c xs)))] [(2, (Is (.bool false))), (0, TB)] B1 a1 W1 := S1
  refine wp_stmt_seq [.val (Zx s p n c xs),
      .val ((ZO s n xs) w.heap.size),
      .val ((TWO (ZN (rtV A)) (IS (.int .i64 (rtE A)))) w.heap.size),
      .val ((TWO (ZN (rtV A)) (IS (.int .i64 (rtE A)))) w.heap.size),
      .val ((ZN (rtV A)) w.heap.size),
      .val (Is (.int .i64 (rtE A))),
      .new (.box 24 (Is (.agg #[.bool false, .slice none 0 0]))),
      .put (.inr 6) (.box 24 ((ZN (rtV A)) w.heap.size)),
      .val (Is (.int .i64 (rtE A)))] [.inr 0, .inl 6] [.inl 8, .inr 0, .inr 1] follows S1 rfl (by kernel_rfl) ?_ ?_
  · refine ⟨⟨⟨⟨⟨⟨⟨⟨⟨trivial, ?_⟩, ?_⟩, ?_⟩, ?_⟩, ?_⟩, ?_⟩, ?_⟩, ?_⟩, ?_⟩
    · exact owe_load rfl (wants_all rfl) rfl (k := 0) rfl (by kernel_rfl) (loads_of strct_int shp_zx) rfl
    · exact owe_call1 rfl (wants_all rfl) rfl (opnd_op 0 14 (by kernel_rfl) rfl) (fresh_zo _ _ _) rfl (fun args w => by go_simp) (g_own hc)
    · exact owe_call1 rfl (wants_all rfl) rfl (opnd_op 1 15 (by kernel_rfl) rfl) (fresh_two (fresh_zn _) (fresh_is _)) rfl (fun args w => by go_simp) (fun w u h1 => g_zroot (by omega) w u ((zo_zv eA (Nat.le_refl _)) _ _ h1))
    · exact owe_move rfl (wants_all rfl) (Or.inl rfl) (opnd_op 2 16 (by kernel_rfl) rfl) rfl
    · exact owe_ext2 rfl (wants_all rfl) rfl (opnd_op 3 13 (by kernel_rfl) rfl) (Or.inl ⟨rfl, rfl⟩) rfl
    · exact owe_ext2 rfl (wants_all rfl) rfl (opnd_op 3 13 (by kernel_rfl) rfl) (Or.inr ⟨rfl, rfl⟩) rfl
    · exact owe_new rfl (wants_all rfl) rfl rfl (fun ρ w => alloc_int ρ _ w)
    · exact owe_put 6 rfl (wants_all rfl) rfl (by kernel_rfl) rfl (opnd_op 4 17 (by kernel_rfl) rfl) (stores_of strct_int shp_z0 shp_zn) rfl
    · exact owe_move rfl (wants_all rfl) (Or.inr rfl) (opnd_op 5 18 (by kernel_rfl) rfl) rfl
  intro B2 a2 W2 S2
  replace S2 : Sta w 67 [(1, (.box 24 (Zx s p n c xs))), (3, (.box 24 ((ZN (rtV A)) w.heap.size)))] [(4, (Is (.int .i64 (rtE A)))), (2, (Is (.bool false))), (0, TB)] B2 a2 W2 := S2
  refine wp_stmt_seq [.val (Zx s p n c xs),
      .val ((TWO (ZN (rtV A)) (IS (.int .i64 (rtE A)))) w.heap.size),
      .val ((TWO (ZN (rtV A)) (IS (.int .i64 (rtE A)))) w.heap.size),
      .val ((ZN (rtV A)) w.heap.size),
      .val (Is (.int .i64 (rtE A))),
      .new (.box 24 (Is (.agg #[.bool false, .slice none 0 0]))),
      .put (.inr 5) (.box 24 ((ZN (rtV A)) w.heap.size)),
      .val (Is (.int .i64 (rtE A)))] [.inr 0, .inr 1, .inl 5] [.inl 7, .inr 0, .inr 1, .inr 2] follows S2 rfl (by kernel_rfl) ?_ ?_
  · refine ⟨⟨⟨⟨⟨⟨⟨⟨trivial, ?_⟩, ?_⟩, ?_⟩, ?_⟩, ?_⟩, ?_⟩, ?_⟩, ?_⟩
    · exact owe_load rfl (wants_all rfl) rfl (k := 0) rfl (by kernel_rfl) (loads_of strct_int shp_zx) rfl
    · exact owe_call1 rfl (wants_all rfl) rfl (opnd_op 0 20 (by kernel_rfl) rfl) (fresh_two (fresh_zn _) (fresh_is _)) rfl (fun args w => by go_simp) (fun w u h1 => g_rroot (by omega) w u ((zx_zv' eA (Nat.le_refl _)) _ _ h1))
    · exact owe_move rfl (wants_all rfl) (Or.inl rfl) (opnd_op 1 21 (by kernel_rfl) rfl) rfl
    · exact owe_ext2 rfl (wants_all rfl) rfl (opnd_op 2 19 (by kernel_rfl) rfl) (Or.inl ⟨rfl, rfl⟩) rfl
    · exact owe_ext2 rfl (wants_all rfl) rfl (opnd_op 2 19 (by kernel_rfl) rfl) (Or.inr ⟨rfl, rfl⟩) rfl
    · exact owe_new rfl (wants_all rfl) rfl rfl (fun ρ w => alloc_int ρ _ w)
    · exact owe_put 5 rfl (wants_all rfl) rfl (by kernel_rfl) rfl (opnd_op 3 22 (by kernel_rfl) rfl) (stores_of strct_int shp_z0 shp_zn) rfl
    · exact owe_move rfl (wants_all rfl) (Or.inr rfl) (opnd_op 4 23 (by kernel_rfl) rfl) rfl
  intro B3 a3 W3 S3
  replace S3 : Sta w 67 [(1, (.box 24 (Zx s p n c xs))), (3, (.box 24 ((ZN (rtV A)) w.heap.size))), (5, (.box 24 ((ZN (rtV A)) w.heap.size)))] [(6, (Is (.int .i64 (rtE A)))), (4, (Is (.int .i64 (rtE A)))), (2, (Is (.bool false))), (0, TB)] B3 a3 W3 := S3
  refine wp_seq ?_
  refine wp_stmt_seq [.val (Is (.int .i64 (rtE A))),
      .val (Is (.int .i64 (rtE A))),
      .val (Is (.bool false)),
      .val (Is (.bool false)),
      .val ((ZN (rtV A)) w.heap.size),
      .val ((ZN (rtV A)) w.heap.size),
      .val (Is (.bool true)),
      .val (Is (.bool false)),
      .val (Is (.bool false)),
      .val (Is (.bool false)),
      .val (Zx s p n c xs),
      .val ((ZO s n xs) w.heap.size),
      .val (Is (.int .i64 (Go.bitLen (A).natAbs : Nat))),
      .val (Zx s p n c xs),
      .val (Is (.int .i64 (Go.bitLen (A).natAbs : Nat))),
      .val (Is (.bool false)),
      .val (Is (.bool false))] [.inr 0, .inr 1, .inr 2] [.inl 16, .inr 2, .inr 3] follows S3 rfl (by kernel_rfl) ?_ ?_
  · refine ⟨⟨⟨⟨⟨⟨⟨⟨⟨⟨⟨⟨⟨⟨⟨⟨⟨trivial, ?_⟩, ?_⟩, ?_⟩, ?_⟩, ?_⟩, ?_⟩, ?_⟩, ?_⟩, ?_⟩, ?_⟩, ?_⟩, ?_⟩, ?_⟩, ?_⟩, ?_⟩, ?_⟩, ?_⟩
    · exact owe_move rfl (wants_all rfl) (Or.inl rfl) (opnd_slot 1 4 rfl (by kernel_rfl)) rfl
    · exact owe_move rfl (wants_all rfl) (Or.inl rfl) (opnd_slot 0 6 rfl (by kernel_rfl)) rfl
    · exact owe_bin rfl (wants_all rfl) rfl (opnd_op 0 24 (by kernel_rfl) rfl) (opnd_op 1 25 (by kernel_rfl) rfl) rfl (fun ρ w h1 h2 => by exact run_neq_int_f ρ _ _ _ w _ _ rfl h1 h2)
    · exact owe_move rfl (wants_all rfl) (Or.inl rfl) (opnd_op 2 26 (by kernel_rfl) rfl) rfl
    · exact owe_load rfl (wants_if 3 27 rfl (by kernel_rfl) rfl) rfl (k := 1) rfl (by kernel_rfl) (loads_of strct_int shp_zn) rfl
    · exact owe_load rfl (wants_if 3 27 rfl (by kernel_rfl) rfl) rfl (k := 2) rfl (by kernel_rfl) (loads_of strct_int shp_zn) rfl
    · exact owe_call2 rfl (wants_if 3 27 rfl (by kernel_rfl) rfl) rfl (opnd_op 4 28 (by kernel_rfl) rfl) (opnd_op 5 29 (by kernel_rfl) rfl) (fresh_is _) rfl (fun args w => by go_simp) g_eq
    · exact owe_un (x := .tmp 30) rfl (wants_if 3 27 rfl (by kernel_rfl) rfl) rfl (opnd_op 6 30 (by kernel_rfl) rfl) rfl (fun ρ w h1 => run_not ρ _ _ w _ h1)
    · exact owe_pick rfl (wants_all rfl) rfl (opnd_op 3 27 (by kernel_rfl) rfl) (fun h => nomatch h) (fun _ => (opnd_op 7 31 (by kernel_rfl) rfl)) rfl
    · exact owe_move rfl (wants_all rfl) (Or.inl rfl) (opnd_op 8 32 (by kernel_rfl) rfl) rfl
    · exact owe_load rfl (wants_if 9 33 rfl (by kernel_rfl) rfl) rfl (k := 0) rfl (by kernel_rfl) (loads_of strct_int shp_zx) rfl
    · exact owe_call1 rfl (wants_if 9 33 rfl (by kernel_rfl) rfl) rfl (opnd_op 10 34 (by kernel_rfl) rfl) (fresh_zo _ _ _) rfl (fun args w => by go_simp) (g_own hc)
    · exact owe_call1 rfl (wants_if 9 33 rfl (by kernel_rfl) rfl) rfl (opnd_op 11 35 (by kernel_rfl) rfl) (fresh_is _) rfl (fun args w => by go_simp) (fun w u h1 => g_zbits (by omega) w u ((zo_zv eA (Nat.le_refl _)) _ _ h1))
    · exact owe_load rfl (wants_if 9 33 rfl (by kernel_rfl) rfl) rfl (k := 0) rfl (by kernel_rfl) (loads_of strct_int shp_zx) rfl
    · exact owe_call1 rfl (wants_if 9 33 rfl (by kernel_rfl) rfl) rfl (opnd_op 13 37 (by kernel_rfl) rfl) (fresh_is _) rfl (fun args w => by go_simp) (fun w u h1 => g_rbits (by omega) w u ((zx_zv' eA (Nat.le_refl _)) _ _ h1))
    · exact owe_bin rfl (wants_if 9 33 rfl (by kernel_rfl) rfl) rfl (opnd_op 12 36 (by kernel_rfl) rfl) (opnd_op 14 38 (by kernel_rfl) rfl) rfl (fun ρ w h1 h2 => by exact run_neq_int_f ρ _ _ _ w _ _ rfl h1 h2)
    · exact owe_pick rfl (wants_all rfl) rfl (opnd_op 9 33 (by kernel_rfl) rfl) (fun h => nomatch h) (fun _ => (opnd_op 15 39 (by kernel_rfl) rfl)) rfl
  intro B4 a4 W4 S4
  replace S4 : Sta w 67 [(1, (.box 24 (Zx s p n c xs))), (3, (.box 24 ((ZN (rtV A)) w.heap.size))), (5, (.box 24 ((ZN (rtV A)) w.heap.size)))] [(40, (Is (.bool false))), (2, (Is (.bool false))), (0, TB)] B4 a4 W4 := S4
  refine wp_cond_false (S4.bool 0 40 rfl) ?_
  refine wp_skip ?_
  refine thenN ?_
  refine wp_stmt_seq [.val (Zx s p n c xs),
      .val ((ZO s n xs) w.heap.size),
      .val ((THREE (IS (.int .u64 (tM A : Nat))) (IS (.int .i64 (tE A : Nat))) (IS (.bool (tI A)))) w.heap.size),
      .val ((THREE (IS (.int .u64 (tM A : Nat))) (IS (.int .i64 (tE A : Nat))) (IS (.bool (tI A)))) w.heap.size),
      .val (Is (.int .u64 (tM A : Nat))),
      .val (Is (.int .i64 (tE A : Nat))),
      .val (Is (.bool (tI A))),
      .val (Is (.int .u64 (tM A : Nat))),
      .val (Is (.int .i64 (tE A : Nat))),
      .val (Is (.bool (tI A)))] [.inr 0, .inr 1, .inr 2] [.inl 7, .inl 8, .inl 9, .inr 0, .inr 1, .inr 2] follows S4 rfl (by kernel_rfl) ?_ ?_
  · refine ⟨⟨⟨⟨⟨⟨⟨⟨⟨⟨trivial, ?_⟩, ?_⟩, ?_⟩, ?_⟩, ?_⟩, ?_⟩, ?_⟩, ?_⟩, ?_⟩, ?_⟩
    · exact owe_load rfl (wants_all rfl) rfl (k := 0) rfl (by kernel_rfl) (loads_of strct_int shp_zx) rfl
    · exact owe_call1 rfl (wants_all rfl) rfl (opnd_op 0 42 (by kernel_rfl) rfl) (fresh_zo _ _ _) rfl (fun args w => by go_simp) (g_own hc)
    · exact owe_call1T rfl (wants_all rfl) rfl (opnd_op 1 43 (by kernel_rfl) rfl) (opnd_slot 2 0 rfl (by kernel_rfl)) (fresh_three (fresh_is _) (fresh_is _) (fresh_is _)) rfl (fun args w => by go_simp) (fun w u hT h1 => g_ztop (by omega) w u hT ((zo_zv eA (Nat.le_refl _)) _ _ h1))
    · exact owe_move rfl (wants_all rfl) (Or.inl rfl) (opnd_op 2 44 (by kernel_rfl) rfl) rfl
    · exact owe_ext3 rfl (wants_all rfl) rfl (opnd_op 3 41 (by kernel_rfl) rfl) (Or.inl ⟨rfl, rfl⟩) rfl
    · exact owe_ext3 rfl (wants_all rfl) rfl (opnd_op 3 41 (by kernel_rfl) rfl) (Or.inr (Or.inl ⟨rfl, rfl⟩)) rfl
    · exact owe_ext3 rfl (wants_all rfl) rfl (opnd_op 3 41 (by kernel_rfl) rfl) (Or.inr (Or.inr ⟨rfl, rfl⟩)) rfl
    · exact owe_move rfl (wants_all rfl) (Or.inr rfl) (opnd_op 4 45 (by kernel_rfl) rfl) rfl
    · exact owe_move rfl (wants_all rfl) (Or.inr rfl) (opnd_op 5 46 (by kernel_rfl) rfl) rfl
    · exact owe_move rfl (wants_all rfl) (Or.inr rfl) (opnd_op 6 47 (by kernel_rfl) rfl) rfl
  intro B5 a5 W5 S5
  replace S5 : Sta w 67 [(1, (.box 24 (Zx s p n c xs))), (3, (.box 24 ((ZN (rtV A)) w.heap.size))), (5, (.box 24 ((ZN (rtV A)) w.heap.size)))] [(7, (Is (.int .u64 (tM A : Nat)))), (8, (Is (.int .i64 (tE A : Nat)))), (9, (Is (.bool (tI A)))), (40, (Is (.bool false))), (2, (Is (.bool false))), (0, TB)] B5 a5 W5 := S5
  refine wp_stmt_seq [.val (Zx s p n c xs),
      .val ((THREE (IS (.int .u64 (tM A : Nat))) (IS (.int .i64 (tE A : Nat))) (IS (.bool (tI A)))) w.heap.size),
      .val ((THREE (IS (.int .u64 (tM A : Nat))) (IS (.int .i64 (tE A : Nat))) (IS (.bool (tI A)))) w.heap.size),
      .val (Is (.int .u64 (tM A : Nat))),
      .val (Is (.int .i64 (tE A : Nat))),
      .val (Is (.bool (tI A))),
      .val (Is (.int .u64 (tM A : Nat))),
      .val (Is (.int .i64 (tE A : Nat))),
      .val (Is (.bool (tI A)))] [.inr 0, .inr 1, .inr 2] [.inl 6, .inl 7, .inl 8, .inr 0, .inr 1, .inr 2, .inr 3, .inr 4, .inr 5] follows S5 rfl (by kernel_rfl) ?_ ?_
  · refine ⟨⟨⟨⟨⟨⟨⟨⟨⟨trivial, ?_⟩, ?_⟩, ?_⟩, ?_⟩, ?_⟩, ?_⟩, ?_⟩, ?_⟩, ?_⟩
    · exact owe_load rfl (wants_all rfl) rfl (k := 0) rfl (by kernel_rfl) (loads_of strct_int shp_zx) rfl
    · exact owe_call1 rfl (wants_all rfl) rfl (opnd_op 0 49 (by kernel_rfl) rfl) (fresh_three (fresh_is _) (fresh_is _) (fresh_is _)) rfl (fun args w => by go_simp) (fun w u h1 => g_rtop (by omega) w u ((zx_zv' eA (Nat.le_refl _)) _ _ h1))
    · exact owe_move rfl (wants_all rfl) (Or.inl rfl) (opnd_op 1 50 (by kernel_rfl) rfl) rfl
    · exact owe_ext3 rfl (wants_all rfl) rfl (opnd_op 2 48 (by kernel_rfl) rfl) (Or.inl ⟨rfl, rfl⟩) rfl
    · exact owe_ext3 rfl (wants_all rfl) rfl (opnd_op 2 48 (by kernel_rfl) rfl) (Or.inr (Or.inl ⟨rfl, rfl⟩)) rfl
    · exact owe_ext3 rfl (wants_all rfl) rfl (opnd_op 2 48 (by kernel_rfl) rfl) (Or.inr (Or.inr ⟨rfl, rfl⟩)) rfl
    · exact owe_move rfl (wants_all rfl) (Or.inr rfl) (opnd_op 3 51 (by kernel_rfl) rfl) rfl
    · exact owe_move rfl (wants_all rfl) (Or.inr rfl) (opnd_op 4 52 (by kernel_rfl) rfl) rfl
    · exact owe_move rfl (wants_all rfl) (Or.inr rfl) (opnd_op 5 53 (by kernel_rfl) rfl) rfl
  intro B6 a6 W6 S6
  replace S6 : Sta w 67 [(1, (.box 24 (Zx s p n c xs))), (3, (.box 24 ((ZN (rtV A)) w.heap.size))), (5, (.box 24 ((ZN (rtV A)) w.heap.size)))] [(10, (Is (.int .u64 (tM A : Nat)))), (11, (Is (.int .i64 (tE A : Nat)))), (12, (Is (.bool (tI A)))), (7, (Is (.int .u64 (tM A : Nat)))), (8, (Is (.int .i64 (tE A : Nat)))), (9, (Is (.bool (tI A)))), (40, (Is (.bool false))), (2, (Is (.bool false))), (0, TB)] B6 a6 W6 := S6
  refine wp_stmt_seq [.val (Is (.int .u64 (tM A : Nat))),
      .val (Is (.int .u64 (tM A : Nat))),
      .val (Is (.bool true)),
      .val (Is (.bool true)),
      .val (Is (.int .i64 (tE A : Nat))),
      .val (Is (.int .i64 (tE A : Nat))),
      .val (Is (.bool true)),
      .val (Is (.bool true)),
      .val (Is (.bool true)),
      .val (Is (.bool (tI A))),
      .val (Is (.bool (tI A))),
      .val (Is (.bool true)),
      .val (Is (.bool true)),
      .val (Is (.bool true))] [.inr 0, .inr 1, .inr 2] [.inl 13, .inr 6, .inr 8] follows S6 rfl (by kernel_rfl) ?_ ?_
  · refine ⟨⟨⟨⟨⟨⟨⟨⟨⟨⟨⟨⟨⟨⟨trivial, ?_⟩, ?_⟩, ?_⟩, ?_⟩, ?_⟩, ?_⟩, ?_⟩, ?_⟩, ?_⟩, ?_⟩, ?_⟩, ?_⟩, ?_⟩, ?_⟩
    · exact owe_move rfl (wants_all rfl) (Or.inl rfl) (opnd_slot 3 7 rfl (by kernel_rfl)) rfl
    · exact owe_move rfl (wants_all rfl) (Or.inl rfl) (opnd_slot 0 10 rfl (by kernel_rfl)) rfl
    · exact owe_bin rfl (wants_all rfl) rfl (opnd_op 0 54 (by kernel_rfl) rfl) (opnd_op 1 55 (by kernel_rfl) rfl) rfl (fun ρ w h1 h2 => by exact run_eql_u64_t ρ _ _ _ w _ h1 h2)
    · exact owe_move rfl (wants_all rfl) (Or.inl rfl) (opnd_op 2 56 (by kernel_rfl) rfl) rfl
    · exact owe_move rfl (wants_if 3 57 rfl (by kernel_rfl) rfl) (Or.inl rfl) (opnd_slot 4 8 rfl (by kernel_rfl)) rfl
    · exact owe_move rfl (wants_if 3 57 rfl (by kernel_rfl) rfl) (Or.inl rfl) (opnd_slot 1 11 rfl (by kernel_rfl)) rfl
    · exact owe_bin rfl (wants_if 3 57 rfl (by kernel_rfl) rfl) rfl (opnd_op 4 58 (by kernel_rfl) rfl) (opnd_op 5 59 (by kernel_rfl) rfl) rfl (fun ρ w h1 h2 => by exact run_eql_int_t ρ _ _ _ w _ _ rfl h1 h2)
    · exact owe_pick rfl (wants_all rfl) rfl (opnd_op 3 57 (by kernel_rfl) rfl) (fun _ => (opnd_op 6 60 (by kernel_rfl) rfl)) (fun h => nomatch h) rfl
    · exact owe_move rfl (wants_all rfl) (Or.inl rfl) (opnd_op 7 61 (by kernel_rfl) rfl) rfl
    · exact owe_move rfl (wants_if 8 62 rfl (by kernel_rfl) rfl) (Or.inl rfl) (opnd_slot 5 9 rfl (by kernel_rfl)) rfl
    · exact owe_move rfl (wants_if 8 62 rfl (by kernel_rfl) rfl) (Or.inl rfl) (opnd_slot 2 12 rfl (by kernel_rfl)) rfl
    · exact owe_bin rfl (wants_if 8 62 rfl (by kernel_rfl) rfl) rfl (opnd_op 9 63 (by kernel_rfl) rfl) (opnd_op 10 64 (by kernel_rfl) rfl) rfl (fun ρ w h1 h2 => by exact (run_eql_bool ρ _ _ _ w _ _ h1 h2).trans (by simp))
    · exact owe_pick rfl (wants_all rfl) rfl (opnd_op 8 62 (by kernel_rfl) rfl) (fun _ => (opnd_op 11 65 (by kernel_rfl) rfl)) (fun h => nomatch h) rfl
    · exact owe_move rfl (wants_all rfl) (Or.inr rfl) (opnd_op 12 66 (by kernel_rfl) rfl) rfl
  intro B7 a7 W7 S7
  replace S7 : Sta w 67 [(1, (.box 24 (Zx s p n c xs))), (3, (.box 24 ((ZN (rtV A)) w.heap.size))), (5, (.box 24 ((ZN (rtV A)) w.heap.size)))] [(2, (Is (.bool true))), (40, (Is (.bool false))), (0, TB)] B7 a7 W7 := S7
  refine wp_ret ?_
  exact end_one S7 rfl (res_tmp S7 0 2 rfl)

theorem ztops_walk (w : World) (s : Bool) (p : Option Addr) (n c : Nat) (xs : List Nat) (h : Sl w p n c xs) (hc : c ≤ 1048576) (hT : T32 w) :
    Calls Tryd.prog 3 #[.agg #[.bool s, .slice p n c]] w fun e w' => e = .returned (.bool true) ∧ Below w.heap.size w w' := by
  have h1 := h.cap
  refine (ztops_w w s p n c xs h _ rfl (by omega) (by omega) hT).mono ?_
  rintro e w' ⟨v, rfl, hb, hv⟩
  obtain rfl : v = _ := hv
  exact ⟨rfl, hb⟩
end Go.Proofs.YtcngoobdknifdaaDoor
