/-
  MatLinear's walk: it returns true and writes nothing that was there.
-/
import Derived.Test.YtdhjgekbocnnkaaDoorSetI
import Derived.Test.YtdhjgekbocnnkaaDoorSetS
import Derived.Test.YtdhjgekbocnnkaaDoorJoins
namespace Go.Proofs.YtdhjgekbocnnkaaDoor
open Go Go.RowKit Nt
set_option linter.unusedSimpArgs false
set_option linter.unusedVariables false
set_option maxRecDepth 20000

theorem run_mul_int (ρ : Operand → Value) (o : Oper) (x y : Operand) (w : World) (a b r : Int) (h : a * b = r ∧ -9223372036854775808 ≤ r ∧ r ≤ 9223372036854775807) (h1 : ρ x = .int .i64 a) (h2 : ρ y = .int .i64 b) : (execOp ρ { o with op := .binOp .mul 3 x y 3 }).run Tryd.prog w = .ok (.value (.int .i64 r)) w := run_mul_i ρ o x y w a b r h h1 h2
theorem mvdl {n k : Nat} {zss : List (List Int)} {u : Value} {w : World} (h : Mv n zss k u w) : Mdl zss k := fun i zs hz => by
  obtain ⟨r, hr⟩ := mv_row h hz
  exact vv_dl hr

set_option maxHeartbeats 8000000 in
theorem matlinear_w (w : World) (u v x : Value) (n m l : Nat) (A B C : List (List Int)) (h : Hs w (Mv n A 1048576) u) (h' : Hs w (Mv m B 1048576) v) (h'' : Hs w (Mv l C 1048576) x) (hn : n ≤ 1048576) (hm : m ≤ 1048576) (hl : l ≤ 1048576) (hLA : Ml A 1048576) (hLB : Ml B 1048576) (hLC : Ml C 1048576) (hT : Tab w) :
    Calls Tryd.prog 4 #[u, v, x] w (Gives (IS (.bool true)) w) := by
  have eA := mv_len h.now
  have eB := mv_len h'.now
  have eC := mv_len h''.now
  have dA : Mdl A 1048576 := mvdl h.now
  have dB : Mdl B 1048576 := mvdl h'.now
  have dC : Mdl C 1048576 := mvdl h''.now
  have dAB : Mdl (prodE (A) (B)) 3145728 := mdl_prod dA dB hLA
  have dBC : Mdl (prodE (B) (C)) 3145728 := mdl_prod dB dC hLB
  have lAB : Ml (prodE (A) (B)) 1048576 := ml_prod hLB
  have lBC : Ml (prodE (B) (C)) 1048576 := ml_prod hLC
  have dABC : Mdl (prodE (prodE (A) (B)) (C)) 5242880 := mdl_prod dAB dC lAB
  have dA_BC : Mdl (prodE (A) (prodE (B) (C))) 5242880 := mdl_prod dA dBC hLA
  have lABC : Ml (prodE (prodE (A) (B)) (C)) 1048576 := ml_prod hLC
  have lA_BC : Ml (prodE (A) (prodE (B) (C))) 1048576 := ml_prod lBC
  have nAB : prodN (A) (B) ≤ 1048576 := prodN_le (by omega)
  have nBC : prodN (B) (C) ≤ 1048576 := prodN_le (by omega)
  have pl : ∀ X Y : List (List Int), X.length ≤ 1048576 → (prodE X Y).length ≤ 1048576 := fun X Y hX => by unfold prodE; split <;> simp <;> omega
  have nABC : prodN (prodE (A) (B)) (C) ≤ 1048576 := prodN_le (pl _ _ (by omega))
  have nA_BC : prodN (A) (prodE (B) (C)) ≤ 1048576 := prodN_le (by omega)
  have dX : Dl (xsF n) 2 := xsF_dl hn
  have dXA : Dl (combE (xsF n) (A)) 2097154 := dl_combE dX dA (by rw [xsF_len]; exact hn)
  have cl : ∀ (X : List Int) (Y : List (List Int)), Ml Y 1048576 → (combE X Y).length ≤ 1048576 := fun X Y hY => by unfold combE; split <;> simp [comb_len]; exact wd_le hY
  have dXAB : Dl (combE (combE (xsF n) (A)) (B)) 4194306 := dl_combE dXA dB (cl _ _ hLA)
  have dX_AB : Dl (combE (xsF n) (prodE (A) (B))) 4194306 := dl_combE dX dAB (by rw [xsF_len]; exact hn)
  have nXA : combN (xsF n) (A) ≤ 1048576 := combN_le hLA
  have nXAB : combN (combE (xsF n) (A)) (B) ≤ 1048576 := combN_le hLB
  have nX_AB : combN (xsF n) (prodE (A) (B)) ≤ 1048576 := combN_le lAB
  have dTB : Mdl (turnE (B)) 1048576 := mdl_turn dB
  have dTTB : Mdl (turnE (turnE (B))) 1048576 := mdl_turn dTB
  have lTB : Ml (turnE (B)) 1048576 := ml_turn (by omega)
  have nTB : turnN (B) ≤ 1048576 := turnN_le hLB
  have tl : (turnE B).length ≤ 1048576 := by unfold turnE; split <;> simp [turnZ]; exact wd_le hLB
  have lTTB : Ml (turnE (turnE (B))) 1048576 := ml_turn tl
  have nTTB : turnN (turnE (B)) ≤ 1048576 := turnN_le lTB
  refine calls_sta (sl := [(0, (Mv n A 1048576)), (1, (Mv m B 1048576)), (2, (Mv l C 1048576))]) Tryd.func4 rfl Tryd.ntmps4 (by simp) (args_cons rfl (h) (args_cons rfl (h') (args_cons rfl (h'') args_nil))) ?_
  intro a0 S0
  replace S0 : Sta w 149 [] [(0, (Mv n A 1048576)), (1, (Mv m B 1048576)), (2, (Mv l C 1048576)), (1000001, TT)] (fun _ => False) a0 w := S0.moreT 1000001 (tt_has hT)
  refine wp_stmt_seq [.val (Is (.bool false))] [] [.inl 0, .inr 0, .inr 1, .inr 2, .inr 3] follows S0 rfl (by kernel_rfl) ?_ ?_
  · refine ⟨trivial, ?_⟩
    · exact owe_move rfl (wants_all rfl) (Or.inr rfl) (opnd_const _) rfl
  intro B1 a1 W1 S1
  replace S1 : Sta w 149 [] [(6, (Is (.bool false))), (0, (Mv n A 1048576)), (1, (Mv m B 1048576)), (2, (Mv l C 1048576)), (1000001, TT)] B1 a1 W1 := S1
  refine wp_seq ?_
  refine wp_stmt_seq [.val (Is (.bool true)),
      .val (Is (.bool false))] [] [.inl 1, .inr 0, .inr 1, .inr 2, .inr 3, .inr 4] follows S1 rfl (by kernel_rfl) ?_ ?_
  · refine ⟨⟨trivial, ?_⟩, ?_⟩
    · exact owe_call0T rfl (wants_all rfl) rfl (opnd_slot 4 1000001 rfl (by kernel_rfl)) (fresh_is _) rfl (fun args w => by go_simp) alive_w
    · exact owe_un (x := .tmp 25) rfl (wants_all rfl) rfl (opnd_op 0 25 (by kernel_rfl) rfl) rfl (fun ρ w h1 => run_not ρ _ _ w _ h1)
  intro B2 a2 W2 S2
  replace S2 : Sta w 149 [] [(26, (Is (.bool false))), (6, (Is (.bool false))), (0, (Mv n A 1048576)), (1, (Mv m B 1048576)), (2, (Mv l C 1048576)), (1000001, TT)] B2 a2 W2 := S2
  refine wp_cond_false (S2.bool 0 26 rfl) ?_
  refine wp_skip ?_
  refine thenN ?_
  refine wp_stmt_seq [.val (Mv n A 1048576),
      .val (Mv m B 1048576),
      .val ((TWO (MN (prodN (A) (B)) (prodE (A) (B))) (IS (.int .i64 (errB (okP (A) (B)))))) w.heap.size),
      .val ((TWO (MN (prodN (A) (B)) (prodE (A) (B))) (IS (.int .i64 (errB (okP (A) (B)))))) w.heap.size),
      .val ((MN (prodN (A) (B)) (prodE (A) (B))) w.heap.size),
      .val (Is (.int .i64 (errB (okP (A) (B))))),
      .val ((MN (prodN (A) (B)) (prodE (A) (B))) w.heap.size),
      .val (Is (.int .i64 (errB (okP (A) (B)))))] [] [.inl 6, .inl 7, .inr 0, .inr 1, .inr 2, .inr 3, .inr 4, .inr 5] follows S2 rfl (by kernel_rfl) ?_ ?_
  · refine ⟨⟨⟨⟨⟨⟨⟨⟨trivial, ?_⟩, ?_⟩, ?_⟩, ?_⟩, ?_⟩, ?_⟩, ?_⟩, ?_⟩
    · exact owe_move rfl (wants_all rfl) (Or.inl rfl) (opnd_slot 2 0 rfl (by kernel_rfl)) rfl
    · exact owe_move rfl (wants_all rfl) (Or.inl rfl) (opnd_slot 3 1 rfl (by kernel_rfl)) rfl
    · exact owe_callh2 rfl (wants_all rfl) rfl ((opnd_op 0 28 (by kernel_rfl) rfl).imp (fun _ _ h => h)) ((opnd_op 1 29 (by kernel_rfl) rfl).imp (fun _ _ h => h)) (fresh_two fresh_mn (fresh_is _)) rfl (fun args w => by go_simp) (fun w u v h h' => h_prod w u v n m 1048576 1048576 _ _ h h' (by omega) (by omega) (by omega) hLB)
    · exact owe_move rfl (wants_all rfl) (Or.inl rfl) (opnd_op 2 30 (by kernel_rfl) rfl) rfl
    · exact owe_ext2 rfl (wants_all rfl) rfl (opnd_op 3 27 (by kernel_rfl) rfl) (Or.inl ⟨rfl, rfl⟩) rfl
    · exact owe_ext2 rfl (wants_all rfl) rfl (opnd_op 3 27 (by kernel_rfl) rfl) (Or.inr ⟨rfl, rfl⟩) rfl
    · exact owe_move rfl (wants_all rfl) (Or.inr rfl) (opnd_op 4 31 (by kernel_rfl) rfl) rfl
    · exact owe_move rfl (wants_all rfl) (Or.inr rfl) (opnd_op 5 32 (by kernel_rfl) rfl) rfl
  intro B3 a3 W3 S3
  replace S3 : Sta w 149 [] [(7, ((MN (prodN (A) (B)) (prodE (A) (B))) w.heap.size)), (8, (Is (.int .i64 (errB (okP (A) (B)))))), (26, (Is (.bool false))), (6, (Is (.bool false))), (0, (Mv n A 1048576)), (1, (Mv m B 1048576)), (2, (Mv l C 1048576)), (1000001, TT)] B3 a3 W3 := S3
  refine wp_seq_join (fun a W => ∃ Bq, Sta w 149 [] [(1, (Mv m B 1048576))] Bq a W) ?_ ?_
  · rintro a4 W4 ⟨B4, S4⟩
    refine wp_stmt_seq [.val (Mv m B 1048576),
      .val ((TWO (MN (turnN (B)) (turnE (B))) (IS (.int .i64 (errB (reg (B)))))) w.heap.size),
      .val ((TWO (MN (turnN (B)) (turnE (B))) (IS (.int .i64 (errB (reg (B)))))) w.heap.size),
      .val ((MN (turnN (B)) (turnE (B))) w.heap.size),
      .val (Is (.int .i64 (errB (reg (B))))),
      .val ((MN (turnN (B)) (turnE (B))) w.heap.size),
      .val (Is (.int .i64 (errB (reg (B)))))] [] [.inl 5, .inl 6, .inr 0] follows S4 rfl (by kernel_rfl) ?_ ?_
    · refine ⟨⟨⟨⟨⟨⟨⟨trivial, ?_⟩, ?_⟩, ?_⟩, ?_⟩, ?_⟩, ?_⟩, ?_⟩
      · exact owe_move rfl (wants_all rfl) (Or.inl rfl) (opnd_slot 0 1 rfl (by kernel_rfl)) rfl
      · exact owe_callh1 rfl (wants_all rfl) rfl ((opnd_op 0 126 (by kernel_rfl) rfl).imp (fun _ _ h => h)) (fresh_two fresh_mn (fresh_is _)) rfl (fun args w => by go_simp) (fun w u h => h_turn w u m 1048576 _ h (by omega) (by omega) hLB)
      · exact owe_move rfl (wants_all rfl) (Or.inl rfl) (opnd_op 1 127 (by kernel_rfl) rfl) rfl
      · exact owe_ext2 rfl (wants_all rfl) rfl (opnd_op 2 125 (by kernel_rfl) rfl) (Or.inl ⟨rfl, rfl⟩) rfl
      · exact owe_ext2 rfl (wants_all rfl) rfl (opnd_op 2 125 (by kernel_rfl) rfl) (Or.inr ⟨rfl, rfl⟩) rfl
      · exact owe_move rfl (wants_all rfl) (Or.inr rfl) (opnd_op 3 128 (by kernel_rfl) rfl) rfl
      · exact owe_move rfl (wants_all rfl) (Or.inr rfl) (opnd_op 4 129 (by kernel_rfl) rfl) rfl
    intro B5 a5 W5 S5
    replace S5 : Sta w 149 [] [(23, ((MN (turnN (B)) (turnE (B))) w.heap.size)), (8, (Is (.int .i64 (errB (reg (B)))))), (1, (Mv m B 1048576))] B5 a5 W5 := S5
    rcases (show reg B = false ∨ (reg B = true ∧ turnN B = 0) ∨ (reg B = true ∧ 0 < turnN B) from by cases reg B <;> simp; omega) with q7 | ⟨q7, q8⟩ | ⟨q7, q8⟩
    · skip
      refine wp_seq ?_
      refine wp_stmt_seq [.val (Is (.int .i64 (errB (reg (B))))),
      .val (Is (.bool true)),
      .val (Is (.bool true)),
      .off,
      .off,
      .off,
      .val (Is (.bool true))] [] [.inl 6, .inr 0, .inr 1, .inr 2] follows S5 rfl (by kernel_rfl) ?_ ?_
      · refine ⟨⟨⟨⟨⟨⟨⟨trivial, ?_⟩, ?_⟩, ?_⟩, ?_⟩, ?_⟩, ?_⟩, ?_⟩
        · exact owe_move rfl (wants_all rfl) (Or.inl rfl) (opnd_slot 1 8 rfl (by kernel_rfl)) rfl
        · exact owe_bin rfl (wants_all rfl) rfl (opnd_op 0 130 (by kernel_rfl) rfl) (opnd_const _) rfl (fun ρ w h1 h2 => by exact run_neq_errno_t ρ _ _ _ w _ _ (errB_f q7) h1 h2)
        · exact owe_move rfl (wants_all rfl) (Or.inl rfl) (opnd_op 1 131 (by kernel_rfl) rfl) rfl
        · exact owe_off 2 132 rfl rfl rfl (by kernel_rfl) rfl (by decide)
        · exact owe_off 2 132 rfl rfl rfl (by kernel_rfl) rfl (by decide)
        · exact owe_off 2 132 rfl rfl rfl (by kernel_rfl) rfl (by decide)
        · exact owe_pick rfl (wants_all rfl) rfl (opnd_op 2 132 (by kernel_rfl) rfl) (fun _ => (opnd_const _)) (fun h => nomatch h) rfl
      intro B6 a6 W6 S6
      replace S6 : Sta w 149 [] [(136, (Is (.bool true))), (23, ((MN (turnN (B)) (turnE (B))) w.heap.size)), (8, (Is (.int .i64 (errB (reg (B)))))), (1, (Mv m B 1048576))] B6 a6 W6 := S6
      refine wp_cond_true (S6.bool 0 136 rfl) ?_
      refine wp_stmt_seq [.val (Is (.bool true))] [] [.inl 0, .inr 0, .inr 1, .inr 2, .inr 3] follows S6 rfl (by kernel_rfl) ?_ ?_
      · refine ⟨trivial, ?_⟩
        · exact owe_move rfl (wants_all rfl) (Or.inr rfl) (opnd_const _) rfl
      intro B7 a7 W7 S7
      replace S7 : Sta w 149 [] [(6, (Is (.bool true))), (136, (Is (.bool true))), (23, ((MN (turnN (B)) (turnE (B))) w.heap.size)), (8, (Is (.int .i64 (errB (reg (B)))))), (1, (Mv m B 1048576))] B7 a7 W7 := S7
      refine wp_ret ?_
      refine thenR ?_
      exact end_one S7 rfl (res_tmp S7 0 6 rfl)
    · skip
      refine wp_seq ?_
      refine wp_stmt_seq [.val (Is (.int .i64 (errB (reg (B))))),
      .val (Is (.bool false)),
      .val (Is (.bool false)),
      .val ((MN (turnN (B)) (turnE (B))) w.heap.size),
      .val (Is (.int .i64 (turnN (B) : Nat))),
      .val (Is (.bool true)),
      .val (Is (.bool true))] [] [.inl 6, .inr 0, .inr 1, .inr 2] follows S5 rfl (by kernel_rfl) ?_ ?_
      · refine ⟨⟨⟨⟨⟨⟨⟨trivial, ?_⟩, ?_⟩, ?_⟩, ?_⟩, ?_⟩, ?_⟩, ?_⟩
        · exact owe_move rfl (wants_all rfl) (Or.inl rfl) (opnd_slot 1 8 rfl (by kernel_rfl)) rfl
        · exact owe_bin rfl (wants_all rfl) rfl (opnd_op 0 130 (by kernel_rfl) rfl) (opnd_const _) rfl (fun ρ w h1 h2 => by exact run_neq_errno_f ρ _ _ _ w _ _ (errB_t q7) h1 h2)
        · exact owe_move rfl (wants_all rfl) (Or.inl rfl) (opnd_op 1 131 (by kernel_rfl) rfl) rfl
        · exact owe_move rfl (wants_if 2 132 rfl (by kernel_rfl) rfl) (Or.inl rfl) (opnd_slot 0 23 rfl (by kernel_rfl)) rfl
        · exact owe_len rfl (wants_if 2 132 rfl (by kernel_rfl) rfl) rfl (opnd_op 3 133 (by kernel_rfl) rfl) lf_len Tryd.underlying22 rfl
        · exact owe_bin rfl (wants_if 2 132 rfl (by kernel_rfl) rfl) rfl (opnd_op 4 134 (by kernel_rfl) rfl) (opnd_const _) rfl (fun ρ w h1 h2 => by exact run_eql_int_t ρ _ _ _ w _ _ (by omega) h1 h2)
        · exact owe_pick rfl (wants_all rfl) rfl (opnd_op 2 132 (by kernel_rfl) rfl) (fun h => nomatch h) (fun _ => (opnd_op 5 135 (by kernel_rfl) rfl)) rfl
      intro B6 a6 W6 S6
      replace S6 : Sta w 149 [] [(136, (Is (.bool true))), (23, ((MN (turnN (B)) (turnE (B))) w.heap.size)), (8, (Is (.int .i64 (errB (reg (B)))))), (1, (Mv m B 1048576))] B6 a6 W6 := S6
      refine wp_cond_true (S6.bool 0 136 rfl) ?_
      refine wp_stmt_seq [.val (Is (.bool true))] [] [.inl 0, .inr 0, .inr 1, .inr 2, .inr 3] follows S6 rfl (by kernel_rfl) ?_ ?_
      · refine ⟨trivial, ?_⟩
        · exact owe_move rfl (wants_all rfl) (Or.inr rfl) (opnd_const _) rfl
      intro B7 a7 W7 S7
      replace S7 : Sta w 149 [] [(6, (Is (.bool true))), (136, (Is (.bool true))), (23, ((MN (turnN (B)) (turnE (B))) w.heap.size)), (8, (Is (.int .i64 (errB (reg (B)))))), (1, (Mv m B 1048576))] B7 a7 W7 := S7
      refine wp_ret ?_
      refine thenR ?_
      exact end_one S7 rfl (res_tmp S7 0 6 rfl)
    · skip
      obtain ⟨q9, q10⟩ := lin_turn q7 q8
      refine wp_seq ?_
      refine wp_stmt_seq [.val (Is (.int .i64 (errB (reg (B))))),
      .val (Is (.bool false)),
      .val (Is (.bool false)),
      .val ((MN (turnN (B)) (turnE (B))) w.heap.size),
      .val (Is (.int .i64 (turnN (B) : Nat))),
      .val (Is (.bool false)),
      .val (Is (.bool false))] [] [.inl 6, .inr 0, .inr 1, .inr 2] follows S5 rfl (by kernel_rfl) ?_ ?_
      · refine ⟨⟨⟨⟨⟨⟨⟨trivial, ?_⟩, ?_⟩, ?_⟩, ?_⟩, ?_⟩, ?_⟩, ?_⟩
        · exact owe_move rfl (wants_all rfl) (Or.inl rfl) (opnd_slot 1 8 rfl (by kernel_rfl)) rfl
        · exact owe_bin rfl (wants_all rfl) rfl (opnd_op 0 130 (by kernel_rfl) rfl) (opnd_const _) rfl (fun ρ w h1 h2 => by exact run_neq_errno_f ρ _ _ _ w _ _ (errB_t q7) h1 h2)
        · exact owe_move rfl (wants_all rfl) (Or.inl rfl) (opnd_op 1 131 (by kernel_rfl) rfl) rfl
        · exact owe_move rfl (wants_if 2 132 rfl (by kernel_rfl) rfl) (Or.inl rfl) (opnd_slot 0 23 rfl (by kernel_rfl)) rfl
        · exact owe_len rfl (wants_if 2 132 rfl (by kernel_rfl) rfl) rfl (opnd_op 3 133 (by kernel_rfl) rfl) lf_len Tryd.underlying22 rfl
        · exact owe_bin rfl (wants_if 2 132 rfl (by kernel_rfl) rfl) rfl (opnd_op 4 134 (by kernel_rfl) rfl) (opnd_const _) rfl (fun ρ w h1 h2 => by exact run_eql_int_f ρ _ _ _ w _ _ (by omega) h1 h2)
        · exact owe_pick rfl (wants_all rfl) rfl (opnd_op 2 132 (by kernel_rfl) rfl) (fun h => nomatch h) (fun _ => (opnd_op 5 135 (by kernel_rfl) rfl)) rfl
      intro B6 a6 W6 S6
      replace S6 : Sta w 149 [] [(136, (Is (.bool false))), (23, ((MN (turnN (B)) (turnE (B))) w.heap.size)), (8, (Is (.int .i64 (errB (reg (B)))))), (1, (Mv m B 1048576))] B6 a6 W6 := S6
      refine wp_cond_false (S6.bool 0 136 rfl) ?_
      refine wp_skip ?_
      refine thenN ?_
      refine wp_stmt_seq [.val ((MN (turnN (B)) (turnE (B))) w.heap.size),
      .val ((TWO (MN (turnN (turnE (B))) (turnE (turnE (B)))) (IS (.int .i64 (errB (reg (turnE (B))))))) w.heap.size),
      .val ((TWO (MN (turnN (turnE (B))) (turnE (turnE (B)))) (IS (.int .i64 (errB (reg (turnE (B))))))) w.heap.size),
      .val ((MN (turnN (turnE (B))) (turnE (turnE (B)))) w.heap.size),
      .val (Is (.int .i64 (errB (reg (turnE (B)))))),
      .val ((MN (turnN (turnE (B))) (turnE (turnE (B)))) w.heap.size),
      .val (Is (.int .i64 (errB (reg (turnE (B))))))] [] [.inl 5, .inl 6, .inr 0, .inr 1, .inr 3] follows S6 rfl (by kernel_rfl) ?_ ?_
      · refine ⟨⟨⟨⟨⟨⟨⟨trivial, ?_⟩, ?_⟩, ?_⟩, ?_⟩, ?_⟩, ?_⟩, ?_⟩
        · exact owe_move rfl (wants_all rfl) (Or.inl rfl) (opnd_slot 1 23 rfl (by kernel_rfl)) rfl
        · exact owe_callh1 rfl (wants_all rfl) rfl ((opnd_op 0 138 (by kernel_rfl) rfl).imp (mn_mv dTB)) (fresh_two fresh_mn (fresh_is _)) rfl (fun args w => by go_simp) (fun w u h => h_turn w u (turnN (B)) 1048576 _ h (by omega) (by omega) lTB)
        · exact owe_move rfl (wants_all rfl) (Or.inl rfl) (opnd_op 1 139 (by kernel_rfl) rfl) rfl
        · exact owe_ext2 rfl (wants_all rfl) rfl (opnd_op 2 137 (by kernel_rfl) rfl) (Or.inl ⟨rfl, rfl⟩) rfl
        · exact owe_ext2 rfl (wants_all rfl) rfl (opnd_op 2 137 (by kernel_rfl) rfl) (Or.inr ⟨rfl, rfl⟩) rfl
        · exact owe_move rfl (wants_all rfl) (Or.inr rfl) (opnd_op 3 140 (by kernel_rfl) rfl) rfl
        · exact owe_move rfl (wants_all rfl) (Or.inr rfl) (opnd_op 4 141 (by kernel_rfl) rfl) rfl
      intro B7 a7 W7 S7
      replace S7 : Sta w 149 [] [(24, ((MN (turnN (turnE (B))) (turnE (turnE (B)))) w.heap.size)), (8, (Is (.int .i64 (errB (reg (turnE (B))))))), (136, (Is (.bool false))), (23, ((MN (turnN (B)) (turnE (B))) w.heap.size)), (1, (Mv m B 1048576))] B7 a7 W7 := S7
      refine wp_stmt_seq [.val (Is (.int .i64 (errB (reg (turnE (B)))))),
      .val (Is (.bool true)),
      .val (Is (.bool true)),
      .val ((MN (turnN (turnE (B))) (turnE (turnE (B)))) w.heap.size),
      .val (Mv m B 1048576),
      .val (Is (.bool true)),
      .val (Is (.bool true)),
      .val (Is (.bool true))] [] [.inl 7, .inr 1, .inr 2, .inr 3, .inr 4] follows S7 rfl (by kernel_rfl) ?_ ?_
      · refine ⟨⟨⟨⟨⟨⟨⟨⟨trivial, ?_⟩, ?_⟩, ?_⟩, ?_⟩, ?_⟩, ?_⟩, ?_⟩, ?_⟩
        · exact owe_move rfl (wants_all rfl) (Or.inl rfl) (opnd_slot 1 8 rfl (by kernel_rfl)) rfl
        · exact owe_bin rfl (wants_all rfl) rfl (opnd_op 0 142 (by kernel_rfl) rfl) (opnd_const _) rfl (fun ρ w h1 h2 => by exact run_eql_errno_t ρ _ _ _ w _ _ (errB_t q9) h1 h2)
        · exact owe_move rfl (wants_all rfl) (Or.inl rfl) (opnd_op 1 143 (by kernel_rfl) rfl) rfl
        · exact owe_move rfl (wants_if 2 144 rfl (by kernel_rfl) rfl) (Or.inl rfl) (opnd_slot 0 24 rfl (by kernel_rfl)) rfl
        · exact owe_move rfl (wants_if 2 144 rfl (by kernel_rfl) rfl) (Or.inl rfl) (opnd_slot 4 1 rfl (by kernel_rfl)) rfl
        · exact owe_callh2 rfl (wants_if 2 144 rfl (by kernel_rfl) rfl) rfl ((opnd_op 3 145 (by kernel_rfl) rfl).imp (mn_mv dTTB)) ((opnd_op 4 146 (by kernel_rfl) rfl).imp (fun _ _ h => h)) (fresh_is _) rfl (fun args w => by go_simp) (fun w u0 u1 h0 h1 => Gives.cast ((fun w u v h h' => same_w w u v (turnN (turnE (B))) m 1048576 1048576 _ _ h h' (by omega) (by omega) (by omega) (by omega) lTTB hLB) w u0 u1 h0 h1) (by rw [q10]))
        · exact owe_pick rfl (wants_all rfl) rfl (opnd_op 2 144 (by kernel_rfl) rfl) (fun _ => (opnd_op 5 147 (by kernel_rfl) rfl)) (fun h => nomatch h) rfl
        · exact owe_move rfl (wants_all rfl) (Or.inr rfl) (opnd_op 6 148 (by kernel_rfl) rfl) rfl
      intro B8 a8 W8 S8
      replace S8 : Sta w 149 [] [(6, (Is (.bool true))), (8, (Is (.int .i64 (errB (reg (turnE (B))))))), (136, (Is (.bool false))), (23, ((MN (turnN (B)) (turnE (B))) w.heap.size)), (1, (Mv m B 1048576))] B8 a8 W8 := S8
      refine wp_ret ?_
      exact end_one S8 rfl (res_tmp S8 0 6 rfl)
  · rcases (show (okP A B = true ∧ 0 < n) ∨ (okP A B = true ∧ n = 0) ∨ okP A B = false from by cases okP A B <;> simp <;> omega) with ⟨q1, q2⟩ | ⟨q1, q2⟩ | q1
    · skip
      have hp : 0 < A.length := by omega
      obtain ⟨c1, c2, c3, c4⟩ := lin_comb q1 hp (xs := xsF n) (by rw [xsF_len]; omega)
      refine wp_stmt_seq [.val (Is (.int .i64 (errB (okP (A) (B))))),
      .val (Is (.bool true)),
      .val (Is (.bool true)),
      .val (Mv n A 1048576),
      .val (Is (.int .i64 (n : Nat))),
      .val (Is (.bool true)),
      .val (Is (.bool true))] [] [.inl 6, .inr 0, .inr 1, .inr 2, .inr 3, .inr 4, .inr 5, .inr 6, .inr 7] follows S3 rfl (by kernel_rfl) ?_ ?_
      · refine ⟨⟨⟨⟨⟨⟨⟨trivial, ?_⟩, ?_⟩, ?_⟩, ?_⟩, ?_⟩, ?_⟩, ?_⟩
        · exact owe_move rfl (wants_all rfl) (Or.inl rfl) (opnd_slot 1 8 rfl (by kernel_rfl)) rfl
        · exact owe_bin rfl (wants_all rfl) rfl (opnd_op 0 33 (by kernel_rfl) rfl) (opnd_const _) rfl (fun ρ w h1 h2 => by exact run_eql_errno_t ρ _ _ _ w _ _ (errB_t q1) h1 h2)
        · exact owe_move rfl (wants_all rfl) (Or.inl rfl) (opnd_op 1 34 (by kernel_rfl) rfl) rfl
        · exact owe_move rfl (wants_if 2 35 rfl (by kernel_rfl) rfl) (Or.inl rfl) (opnd_slot 4 0 rfl (by kernel_rfl)) rfl
        · exact owe_len rfl (wants_if 2 35 rfl (by kernel_rfl) rfl) rfl (opnd_op 3 36 (by kernel_rfl) rfl) ar_len Tryd.underlying22 rfl
        · exact owe_bin rfl (wants_if 2 35 rfl (by kernel_rfl) rfl) rfl (opnd_op 4 37 (by kernel_rfl) rfl) (opnd_const _) rfl (fun ρ w h1 h2 => by exact run_gtr_int_t ρ _ _ _ w _ _ (by omega) h1 h2)
        · exact owe_pick rfl (wants_all rfl) rfl (opnd_op 2 35 (by kernel_rfl) rfl) (fun _ => (opnd_op 5 38 (by kernel_rfl) rfl)) (fun h => nomatch h) rfl
      intro B4 a4 W4 S4
      replace S4 : Sta w 149 [] [(39, (Is (.bool true))), (7, ((MN (prodN (A) (B)) (prodE (A) (B))) w.heap.size)), (8, (Is (.int .i64 (errB (okP (A) (B)))))), (26, (Is (.bool false))), (6, (Is (.bool false))), (0, (Mv n A 1048576)), (1, (Mv m B 1048576)), (2, (Mv l C 1048576)), (1000001, TT)] B4 a4 W4 := S4
      refine wp_cond_true (S4.bool 0 39 rfl) ?_
      refine wp_stmt_seq [.val ((MN (prodN (A) (B)) (prodE (A) (B))) w.heap.size),
      .val (Mv l C 1048576),
      .val ((TWO (MN (prodN (prodE (A) (B)) (C)) (prodE (prodE (A) (B)) (C))) (IS (.int .i64 (errB (okP (prodE (A) (B)) (C)))))) w.heap.size),
      .val ((TWO (MN (prodN (prodE (A) (B)) (C)) (prodE (prodE (A) (B)) (C))) (IS (.int .i64 (errB (okP (prodE (A) (B)) (C)))))) w.heap.size),
      .val ((MN (prodN (prodE (A) (B)) (C)) (prodE (prodE (A) (B)) (C))) w.heap.size),
      .val (Is (.int .i64 (errB (okP (prodE (A) (B)) (C))))),
      .val ((MN (prodN (prodE (A) (B)) (C)) (prodE (prodE (A) (B)) (C))) w.heap.size),
      .val (Is (.int .i64 (errB (okP (prodE (A) (B)) (C)))))] [] [.inl 6, .inl 7, .inr 0, .inr 1, .inr 2, .inr 3, .inr 4, .inr 5, .inr 6, .inr 7, .inr 8] follows S4 rfl (by kernel_rfl) ?_ ?_
      · refine ⟨⟨⟨⟨⟨⟨⟨⟨trivial, ?_⟩, ?_⟩, ?_⟩, ?_⟩, ?_⟩, ?_⟩, ?_⟩, ?_⟩
        · exact owe_move rfl (wants_all rfl) (Or.inl rfl) (opnd_slot 1 7 rfl (by kernel_rfl)) rfl
        · exact owe_move rfl (wants_all rfl) (Or.inl rfl) (opnd_slot 7 2 rfl (by kernel_rfl)) rfl
        · exact owe_callh2 rfl (wants_all rfl) rfl ((opnd_op 0 41 (by kernel_rfl) rfl).imp (mn_mv dAB)) ((opnd_op 1 42 (by kernel_rfl) rfl).imp (fun _ _ h => h)) (fresh_two fresh_mn (fresh_is _)) rfl (fun args w => by go_simp) (fun w u v h h' => h_prod w u v (prodN (A) (B)) l 3145728 1048576 _ _ h h' (by omega) (by omega) (by omega) hLC)
        · exact owe_move rfl (wants_all rfl) (Or.inl rfl) (opnd_op 2 43 (by kernel_rfl) rfl) rfl
        · exact owe_ext2 rfl (wants_all rfl) rfl (opnd_op 3 40 (by kernel_rfl) rfl) (Or.inl ⟨rfl, rfl⟩) rfl
        · exact owe_ext2 rfl (wants_all rfl) rfl (opnd_op 3 40 (by kernel_rfl) rfl) (Or.inr ⟨rfl, rfl⟩) rfl
        · exact owe_move rfl (wants_all rfl) (Or.inr rfl) (opnd_op 4 44 (by kernel_rfl) rfl) rfl
        · exact owe_move rfl (wants_all rfl) (Or.inr rfl) (opnd_op 5 45 (by kernel_rfl) rfl) rfl
      intro B5 a5 W5 S5
      replace S5 : Sta w 149 [] [(9, ((MN (prodN (prodE (A) (B)) (C)) (prodE (prodE (A) (B)) (C))) w.heap.size)), (10, (Is (.int .i64 (errB (okP (prodE (A) (B)) (C)))))), (39, (Is (.bool true))), (7, ((MN (prodN (A) (B)) (prodE (A) (B))) w.heap.size)), (8, (Is (.int .i64 (errB (okP (A) (B)))))), (26, (Is (.bool false))), (6, (Is (.bool false))), (0, (Mv n A 1048576)), (1, (Mv m B 1048576)), (2, (Mv l C 1048576)), (1000001, TT)] B5 a5 W5 := S5
      refine wp_stmt_seq [.val (Mv m B 1048576),
      .val (Mv l C 1048576),
      .val ((TWO (MN (prodN (B) (C)) (prodE (B) (C))) (IS (.int .i64 (errB (okP (B) (C)))))) w.heap.size),
      .val ((TWO (MN (prodN (B) (C)) (prodE (B) (C))) (IS (.int .i64 (errB (okP (B) (C)))))) w.heap.size),
      .val ((MN (prodN (B) (C)) (prodE (B) (C))) w.heap.size),
      .val (Is (.int .i64 (errB (okP (B) (C))))),
      .val ((MN (prodN (B) (C)) (prodE (B) (C))) w.heap.size),
      .val (Is (.int .i64 (errB (okP (B) (C)))))] [] [.inl 6, .inl 7, .inr 0, .inr 1, .inr 2, .inr 3, .inr 4, .inr 5, .inr 6, .inr 7, .inr 8, .inr 9, .inr 10] follows S5 rfl (by kernel_rfl) ?_ ?_
      · refine ⟨⟨⟨⟨⟨⟨⟨⟨trivial, ?_⟩, ?_⟩, ?_⟩, ?_⟩, ?_⟩, ?_⟩, ?_⟩, ?_⟩
        · exact owe_move rfl (wants_all rfl) (Or.inl rfl) (opnd_slot 8 1 rfl (by kernel_rfl)) rfl
        · exact owe_move rfl (wants_all rfl) (Or.inl rfl) (opnd_slot 9 2 rfl (by kernel_rfl)) rfl
        · exact owe_callh2 rfl (wants_all rfl) rfl ((opnd_op 0 47 (by kernel_rfl) rfl).imp (fun _ _ h => h)) ((opnd_op 1 48 (by kernel_rfl) rfl).imp (fun _ _ h => h)) (fresh_two fresh_mn (fresh_is _)) rfl (fun args w => by go_simp) (fun w u v h h' => h_prod w u v m l 1048576 1048576 _ _ h h' (by omega) (by omega) (by omega) hLC)
        · exact owe_move rfl (wants_all rfl) (Or.inl rfl) (opnd_op 2 49 (by kernel_rfl) rfl) rfl
        · exact owe_ext2 rfl (wants_all rfl) rfl (opnd_op 3 46 (by kernel_rfl) rfl) (Or.inl ⟨rfl, rfl⟩) rfl
        · exact owe_ext2 rfl (wants_all rfl) rfl (opnd_op 3 46 (by kernel_rfl) rfl) (Or.inr ⟨rfl, rfl⟩) rfl
        · exact owe_move rfl (wants_all rfl) (Or.inr rfl) (opnd_op 4 50 (by kernel_rfl) rfl) rfl
        · exact owe_move rfl (wants_all rfl) (Or.inr rfl) (opnd_op 5 51 (by kernel_rfl) rfl) rfl
      intro B6 a6 W6 S6
      replace S6 : Sta w 149 [] [(11, ((MN (prodN (B) (C)) (prodE (B) (C))) w.heap.size)), (12, (Is (.int .i64 (errB (okP (B) (C)))))), (9, ((MN (prodN (prodE (A) (B)) (C)) (prodE (prodE (A) (B)) (C))) w.heap.size)), (10, (Is (.int .i64 (errB (okP (prodE (A) (B)) (C)))))), (39, (Is (.bool true))), (7, ((MN (prodN (A) (B)) (prodE (A) (B))) w.heap.size)), (8, (Is (.int .i64 (errB (okP (A) (B)))))), (26, (Is (.bool false))), (6, (Is (.bool false))), (0, (Mv n A 1048576)), (1, (Mv m B 1048576)), (2, (Mv l C 1048576)), (1000001, TT)] B6 a6 W6 := S6
      refine wp_seq_join (fun a W => ∃ Bq, Sta w 149 [] [(7, ((MN (prodN (A) (B)) (prodE (A) (B))) w.heap.size)), (0, (Mv n A 1048576)), (1, (Mv m B 1048576))] Bq a W) ?_ ?_
      · rintro a7 W7 ⟨B7, S7⟩
        refine wp_stmt_seq [.new (.row 36 2 0 (CE 2 ((((xsF n).map ZN).map (· w.heap.size)).take 0)))] [.inl 0] [.inr 0, .inr 1, .inr 2] follows S7 rfl (by kernel_rfl) ?_ ?_
        · refine ⟨trivial, ?_⟩
          · exact owe_nilrow rfl (wants_all rfl) rfl rfl ce_nil
        intro B8 a8 W8 S8
        replace S8 : Sta w 149 [(15, (.row 36 2 0 (CE 2 ((((xsF n).map ZN).map (· w.heap.size)).take 0))))] [(7, ((MN (prodN (A) (B)) (prodE (A) (B))) w.heap.size)), (0, (Mv n A 1048576)), (1, (Mv m B 1048576))] B8 a8 W8 := S8
        refine wp_seq ?_
        refine wp_stmt_seq [.val (Is (.int .i64 0))] [.inr 0] [.inl 0, .inr 0, .inr 1, .inr 2] follows S8 rfl (by kernel_rfl) ?_ ?_
        · refine ⟨trivial, ?_⟩
          · exact owe_move rfl (wants_all rfl) (Or.inr rfl) (opnd_const _) rfl
        intro B9 a9 W9 S9
        replace S9 : Sta w 149 [(15, (.row 36 2 0 (CE 2 ((((xsF n).map ZN).map (· w.heap.size)).take 0))))] [(16, (Is (.int .i64 0))), (7, ((MN (prodN (A) (B)) (prodE (A) (B))) w.heap.size)), (0, (Mv n A 1048576)), (1, (Mv m B 1048576))] B9 a9 W9 := S9
        refine wp_block ?_
        refine wp_loop_ghost (fun (k0 : Nat) a W => (k0 ≤ n) ∧ ∃ Bq, Sta w 149 [(15, (.row 36 2 k0 (CE 2 ((((xsF n).map ZN).map (· w.heap.size)).take k0))))] [(16, (Is (.int .i64 k0))), (7, ((MN (prodN (A) (B)) (prodE (A) (B))) w.heap.size)), (0, (Mv n A 1048576)), (1, (Mv m B 1048576))] Bq a W) (fun (k0 : Nat) => n - k0) ?_ 0 ⟨Nat.zero_le _, B9, S9.sub [0] [0, 1, 2, 3]⟩
        rintro k0 a10 W10 ⟨hcond, B10, S10⟩
        by_cases hlt : k0 < n
        · have hsq := sq_le (k := k0) (by omega)
          have htk : (((xsF n).map ZN).map (· w.heap.size)).take (k0 + 1) = (((xsF n).map ZN).map (· w.heap.size)).take k0 ++ [ZN (((k0 : Nat) : Int) * ((k0 : Nat) : Int) - 3) w.heap.size] := by rw [List.take_add_one, map_get' _ (map_get' _ (xsF_at hlt))]; rfl
          refine wp_seq ?_
          refine wp_stmt_seq [.val (Is (.int .i64 k0)),
      .val (Mv n A 1048576),
      .val (Is (.int .i64 (n : Nat))),
      .val (Is (.bool true))] [.inr 0] [.inl 3, .inr 0, .inr 1, .inr 2, .inr 3] follows S10 rfl (by kernel_rfl) ?_ ?_
          · refine ⟨⟨⟨⟨trivial, ?_⟩, ?_⟩, ?_⟩, ?_⟩
            · exact owe_move rfl (wants_all rfl) (Or.inl rfl) (opnd_slot 0 16 rfl (by kernel_rfl)) rfl
            · exact owe_move rfl (wants_all rfl) (Or.inl rfl) (opnd_slot 2 0 rfl (by kernel_rfl)) rfl
            · exact owe_len rfl (wants_all rfl) rfl (opnd_op 1 73 (by kernel_rfl) rfl) ar_len Tryd.underlying22 rfl
            · exact owe_bin rfl (wants_all rfl) rfl (opnd_op 0 72 (by kernel_rfl) rfl) (opnd_op 2 74 (by kernel_rfl) rfl) rfl (fun ρ w h1 h2 => by exact run_lss_int_t ρ _ _ _ w _ _ (by omega) h1 h2)
          intro B11 a11 W11 S11
          replace S11 : Sta w 149 [(15, (.row 36 2 k0 (CE 2 ((((xsF n).map ZN).map (· w.heap.size)).take k0))))] [(75, (Is (.bool true))), (16, (Is (.int .i64 k0))), (7, ((MN (prodN (A) (B)) (prodE (A) (B))) w.heap.size)), (0, (Mv n A 1048576)), (1, (Mv m B 1048576))] B11 a11 W11 := S11
          refine wp_cond_true (S11.bool 0 75 rfl) ?_
          refine wp_skip ?_
          refine thenN ?_
          refine wp_seq ?_
          refine wp_block ?_
          refine wp_stmt [.val (Is (a11.eval (.tmp 15))),
      .val (Is (.int .i64 k0)),
      .val (Is (.int .i64 k0)),
      .val (Is (.int .i64 (((k0 : Nat) : Int) * ((k0 : Nat) : Int)))),
      .val (Is (.int .i64 (((k0 : Nat) : Int) * ((k0 : Nat) : Int) - 3))),
      .val ((ZN (((k0 : Nat) : Int) * ((k0 : Nat) : Int) - 3)) w.heap.size),
      .val (Sng 36 2 ((ZN (((k0 : Nat) : Int) * ((k0 : Nat) : Int) - 3)) w.heap.size) w.heap.size),
      .mov 15 (.row 36 2 (k0 + 1) (CE 2 ((((xsF n).map ZN).map (· w.heap.size)).take (k0 + 1)))),
      .ref 7] [.inl 8] [.inr 0, .inr 1, .inr 2, .inr 3, .inr 4] follows S11 rfl (by kernel_rfl) ?_ ?_
          · refine ⟨⟨⟨⟨⟨⟨⟨⟨⟨trivial, ?_⟩, ?_⟩, ?_⟩, ?_⟩, ?_⟩, ?_⟩, ?_⟩, ?_⟩, ?_⟩
            · exact owe_same rfl (wants_all rfl) (Or.inl rfl) (by kernel_rfl) rfl
            · exact owe_move rfl (wants_all rfl) (Or.inl rfl) (opnd_slot 1 16 rfl (by kernel_rfl)) rfl
            · exact owe_move rfl (wants_all rfl) (Or.inl rfl) (opnd_slot 1 16 rfl (by kernel_rfl)) rfl
            · exact owe_bin rfl (wants_all rfl) rfl (opnd_op 1 79 (by kernel_rfl) rfl) (opnd_op 2 80 (by kernel_rfl) rfl) rfl (fun ρ w h1 h2 => by exact run_mul_int ρ _ _ _ w _ _ _ ⟨rfl, by omega, by omega⟩ h1 h2)
            · exact owe_bin rfl (wants_all rfl) rfl (opnd_op 3 81 (by kernel_rfl) rfl) (opnd_const _) rfl (fun ρ w h1 h2 => by exact run_sub_int ρ _ _ _ w _ _ _ ⟨rfl, by omega, by omega⟩ h1 h2)
            · exact owe_call1 rfl (wants_all rfl) rfl (opnd_op 4 82 (by kernel_rfl) rfl) (fresh_zn _) rfl (fun args w => by go_simp) (g_zof (((k0 : Nat) : Int) * ((k0 : Nat) : Int) - 3) (by omega) (by omega))
            · exact owe_b1 rfl (wants_all rfl) rfl bld_int (opnd_op 5 83 (by kernel_rfl) rfl) (cel_shp (by decide) shp_zn) rfl
            · exact owe_append rfl (wants_all rfl) rfl (opnd_op 0 78 (by kernel_rfl) rfl) (k := 0) rfl (by kernel_rfl) ((opnd_op 6 84 (by kernel_rfl) rfl).imp b1_src) einf_int Tryd.underlying23 (by decide) ⟨by unfold maxLen; omega, by omega⟩ rfl (fun xs ys w h1 h2 => by rw [htk]; exact ce_append xs ys w h1 h2)
            · exact owe_ref 7 rfl (wants_all rfl) (Or.inr rfl) (by kernel_rfl) rfl rfl
          intro B12 a12 W12 S12
          replace S12 : Sta w 149 [(15, (.row 36 2 (k0 + 1) (CE 2 ((((xsF n).map ZN).map (· w.heap.size)).take (k0 + 1)))))] [(75, (Is (.bool true))), (16, (Is (.int .i64 k0))), (7, ((MN (prodN (A) (B)) (prodE (A) (B))) w.heap.size)), (0, (Mv n A 1048576)), (1, (Mv m B 1048576))] B12 a12 W12 := S12
          refine inBlkN ?_
          refine thenN ?_
          refine wp_stmt [.val (Is (.int .i64 k0)),
      .val (Is (.int .i64 (k0 + 1 : Nat))),
      .val (Is (.int .i64 (k0 + 1 : Nat)))] [.inr 0] [.inl 2, .inr 0, .inr 2, .inr 3, .inr 4] follows S12 rfl (by kernel_rfl) ?_ ?_
          · refine ⟨⟨⟨trivial, ?_⟩, ?_⟩, ?_⟩
            · exact owe_move rfl (wants_all rfl) (Or.inl rfl) (opnd_slot 1 16 rfl (by kernel_rfl)) rfl
            · exact owe_bin rfl (wants_all rfl) rfl (opnd_op 0 76 (by kernel_rfl) rfl) (opnd_const _) rfl (fun ρ w h1 h2 => by exact run_add_int ρ _ _ _ w _ _ _ ⟨by omega, by omega, by omega⟩ h1 h2)
            · exact owe_move rfl (wants_all rfl) (Or.inr rfl) (opnd_op 1 77 (by kernel_rfl) rfl) rfl
          intro B13 a13 W13 S13
          replace S13 : Sta w 149 [(15, (.row 36 2 (k0 + 1) (CE 2 ((((xsF n).map ZN).map (· w.heap.size)).take (k0 + 1)))))] [(16, (Is (.int .i64 (k0 + 1 : Nat)))), (75, (Is (.bool true))), (7, ((MN (prodN (A) (B)) (prodE (A) (B))) w.heap.size)), (0, (Mv n A 1048576)), (1, (Mv m B 1048576))] B13 a13 W13 := S13
          refine thenN ?_
          exact ⟨k0 + 1, ⟨by omega, B13, S13.sub [0] [0, 2, 3, 4]⟩, by omega⟩
        · have ek : n = k0 := by omega
          have hend : (((xsF n).map ZN).map (· w.heap.size)).take k0 = ((xsF n).map ZN).map (· w.heap.size) := List.take_of_length_le (by simp [xsF_len]; omega)
          refine wp_seq ?_
          refine wp_stmt_seq [.val (Is (.int .i64 k0)),
      .val (Mv n A 1048576),
      .val (Is (.int .i64 (n : Nat))),
      .val (Is (.bool false))] [.inr 0] [.inl 3, .inr 0, .inr 1, .inr 2, .inr 3] follows S10 rfl (by kernel_rfl) ?_ ?_
          · refine ⟨⟨⟨⟨trivial, ?_⟩, ?_⟩, ?_⟩, ?_⟩
            · exact owe_move rfl (wants_all rfl) (Or.inl rfl) (opnd_slot 0 16 rfl (by kernel_rfl)) rfl
            · exact owe_move rfl (wants_all rfl) (Or.inl rfl) (opnd_slot 2 0 rfl (by kernel_rfl)) rfl
            · exact owe_len rfl (wants_all rfl) rfl (opnd_op 1 73 (by kernel_rfl) rfl) ar_len Tryd.underlying22 rfl
            · exact owe_bin rfl (wants_all rfl) rfl (opnd_op 0 72 (by kernel_rfl) rfl) (opnd_op 2 74 (by kernel_rfl) rfl) rfl (fun ρ w h1 h2 => by exact run_lss_int_f ρ _ _ _ w _ _ (by omega) h1 h2)
          intro B11 a11 W11 S11
          replace S11 : Sta w 149 [(15, (.row 36 2 k0 (CE 2 ((((xsF n).map ZN).map (· w.heap.size)).take k0))))] [(75, (Is (.bool false))), (16, (Is (.int .i64 k0))), (7, ((MN (prodN (A) (B)) (prodE (A) (B))) w.heap.size)), (0, (Mv n A 1048576)), (1, (Mv m B 1048576))] B11 a11 W11 := S11
          refine wp_cond_false (S11.bool 0 75 rfl) ?_
          refine wp_exit ?_
          refine thenX ?_
          refine thenX ?_
          refine inBlkE ?_
          refine thenN ?_
          obtain ⟨B12, S12⟩ : ∃ Bq, Sta w 149 [] [(15, ((VN n (xsF n)) w.heap.size)), (75, (Is (.bool false))), (16, (Is (.int .i64 k0))), (7, ((MN (prodN (A) (B)) (prodE (A) (B))) w.heap.size)), (0, (Mv n A 1048576)), (1, (Mv m B 1048576))] Bq a11 W11 := ⟨_, S11.freeze 0 rfl (by simp) (fun v w' xs ho hc => by rw [hend] at hc; rw [ek]; rw [ek] at hc; exact row_lf (by decide) v w' xs ho hc)⟩
          obtain ⟨a12, W12, e1, e2⟩ : ∃ a W, a11 = a ∧ W11 = W := ⟨_, _, rfl, rfl⟩
          rw [e1, e2] at S12 ⊢
          clear e1 e2
          refine wp_stmt_seq [.val ((VN n (xsF n)) w.heap.size),
      .val (Is (.int .i64 (n : Nat))),
      .val (Mv n A 1048576),
      .val (Is (.int .i64 (n : Nat))),
      .val (Is (.bool true))] [] [.inl 4, .inr 0, .inr 1, .inr 2, .inr 3, .inr 4, .inr 5] follows S12 rfl (by kernel_rfl) ?_ ?_
          · refine ⟨⟨⟨⟨⟨trivial, ?_⟩, ?_⟩, ?_⟩, ?_⟩, ?_⟩
            · exact owe_move rfl (wants_all rfl) (Or.inl rfl) (opnd_slot 0 15 rfl (by kernel_rfl)) rfl
            · exact owe_len rfl (wants_all rfl) rfl (opnd_op 0 86 (by kernel_rfl) rfl) lf_len Tryd.underlying23 rfl
            · exact owe_move rfl (wants_all rfl) (Or.inl rfl) (opnd_slot 4 0 rfl (by kernel_rfl)) rfl
            · exact owe_len rfl (wants_all rfl) rfl (opnd_op 2 88 (by kernel_rfl) rfl) ar_len Tryd.underlying22 rfl
            · exact owe_bin rfl (wants_all rfl) rfl (opnd_op 1 87 (by kernel_rfl) rfl) (opnd_op 3 89 (by kernel_rfl) rfl) rfl (fun ρ w h1 h2 => by exact run_eql_int_t ρ _ _ _ w _ _ rfl h1 h2)
          intro B13 a13 W13 S13
          replace S13 : Sta w 149 [] [(90, (Is (.bool true))), (15, ((VN n (xsF n)) w.heap.size)), (75, (Is (.bool false))), (16, (Is (.int .i64 k0))), (7, ((MN (prodN (A) (B)) (prodE (A) (B))) w.heap.size)), (0, (Mv n A 1048576)), (1, (Mv m B 1048576))] B13 a13 W13 := S13
          refine wp_cond_true (S13.bool 0 90 rfl) ?_
          refine wp_stmt_seq [.val ((VN n (xsF n)) w.heap.size),
      .val (Mv n A 1048576),
      .val ((TWO (VN (combN (xsF n) (A)) (combE (xsF n) (A))) (IS (.int .i64 (errB (okC (xsF n) (A)))))) w.heap.size),
      .val ((TWO (VN (combN (xsF n) (A)) (combE (xsF n) (A))) (IS (.int .i64 (errB (okC (xsF n) (A)))))) w.heap.size),
      .val ((VN (combN (xsF n) (A)) (combE (xsF n) (A))) w.heap.size),
      .val (Is (.int .i64 (errB (okC (xsF n) (A))))),
      .val ((VN (combN (xsF n) (A)) (combE (xsF n) (A))) w.heap.size),
      .val (Is (.int .i64 (errB (okC (xsF n) (A)))))] [] [.inl 6, .inl 7, .inr 0, .inr 1, .inr 2, .inr 3, .inr 4, .inr 5, .inr 6] follows S13 rfl (by kernel_rfl) ?_ ?_
          · refine ⟨⟨⟨⟨⟨⟨⟨⟨trivial, ?_⟩, ?_⟩, ?_⟩, ?_⟩, ?_⟩, ?_⟩, ?_⟩, ?_⟩
            · exact owe_move rfl (wants_all rfl) (Or.inl rfl) (opnd_slot 1 15 rfl (by kernel_rfl)) rfl
            · exact owe_move rfl (wants_all rfl) (Or.inl rfl) (opnd_slot 5 0 rfl (by kernel_rfl)) rfl
            · exact owe_callh2 rfl (wants_all rfl) rfl ((opnd_op 0 92 (by kernel_rfl) rfl).imp (vn_vv dX)) ((opnd_op 1 93 (by kernel_rfl) rfl).imp (fun _ _ h => h)) (fresh_two fresh_vn (fresh_is _)) rfl (fun args w => by go_simp) (fun w u v h h' => h_comb w u v n n 2 1048576 _ _ h h' (by omega) (by omega) (by omega) hLA)
            · exact owe_move rfl (wants_all rfl) (Or.inl rfl) (opnd_op 2 94 (by kernel_rfl) rfl) rfl
            · exact owe_ext2 rfl (wants_all rfl) rfl (opnd_op 3 91 (by kernel_rfl) rfl) (Or.inl ⟨rfl, rfl⟩) rfl
            · exact owe_ext2 rfl (wants_all rfl) rfl (opnd_op 3 91 (by kernel_rfl) rfl) (Or.inr ⟨rfl, rfl⟩) rfl
            · exact owe_move rfl (wants_all rfl) (Or.inr rfl) (opnd_op 4 95 (by kernel_rfl) rfl) rfl
            · exact owe_move rfl (wants_all rfl) (Or.inr rfl) (opnd_op 5 96 (by kernel_rfl) rfl) rfl
          intro B14 a14 W14 S14
          replace S14 : Sta w 149 [] [(17, ((VN (combN (xsF n) (A)) (combE (xsF n) (A))) w.heap.size)), (18, (Is (.int .i64 (errB (okC (xsF n) (A)))))), (90, (Is (.bool true))), (15, ((VN n (xsF n)) w.heap.size)), (75, (Is (.bool false))), (16, (Is (.int .i64 k0))), (7, ((MN (prodN (A) (B)) (prodE (A) (B))) w.heap.size)), (0, (Mv n A 1048576)), (1, (Mv m B 1048576))] B14 a14 W14 := S14
          refine wp_stmt_seq [.val ((VN (combN (xsF n) (A)) (combE (xsF n) (A))) w.heap.size),
      .val (Mv m B 1048576),
      .val ((TWO (VN (combN (combE (xsF n) (A)) (B)) (combE (combE (xsF n) (A)) (B))) (IS (.int .i64 (errB (okC (combE (xsF n) (A)) (B)))))) w.heap.size),
      .val ((TWO (VN (combN (combE (xsF n) (A)) (B)) (combE (combE (xsF n) (A)) (B))) (IS (.int .i64 (errB (okC (combE (xsF n) (A)) (B)))))) w.heap.size),
      .val ((VN (combN (combE (xsF n) (A)) (B)) (combE (combE (xsF n) (A)) (B))) w.heap.size),
      .val (Is (.int .i64 (errB (okC (combE (xsF n) (A)) (B))))),
      .val ((VN (combN (combE (xsF n) (A)) (B)) (combE (combE (xsF n) (A)) (B))) w.heap.size),
      .val (Is (.int .i64 (errB (okC (combE (xsF n) (A)) (B)))))] [] [.inl 6, .inl 7, .inr 1, .inr 2, .inr 3, .inr 4, .inr 5, .inr 6, .inr 7, .inr 8] follows S14 rfl (by kernel_rfl) ?_ ?_
          · refine ⟨⟨⟨⟨⟨⟨⟨⟨trivial, ?_⟩, ?_⟩, ?_⟩, ?_⟩, ?_⟩, ?_⟩, ?_⟩, ?_⟩
            · exact owe_move rfl (wants_all rfl) (Or.inl rfl) (opnd_slot 0 17 rfl (by kernel_rfl)) rfl
            · exact owe_move rfl (wants_all rfl) (Or.inl rfl) (opnd_slot 8 1 rfl (by kernel_rfl)) rfl
            · exact owe_callh2 rfl (wants_all rfl) rfl ((opnd_op 0 98 (by kernel_rfl) rfl).imp (vn_vv dXA)) ((opnd_op 1 99 (by kernel_rfl) rfl).imp (fun _ _ h => h)) (fresh_two fresh_vn (fresh_is _)) rfl (fun args w => by go_simp) (fun w u v h h' => h_comb w u v (combN (xsF n) (A)) m 2097154 1048576 _ _ h h' (by omega) (by omega) (by omega) hLB)
            · exact owe_move rfl (wants_all rfl) (Or.inl rfl) (opnd_op 2 100 (by kernel_rfl) rfl) rfl
            · exact owe_ext2 rfl (wants_all rfl) rfl (opnd_op 3 97 (by kernel_rfl) rfl) (Or.inl ⟨rfl, rfl⟩) rfl
            · exact owe_ext2 rfl (wants_all rfl) rfl (opnd_op 3 97 (by kernel_rfl) rfl) (Or.inr ⟨rfl, rfl⟩) rfl
            · exact owe_move rfl (wants_all rfl) (Or.inr rfl) (opnd_op 4 101 (by kernel_rfl) rfl) rfl
            · exact owe_move rfl (wants_all rfl) (Or.inr rfl) (opnd_op 5 102 (by kernel_rfl) rfl) rfl
          intro B15 a15 W15 S15
          replace S15 : Sta w 149 [] [(19, ((VN (combN (combE (xsF n) (A)) (B)) (combE (combE (xsF n) (A)) (B))) w.heap.size)), (20, (Is (.int .i64 (errB (okC (combE (xsF n) (A)) (B)))))), (18, (Is (.int .i64 (errB (okC (xsF n) (A)))))), (90, (Is (.bool true))), (15, ((VN n (xsF n)) w.heap.size)), (75, (Is (.bool false))), (16, (Is (.int .i64 k0))), (7, ((MN (prodN (A) (B)) (prodE (A) (B))) w.heap.size)), (0, (Mv n A 1048576)), (1, (Mv m B 1048576))] B15 a15 W15 := S15
          refine wp_stmt_seq [.val ((VN n (xsF n)) w.heap.size),
      .val ((MN (prodN (A) (B)) (prodE (A) (B))) w.heap.size),
      .val ((TWO (VN (combN (xsF n) (prodE (A) (B))) (combE (xsF n) (prodE (A) (B)))) (IS (.int .i64 (errB (okC (xsF n) (prodE (A) (B))))))) w.heap.size),
      .val ((TWO (VN (combN (xsF n) (prodE (A) (B))) (combE (xsF n) (prodE (A) (B)))) (IS (.int .i64 (errB (okC (xsF n) (prodE (A) (B))))))) w.heap.size),
      .val ((VN (combN (xsF n) (prodE (A) (B))) (combE (xsF n) (prodE (A) (B)))) w.heap.size),
      .val (Is (.int .i64 (errB (okC (xsF n) (prodE (A) (B)))))),
      .val ((VN (combN (xsF n) (prodE (A) (B))) (combE (xsF n) (prodE (A) (B)))) w.heap.size),
      .val (Is (.int .i64 (errB (okC (xsF n) (prodE (A) (B))))))] [] [.inl 6, .inl 7, .inr 0, .inr 1, .inr 2, .inr 3, .inr 4, .inr 5, .inr 6, .inr 7, .inr 8, .inr 9] follows S15 rfl (by kernel_rfl) ?_ ?_
          · refine ⟨⟨⟨⟨⟨⟨⟨⟨trivial, ?_⟩, ?_⟩, ?_⟩, ?_⟩, ?_⟩, ?_⟩, ?_⟩, ?_⟩
            · exact owe_move rfl (wants_all rfl) (Or.inl rfl) (opnd_slot 4 15 rfl (by kernel_rfl)) rfl
            · exact owe_move rfl (wants_all rfl) (Or.inl rfl) (opnd_slot 7 7 rfl (by kernel_rfl)) rfl
            · exact owe_callh2 rfl (wants_all rfl) rfl ((opnd_op 0 104 (by kernel_rfl) rfl).imp (vn_vv dX)) ((opnd_op 1 105 (by kernel_rfl) rfl).imp (mn_mv dAB)) (fresh_two fresh_vn (fresh_is _)) rfl (fun args w => by go_simp) (fun w u v h h' => h_comb w u v n (prodN (A) (B)) 2 3145728 _ _ h h' (by omega) (by omega) (by omega) lAB)
            · exact owe_move rfl (wants_all rfl) (Or.inl rfl) (opnd_op 2 106 (by kernel_rfl) rfl) rfl
            · exact owe_ext2 rfl (wants_all rfl) rfl (opnd_op 3 103 (by kernel_rfl) rfl) (Or.inl ⟨rfl, rfl⟩) rfl
            · exact owe_ext2 rfl (wants_all rfl) rfl (opnd_op 3 103 (by kernel_rfl) rfl) (Or.inr ⟨rfl, rfl⟩) rfl
            · exact owe_move rfl (wants_all rfl) (Or.inr rfl) (opnd_op 4 107 (by kernel_rfl) rfl) rfl
            · exact owe_move rfl (wants_all rfl) (Or.inr rfl) (opnd_op 5 108 (by kernel_rfl) rfl) rfl
          intro B16 a16 W16 S16
          replace S16 : Sta w 149 [] [(21, ((VN (combN (xsF n) (prodE (A) (B))) (combE (xsF n) (prodE (A) (B)))) w.heap.size)), (22, (Is (.int .i64 (errB (okC (xsF n) (prodE (A) (B))))))), (19, ((VN (combN (combE (xsF n) (A)) (B)) (combE (combE (xsF n) (A)) (B))) w.heap.size)), (20, (Is (.int .i64 (errB (okC (combE (xsF n) (A)) (B)))))), (18, (Is (.int .i64 (errB (okC (xsF n) (A)))))), (90, (Is (.bool true))), (15, ((VN n (xsF n)) w.heap.size)), (75, (Is (.bool false))), (16, (Is (.int .i64 k0))), (7, ((MN (prodN (A) (B)) (prodE (A) (B))) w.heap.size)), (0, (Mv n A 1048576)), (1, (Mv m B 1048576))] B16 a16 W16 := S16
          refine wp_stmt_seq [.val (Is (.int .i64 (errB (okC (xsF n) (A))))),
      .val (Is (.bool false)),
      .val (Is (.bool false)),
      .val (Is (.int .i64 (errB (okC (combE (xsF n) (A)) (B))))),
      .val (Is (.bool false)),
      .val (Is (.bool false)),
      .val (Is (.bool false)),
      .val (Is (.int .i64 (errB (okC (xsF n) (prodE (A) (B)))))),
      .val (Is (.bool false)),
      .val (Is (.bool false)),
      .val (Is (.bool false)),
      .val ((VN (combN (xsF n) (prodE (A) (B))) (combE (xsF n) (prodE (A) (B)))) w.heap.size),
      .val ((VN (combN (combE (xsF n) (A)) (B)) (combE (combE (xsF n) (A)) (B))) w.heap.size),
      .val (Is (.int .i64 (ordZ (combE (xsF n) (prodE (A) (B))) (combE (combE (xsF n) (A)) (B))))),
      .val (Is (.bool false)),
      .val (Is (.bool false))] [] [.inl 15, .inr 5, .inr 6, .inr 7, .inr 8, .inr 9, .inr 10, .inr 11] follows S16 rfl (by kernel_rfl) ?_ ?_
          · refine ⟨⟨⟨⟨⟨⟨⟨⟨⟨⟨⟨⟨⟨⟨⟨⟨trivial, ?_⟩, ?_⟩, ?_⟩, ?_⟩, ?_⟩, ?_⟩, ?_⟩, ?_⟩, ?_⟩, ?_⟩, ?_⟩, ?_⟩, ?_⟩, ?_⟩, ?_⟩, ?_⟩
            · exact owe_move rfl (wants_all rfl) (Or.inl rfl) (opnd_slot 4 18 rfl (by kernel_rfl)) rfl
            · exact owe_bin rfl (wants_all rfl) rfl (opnd_op 0 109 (by kernel_rfl) rfl) (opnd_const _) rfl (fun ρ w h1 h2 => by exact run_neq_errno_f ρ _ _ _ w _ _ (errB_t c1) h1 h2)
            · exact owe_move rfl (wants_all rfl) (Or.inl rfl) (opnd_op 1 110 (by kernel_rfl) rfl) rfl
            · exact owe_move rfl (wants_if 2 111 rfl (by kernel_rfl) rfl) (Or.inl rfl) (opnd_slot 3 20 rfl (by kernel_rfl)) rfl
            · exact owe_bin rfl (wants_if 2 111 rfl (by kernel_rfl) rfl) rfl (opnd_op 3 112 (by kernel_rfl) rfl) (opnd_const _) rfl (fun ρ w h1 h2 => by exact run_neq_errno_f ρ _ _ _ w _ _ (errB_t c2) h1 h2)
            · exact owe_pick rfl (wants_all rfl) rfl (opnd_op 2 111 (by kernel_rfl) rfl) (fun h => nomatch h) (fun _ => (opnd_op 4 113 (by kernel_rfl) rfl)) rfl
            · exact owe_move rfl (wants_all rfl) (Or.inl rfl) (opnd_op 5 114 (by kernel_rfl) rfl) rfl
            · exact owe_move rfl (wants_if 6 115 rfl (by kernel_rfl) rfl) (Or.inl rfl) (opnd_slot 1 22 rfl (by kernel_rfl)) rfl
            · exact owe_bin rfl (wants_if 6 115 rfl (by kernel_rfl) rfl) rfl (opnd_op 7 116 (by kernel_rfl) rfl) (opnd_const _) rfl (fun ρ w h1 h2 => by exact run_neq_errno_f ρ _ _ _ w _ _ (errB_t c3) h1 h2)
            · exact owe_pick rfl (wants_all rfl) rfl (opnd_op 6 115 (by kernel_rfl) rfl) (fun h => nomatch h) (fun _ => (opnd_op 8 117 (by kernel_rfl) rfl)) rfl
            · exact owe_move rfl (wants_all rfl) (Or.inl rfl) (opnd_op 9 118 (by kernel_rfl) rfl) rfl
            · exact owe_move rfl (wants_if 10 119 rfl (by kernel_rfl) rfl) (Or.inl rfl) (opnd_slot 0 21 rfl (by kernel_rfl)) rfl
            · exact owe_move rfl (wants_if 10 119 rfl (by kernel_rfl) rfl) (Or.inl rfl) (opnd_slot 2 19 rfl (by kernel_rfl)) rfl
            · exact owe_callh2 rfl (wants_if 10 119 rfl (by kernel_rfl) rfl) rfl ((opnd_op 11 120 (by kernel_rfl) rfl).imp (vn_vv dX_AB)) ((opnd_op 12 121 (by kernel_rfl) rfl).imp (vn_vv dXAB)) (fresh_is _) rfl (fun args w => by go_simp) (fun w u v h h' => order_w w u v (combN (xsF n) (prodE (A) (B))) (combN (combE (xsF n) (A)) (B)) 4194306 4194306 _ _ h h' (by omega) (by omega) (by omega) (by omega))
            · exact owe_bin rfl (wants_if 10 119 rfl (by kernel_rfl) rfl) rfl (opnd_op 13 122 (by kernel_rfl) rfl) (opnd_const _) rfl (fun ρ w h1 h2 => by exact run_neq_int_f ρ _ _ _ w _ _ c4 h1 h2)
            · exact owe_pick rfl (wants_all rfl) rfl (opnd_op 10 119 (by kernel_rfl) rfl) (fun h => nomatch h) (fun _ => (opnd_op 14 123 (by kernel_rfl) rfl)) rfl
          intro B17 a17 W17 S17
          replace S17 : Sta w 149 [] [(124, (Is (.bool false))), (90, (Is (.bool true))), (15, ((VN n (xsF n)) w.heap.size)), (75, (Is (.bool false))), (16, (Is (.int .i64 k0))), (7, ((MN (prodN (A) (B)) (prodE (A) (B))) w.heap.size)), (0, (Mv n A 1048576)), (1, (Mv m B 1048576))] B17 a17 W17 := S17
          refine wp_cond_false (S17.bool 0 124 rfl) ?_
          refine wp_skip ?_
          refine thenN ?_
          exact ⟨B17, S17.sub [] [7]⟩
      · rcases (show (okP (prodE A B) C = true ∧ okP B C = true) ∨ (okP (prodE A B) C = true ∧ okP B C = false) ∨ okP (prodE A B) C = false from by cases okP (prodE A B) C <;> cases okP B C <;> simp) with ⟨q3, q4⟩ | ⟨q3, q4⟩ | q3
        · skip
          obtain ⟨q5, _⟩ := lin_assoc q1 hp q3 q4
          have q6 := lin_same q1 hp q3 q4
          refine wp_stmt_seq [.val (Is (.int .i64 (errB (okP (prodE (A) (B)) (C))))),
      .val (Is (.bool true)),
      .val (Is (.bool true)),
      .val (Is (.int .i64 (errB (okP (B) (C))))),
      .val (Is (.bool true)),
      .val (Is (.bool true))] [] [.inl 5, .inr 0, .inr 2, .inr 4, .inr 5, .inr 6, .inr 7, .inr 8, .inr 9, .inr 10, .inr 11, .inr 12] follows S6 rfl (by kernel_rfl) ?_ ?_
          · refine ⟨⟨⟨⟨⟨⟨trivial, ?_⟩, ?_⟩, ?_⟩, ?_⟩, ?_⟩, ?_⟩
            · exact owe_move rfl (wants_all rfl) (Or.inl rfl) (opnd_slot 3 10 rfl (by kernel_rfl)) rfl
            · exact owe_bin rfl (wants_all rfl) rfl (opnd_op 0 52 (by kernel_rfl) rfl) (opnd_const _) rfl (fun ρ w h1 h2 => by exact run_eql_errno_t ρ _ _ _ w _ _ (errB_t q3) h1 h2)
            · exact owe_move rfl (wants_all rfl) (Or.inl rfl) (opnd_op 1 53 (by kernel_rfl) rfl) rfl
            · exact owe_move rfl (wants_if 2 54 rfl (by kernel_rfl) rfl) (Or.inl rfl) (opnd_slot 1 12 rfl (by kernel_rfl)) rfl
            · exact owe_bin rfl (wants_if 2 54 rfl (by kernel_rfl) rfl) rfl (opnd_op 3 55 (by kernel_rfl) rfl) (opnd_const _) rfl (fun ρ w h1 h2 => by exact run_eql_errno_t ρ _ _ _ w _ _ (errB_t q4) h1 h2)
            · exact owe_pick rfl (wants_all rfl) rfl (opnd_op 2 54 (by kernel_rfl) rfl) (fun _ => (opnd_op 4 56 (by kernel_rfl) rfl)) (fun h => nomatch h) rfl
          intro B7 a7 W7 S7
          replace S7 : Sta w 149 [] [(57, (Is (.bool true))), (11, ((MN (prodN (B) (C)) (prodE (B) (C))) w.heap.size)), (9, ((MN (prodN (prodE (A) (B)) (C)) (prodE (prodE (A) (B)) (C))) w.heap.size)), (39, (Is (.bool true))), (7, ((MN (prodN (A) (B)) (prodE (A) (B))) w.heap.size)), (8, (Is (.int .i64 (errB (okP (A) (B)))))), (26, (Is (.bool false))), (6, (Is (.bool false))), (0, (Mv n A 1048576)), (1, (Mv m B 1048576)), (2, (Mv l C 1048576)), (1000001, TT)] B7 a7 W7 := S7
          refine wp_cond_true (S7.bool 0 57 rfl) ?_
          refine wp_stmt_seq [.val (Mv n A 1048576),
      .val ((MN (prodN (B) (C)) (prodE (B) (C))) w.heap.size),
      .val ((TWO (MN (prodN (A) (prodE (B) (C))) (prodE (A) (prodE (B) (C)))) (IS (.int .i64 (errB (okP (A) (prodE (B) (C))))))) w.heap.size),
      .val ((TWO (MN (prodN (A) (prodE (B) (C))) (prodE (A) (prodE (B) (C)))) (IS (.int .i64 (errB (okP (A) (prodE (B) (C))))))) w.heap.size),
      .val ((MN (prodN (A) (prodE (B) (C))) (prodE (A) (prodE (B) (C)))) w.heap.size),
      .val (Is (.int .i64 (errB (okP (A) (prodE (B) (C)))))),
      .val ((MN (prodN (A) (prodE (B) (C))) (prodE (A) (prodE (B) (C)))) w.heap.size),
      .val (Is (.int .i64 (errB (okP (A) (prodE (B) (C))))))] [] [.inl 6, .inl 7, .inr 0, .inr 2, .inr 3, .inr 4, .inr 5, .inr 6, .inr 7, .inr 8, .inr 9, .inr 10, .inr 11] follows S7 rfl (by kernel_rfl) ?_ ?_
          · refine ⟨⟨⟨⟨⟨⟨⟨⟨trivial, ?_⟩, ?_⟩, ?_⟩, ?_⟩, ?_⟩, ?_⟩, ?_⟩, ?_⟩
            · exact owe_move rfl (wants_all rfl) (Or.inl rfl) (opnd_slot 8 0 rfl (by kernel_rfl)) rfl
            · exact owe_move rfl (wants_all rfl) (Or.inl rfl) (opnd_slot 1 11 rfl (by kernel_rfl)) rfl
            · exact owe_callh2 rfl (wants_all rfl) rfl ((opnd_op 0 59 (by kernel_rfl) rfl).imp (fun _ _ h => h)) ((opnd_op 1 60 (by kernel_rfl) rfl).imp (mn_mv dBC)) (fresh_two fresh_mn (fresh_is _)) rfl (fun args w => by go_simp) (fun w u v h h' => h_prod w u v n (prodN (B) (C)) 1048576 3145728 _ _ h h' (by omega) (by omega) (by omega) lBC)
            · exact owe_move rfl (wants_all rfl) (Or.inl rfl) (opnd_op 2 61 (by kernel_rfl) rfl) rfl
            · exact owe_ext2 rfl (wants_all rfl) rfl (opnd_op 3 58 (by kernel_rfl) rfl) (Or.inl ⟨rfl, rfl⟩) rfl
            · exact owe_ext2 rfl (wants_all rfl) rfl (opnd_op 3 58 (by kernel_rfl) rfl) (Or.inr ⟨rfl, rfl⟩) rfl
            · exact owe_move rfl (wants_all rfl) (Or.inr rfl) (opnd_op 4 62 (by kernel_rfl) rfl) rfl
            · exact owe_move rfl (wants_all rfl) (Or.inr rfl) (opnd_op 5 63 (by kernel_rfl) rfl) rfl
          intro B8 a8 W8 S8
          replace S8 : Sta w 149 [] [(13, ((MN (prodN (A) (prodE (B) (C))) (prodE (A) (prodE (B) (C)))) w.heap.size)), (14, (Is (.int .i64 (errB (okP (A) (prodE (B) (C))))))), (57, (Is (.bool true))), (9, ((MN (prodN (prodE (A) (B)) (C)) (prodE (prodE (A) (B)) (C))) w.heap.size)), (39, (Is (.bool true))), (7, ((MN (prodN (A) (B)) (prodE (A) (B))) w.heap.size)), (8, (Is (.int .i64 (errB (okP (A) (B)))))), (26, (Is (.bool false))), (6, (Is (.bool false))), (0, (Mv n A 1048576)), (1, (Mv m B 1048576)), (2, (Mv l C 1048576)), (1000001, TT)] B8 a8 W8 := S8
          refine wp_stmt_seq [.val (Is (.int .i64 (errB (okP (A) (prodE (B) (C)))))),
      .val (Is (.bool false)),
      .val (Is (.bool false)),
      .val ((MN (prodN (prodE (A) (B)) (C)) (prodE (prodE (A) (B)) (C))) w.heap.size),
      .val ((MN (prodN (A) (prodE (B) (C))) (prodE (A) (prodE (B) (C)))) w.heap.size),
      .val (Is (.bool true)),
      .val (Is (.bool false)),
      .val (Is (.bool false))] [] [.inl 7, .inr 2, .inr 4, .inr 5, .inr 6, .inr 7, .inr 8, .inr 9, .inr 10, .inr 11, .inr 12] follows S8 rfl (by kernel_rfl) ?_ ?_
          · refine ⟨⟨⟨⟨⟨⟨⟨⟨trivial, ?_⟩, ?_⟩, ?_⟩, ?_⟩, ?_⟩, ?_⟩, ?_⟩, ?_⟩
            · exact owe_move rfl (wants_all rfl) (Or.inl rfl) (opnd_slot 1 14 rfl (by kernel_rfl)) rfl
            · exact owe_bin rfl (wants_all rfl) rfl (opnd_op 0 64 (by kernel_rfl) rfl) (opnd_const _) rfl (fun ρ w h1 h2 => by exact run_neq_errno_f ρ _ _ _ w _ _ (errB_t q5) h1 h2)
            · exact owe_move rfl (wants_all rfl) (Or.inl rfl) (opnd_op 1 65 (by kernel_rfl) rfl) rfl
            · exact owe_move rfl (wants_if 2 66 rfl (by kernel_rfl) rfl) (Or.inl rfl) (opnd_slot 3 9 rfl (by kernel_rfl)) rfl
            · exact owe_move rfl (wants_if 2 66 rfl (by kernel_rfl) rfl) (Or.inl rfl) (opnd_slot 0 13 rfl (by kernel_rfl)) rfl
            · exact owe_callh2 rfl (wants_if 2 66 rfl (by kernel_rfl) rfl) rfl ((opnd_op 3 67 (by kernel_rfl) rfl).imp (mn_mv dABC)) ((opnd_op 4 68 (by kernel_rfl) rfl).imp (mn_mv dA_BC)) (fresh_is _) rfl (fun args w => by go_simp) (fun w u0 u1 h0 h1 => Gives.cast ((fun w u v h h' => same_w w u v (prodN (prodE (A) (B)) (C)) (prodN (A) (prodE (B) (C))) 5242880 5242880 _ _ h h' (by omega) (by omega) (by omega) (by omega) lABC lA_BC) w u0 u1 h0 h1) (by rw [q6]))
            · exact owe_un (x := .tmp 69) rfl (wants_if 2 66 rfl (by kernel_rfl) rfl) rfl (opnd_op 5 69 (by kernel_rfl) rfl) rfl (fun ρ w h1 => run_not ρ _ _ w _ h1)
            · exact owe_pick rfl (wants_all rfl) rfl (opnd_op 2 66 (by kernel_rfl) rfl) (fun h => nomatch h) (fun _ => (opnd_op 6 70 (by kernel_rfl) rfl)) rfl
          intro B9 a9 W9 S9
          replace S9 : Sta w 149 [] [(71, (Is (.bool false))), (57, (Is (.bool true))), (39, (Is (.bool true))), (7, ((MN (prodN (A) (B)) (prodE (A) (B))) w.heap.size)), (8, (Is (.int .i64 (errB (okP (A) (B)))))), (26, (Is (.bool false))), (6, (Is (.bool false))), (0, (Mv n A 1048576)), (1, (Mv m B 1048576)), (2, (Mv l C 1048576)), (1000001, TT)] B9 a9 W9 := S9
          refine wp_cond_false (S9.bool 0 71 rfl) ?_
          refine wp_skip ?_
          refine thenN ?_
          exact ⟨B9, S9.sub [] [3, 7, 8]⟩
        · skip
          refine wp_stmt_seq [.val (Is (.int .i64 (errB (okP (prodE (A) (B)) (C))))),
      .val (Is (.bool true)),
      .val (Is (.bool true)),
      .val (Is (.int .i64 (errB (okP (B) (C))))),
      .val (Is (.bool false)),
      .val (Is (.bool false))] [] [.inl 5, .inr 0, .inr 2, .inr 4, .inr 5, .inr 6, .inr 7, .inr 8, .inr 9, .inr 10, .inr 11, .inr 12] follows S6 rfl (by kernel_rfl) ?_ ?_
          · refine ⟨⟨⟨⟨⟨⟨trivial, ?_⟩, ?_⟩, ?_⟩, ?_⟩, ?_⟩, ?_⟩
            · exact owe_move rfl (wants_all rfl) (Or.inl rfl) (opnd_slot 3 10 rfl (by kernel_rfl)) rfl
            · exact owe_bin rfl (wants_all rfl) rfl (opnd_op 0 52 (by kernel_rfl) rfl) (opnd_const _) rfl (fun ρ w h1 h2 => by exact run_eql_errno_t ρ _ _ _ w _ _ (errB_t q3) h1 h2)
            · exact owe_move rfl (wants_all rfl) (Or.inl rfl) (opnd_op 1 53 (by kernel_rfl) rfl) rfl
            · exact owe_move rfl (wants_if 2 54 rfl (by kernel_rfl) rfl) (Or.inl rfl) (opnd_slot 1 12 rfl (by kernel_rfl)) rfl
            · exact owe_bin rfl (wants_if 2 54 rfl (by kernel_rfl) rfl) rfl (opnd_op 3 55 (by kernel_rfl) rfl) (opnd_const _) rfl (fun ρ w h1 h2 => by exact run_eql_errno_f ρ _ _ _ w _ _ (errB_f q4) h1 h2)
            · exact owe_pick rfl (wants_all rfl) rfl (opnd_op 2 54 (by kernel_rfl) rfl) (fun _ => (opnd_op 4 56 (by kernel_rfl) rfl)) (fun h => nomatch h) rfl
          intro B7 a7 W7 S7
          replace S7 : Sta w 149 [] [(57, (Is (.bool false))), (11, ((MN (prodN (B) (C)) (prodE (B) (C))) w.heap.size)), (9, ((MN (prodN (prodE (A) (B)) (C)) (prodE (prodE (A) (B)) (C))) w.heap.size)), (39, (Is (.bool true))), (7, ((MN (prodN (A) (B)) (prodE (A) (B))) w.heap.size)), (8, (Is (.int .i64 (errB (okP (A) (B)))))), (26, (Is (.bool false))), (6, (Is (.bool false))), (0, (Mv n A 1048576)), (1, (Mv m B 1048576)), (2, (Mv l C 1048576)), (1000001, TT)] B7 a7 W7 := S7
          refine wp_cond_false (S7.bool 0 57 rfl) ?_
          refine wp_skip ?_
          refine thenN ?_
          exact ⟨B7, S7.sub [] [4, 8, 9]⟩
        · skip
          refine wp_stmt_seq [.val (Is (.int .i64 (errB (okP (prodE (A) (B)) (C))))),
      .val (Is (.bool false)),
      .val (Is (.bool false)),
      .off,
      .off,
      .val (Is (.bool false))] [] [.inl 5, .inr 0, .inr 2, .inr 4, .inr 5, .inr 6, .inr 7, .inr 8, .inr 9, .inr 10, .inr 11, .inr 12] follows S6 rfl (by kernel_rfl) ?_ ?_
          · refine ⟨⟨⟨⟨⟨⟨trivial, ?_⟩, ?_⟩, ?_⟩, ?_⟩, ?_⟩, ?_⟩
            · exact owe_move rfl (wants_all rfl) (Or.inl rfl) (opnd_slot 3 10 rfl (by kernel_rfl)) rfl
            · exact owe_bin rfl (wants_all rfl) rfl (opnd_op 0 52 (by kernel_rfl) rfl) (opnd_const _) rfl (fun ρ w h1 h2 => by exact run_eql_errno_f ρ _ _ _ w _ _ (errB_f q3) h1 h2)
            · exact owe_move rfl (wants_all rfl) (Or.inl rfl) (opnd_op 1 53 (by kernel_rfl) rfl) rfl
            · exact owe_off 2 54 rfl rfl rfl (by kernel_rfl) rfl (by decide)
            · exact owe_off 2 54 rfl rfl rfl (by kernel_rfl) rfl (by decide)
            · exact owe_pick rfl (wants_all rfl) rfl (opnd_op 2 54 (by kernel_rfl) rfl) (fun h => nomatch h) (fun _ => (opnd_const _)) rfl
          intro B7 a7 W7 S7
          replace S7 : Sta w 149 [] [(57, (Is (.bool false))), (11, ((MN (prodN (B) (C)) (prodE (B) (C))) w.heap.size)), (9, ((MN (prodN (prodE (A) (B)) (C)) (prodE (prodE (A) (B)) (C))) w.heap.size)), (39, (Is (.bool true))), (7, ((MN (prodN (A) (B)) (prodE (A) (B))) w.heap.size)), (8, (Is (.int .i64 (errB (okP (A) (B)))))), (26, (Is (.bool false))), (6, (Is (.bool false))), (0, (Mv n A 1048576)), (1, (Mv m B 1048576)), (2, (Mv l C 1048576)), (1000001, TT)] B7 a7 W7 := S7
          refine wp_cond_false (S7.bool 0 57 rfl) ?_
          refine wp_skip ?_
          refine thenN ?_
          exact ⟨B7, S7.sub [] [4, 8, 9]⟩
    · skip
      refine wp_stmt_seq [.val (Is (.int .i64 (errB (okP (A) (B))))),
      .val (Is (.bool true)),
      .val (Is (.bool true)),
      .val (Mv n A 1048576),
      .val (Is (.int .i64 (n : Nat))),
      .val (Is (.bool false)),
      .val (Is (.bool false))] [] [.inl 6, .inr 0, .inr 1, .inr 2, .inr 3, .inr 4, .inr 5, .inr 6, .inr 7] follows S3 rfl (by kernel_rfl) ?_ ?_
      · refine ⟨⟨⟨⟨⟨⟨⟨trivial, ?_⟩, ?_⟩, ?_⟩, ?_⟩, ?_⟩, ?_⟩, ?_⟩
        · exact owe_move rfl (wants_all rfl) (Or.inl rfl) (opnd_slot 1 8 rfl (by kernel_rfl)) rfl
        · exact owe_bin rfl (wants_all rfl) rfl (opnd_op 0 33 (by kernel_rfl) rfl) (opnd_const _) rfl (fun ρ w h1 h2 => by exact run_eql_errno_t ρ _ _ _ w _ _ (errB_t q1) h1 h2)
        · exact owe_move rfl (wants_all rfl) (Or.inl rfl) (opnd_op 1 34 (by kernel_rfl) rfl) rfl
        · exact owe_move rfl (wants_if 2 35 rfl (by kernel_rfl) rfl) (Or.inl rfl) (opnd_slot 4 0 rfl (by kernel_rfl)) rfl
        · exact owe_len rfl (wants_if 2 35 rfl (by kernel_rfl) rfl) rfl (opnd_op 3 36 (by kernel_rfl) rfl) ar_len Tryd.underlying22 rfl
        · exact owe_bin rfl (wants_if 2 35 rfl (by kernel_rfl) rfl) rfl (opnd_op 4 37 (by kernel_rfl) rfl) (opnd_const _) rfl (fun ρ w h1 h2 => by exact run_gtr_int_f ρ _ _ _ w _ _ (by omega) h1 h2)
        · exact owe_pick rfl (wants_all rfl) rfl (opnd_op 2 35 (by kernel_rfl) rfl) (fun _ => (opnd_op 5 38 (by kernel_rfl) rfl)) (fun h => nomatch h) rfl
      intro B4 a4 W4 S4
      replace S4 : Sta w 149 [] [(39, (Is (.bool false))), (7, ((MN (prodN (A) (B)) (prodE (A) (B))) w.heap.size)), (8, (Is (.int .i64 (errB (okP (A) (B)))))), (26, (Is (.bool false))), (6, (Is (.bool false))), (0, (Mv n A 1048576)), (1, (Mv m B 1048576)), (2, (Mv l C 1048576)), (1000001, TT)] B4 a4 W4 := S4
      refine wp_cond_false (S4.bool 0 39 rfl) ?_
      refine wp_skip ?_
      refine thenN ?_
      exact ⟨B4, S4.sub [] [6]⟩
    · skip
      refine wp_stmt_seq [.val (Is (.int .i64 (errB (okP (A) (B))))),
      .val (Is (.bool false)),
      .val (Is (.bool false)),
      .off,
      .off,
      .off,
      .val (Is (.bool false))] [] [.inl 6, .inr 0, .inr 1, .inr 2, .inr 3, .inr 4, .inr 5, .inr 6, .inr 7] follows S3 rfl (by kernel_rfl) ?_ ?_
      · refine ⟨⟨⟨⟨⟨⟨⟨trivial, ?_⟩, ?_⟩, ?_⟩, ?_⟩, ?_⟩, ?_⟩, ?_⟩
        · exact owe_move rfl (wants_all rfl) (Or.inl rfl) (opnd_slot 1 8 rfl (by kernel_rfl)) rfl
        · exact owe_bin rfl (wants_all rfl) rfl (opnd_op 0 33 (by kernel_rfl) rfl) (opnd_const _) rfl (fun ρ w h1 h2 => by exact run_eql_errno_f ρ _ _ _ w _ _ (errB_f q1) h1 h2)
        · exact owe_move rfl (wants_all rfl) (Or.inl rfl) (opnd_op 1 34 (by kernel_rfl) rfl) rfl
        · exact owe_off 2 35 rfl rfl rfl (by kernel_rfl) rfl (by decide)
        · exact owe_off 2 35 rfl rfl rfl (by kernel_rfl) rfl (by decide)
        · exact owe_off 2 35 rfl rfl rfl (by kernel_rfl) rfl (by decide)
        · exact owe_pick rfl (wants_all rfl) rfl (opnd_op 2 35 (by kernel_rfl) rfl) (fun h => nomatch h) (fun _ => (opnd_const _)) rfl
      intro B4 a4 W4 S4
      replace S4 : Sta w 149 [] [(39, (Is (.bool false))), (7, ((MN (prodN (A) (B)) (prodE (A) (B))) w.heap.size)), (8, (Is (.int .i64 (errB (okP (A) (B)))))), (26, (Is (.bool false))), (6, (Is (.bool false))), (0, (Mv n A 1048576)), (1, (Mv m B 1048576)), (2, (Mv l C 1048576)), (1000001, TT)] B4 a4 W4 := S4
      refine wp_cond_false (S4.bool 0 39 rfl) ?_
      refine wp_skip ?_
      refine thenN ?_
      exact ⟨B4, S4.sub [] [6]⟩

theorem matlinear_walk (w : World) (p0 : Option Addr) (n c0 : Nat) (rs : List Rw) (p1 : Option Addr) (m c1 : Nat) (ts : List Rw) (p2 : Option Addr) (l c2 : Nat) (us : List Rw) (h : Ms w p0 n c0 rs) (h' : Ms w p1 m c1 ts) (h'' : Ms w p2 l c2 us) (b0 : c0 ≤ 1048576) (b0' : ∀ (i : Nat) (r : Rw), rs[i]? = some r → r.c ≤ 1048576 ∧ ∀ (j : Nat) (e : El), r.es[j]? = some e → e.c ≤ 1048576) (b1 : c1 ≤ 1048576) (b1' : ∀ (i : Nat) (r : Rw), ts[i]? = some r → r.c ≤ 1048576 ∧ ∀ (j : Nat) (e : El), r.es[j]? = some e → e.c ≤ 1048576) (b2 : c2 ≤ 1048576) (b2' : ∀ (i : Nat) (r : Rw), us[i]? = some r → r.c ≤ 1048576 ∧ ∀ (j : Nat) (e : El), r.es[j]? = some e → e.c ≤ 1048576) (ht : Tab w) :
    Calls Tryd.prog 4 #[.slice p0 n c0, .slice p1 m c1, .slice p2 l c2] w fun e w' => e = .returned (.bool true) ∧ Below w.heap.size w w' := by
  have q0 := h.cap
  have q1 := h'.cap
  have q2 := h''.cap
  obtain ⟨x1, x2, x3⟩ := ms_n h b0'
  obtain ⟨y1, y2, y3⟩ := ms_n h' b1'
  obtain ⟨z1, z2, z3⟩ := ms_n h'' b2'
  have mz : ∀ {ess : List (List El)}, Ml ess 1048576 → Ml (zz ess) 1048576 := fun h i zs hz => by
    obtain ⟨es, he, rfl⟩ := map_get hz
    rw [List.length_map]
    exact h i es he
  refine (matlinear_w w _ _ _ n m l _ _ _ ((ms_hs h).imp (mx_mv x1 _)) ((ms_hs h').imp (mx_mv y1 _)) ((ms_hs h'').imp (mx_mv z1 _)) (by omega) (by omega) (by omega) (mz x3) (mz y3) (mz z3) ht).mono ?_
  rintro e w' ⟨v, rfl, hb, hv⟩
  obtain rfl : v = _ := hv
  exact ⟨rfl, hb⟩
end Go.Proofs.YtdhjgekbocnnkaaDoor
