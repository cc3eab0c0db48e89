/-
  The laws' own: copies of lists, and whether two lists are the same.
-/
import Derived.Test.YtdhjgekbocnnkaaDoorMVec
namespace Go.Proofs.YtdhjgekbocnnkaaDoor
open Go Go.RowKit Nt
set_option linter.unusedSimpArgs false
set_option linter.unusedVariables false
set_option maxRecDepth 20000

set_option maxHeartbeats 400000 in
theorem owns_w (w : World) (u : Value) (n : Nat) (es : List El) (h : Hs w (Vx n es) u) (hn : n ≤ 1048576) (hC : ∀ (i : Nat) e, es[i]? = some e → e.c ≤ 35184372087808) :
    Calls Tryd.prog 10 #[u] w (Gives (VO n es) w) := by
  have hA : es.length = n := by obtain ⟨p, c, _, hl, _⟩ := h.now; simpa using hl
  refine calls_sta (sl := [(0, (Vx n es))]) Tryd.func10 rfl Tryd.ntmps10 (by simp) (args_cons rfl (h) args_nil) ?_
  intro a0 S0
  refine wp_stmt_seq [.val (Is (.slice none 0 0))] [] [.inl 0, .inr 0] follows S0 rfl (by kernel_rfl) ?_ ?_
  · refine ⟨trivial, ?_⟩
    · exact owe_move rfl (wants_all rfl) (Or.inr rfl) (opnd_const _) rfl
  intro B1 a1 W1 S1
  replace S1 : Sta w 20 [] [(2, (Is (.slice none 0 0))), (0, (Vx n es))] B1 a1 W1 := S1
  refine wp_stmt_seq [.new (.row 36 2 0 (CE 2 (((es.map El.zo).map (· w.heap.size)).take 0)))] [.inl 0] [.inr 0, .inr 1] follows S1 rfl (by kernel_rfl) ?_ ?_
  · refine ⟨trivial, ?_⟩
    · exact owe_nilrow rfl (wants_all rfl) rfl rfl ce_nil
  intro B2 a2 W2 S2
  replace S2 : Sta w 20 [(3, (.row 36 2 0 (CE 2 (((es.map El.zo).map (· w.heap.size)).take 0))))] [(2, (Is (.slice none 0 0))), (0, (Vx n es))] B2 a2 W2 := S2
  refine wp_seq ?_
  refine wp_stmt_seq [.val (Is (.int .i64 0))] [.inr 0] [.inl 0, .inr 0, .inr 1] follows S2 rfl (by kernel_rfl) ?_ ?_
  · refine ⟨trivial, ?_⟩
    · exact owe_move rfl (wants_all rfl) (Or.inr rfl) (opnd_const _) rfl
  intro B3 a3 W3 S3
  replace S3 : Sta w 20 [(3, (.row 36 2 0 (CE 2 (((es.map El.zo).map (· w.heap.size)).take 0))))] [(4, (Is (.int .i64 0))), (2, (Is (.slice none 0 0))), (0, (Vx n es))] B3 a3 W3 := S3
  refine wp_block ?_
  refine wp_loop_ghost (fun (k0 : Nat) a W => (k0 ≤ n) ∧ ∃ Bq, Sta w 20 [(3, (.row 36 2 k0 (CE 2 (((es.map El.zo).map (· w.heap.size)).take k0))))] [(4, (Is (.int .i64 k0))), (0, (Vx n es))] Bq a W) (fun (k0 : Nat) => n - k0) ?_ 0 ⟨Nat.zero_le _, B3, S3.sub [0] [0, 2]⟩
  rintro k0 a4 W4 ⟨hcond, B4, S4⟩
  by_cases hlt : k0 < n
  · obtain ⟨e, he⟩ : ∃ e, es[k0]? = some e := ⟨es[k0]'(by omega), List.getElem?_eq_getElem _⟩
    have hec := hC k0 e he
    have htk : ((es.map El.zo).map (· w.heap.size)).take (k0 + 1) = ((es.map El.zo).map (· w.heap.size)).take k0 ++ [ZO e.s e.n e.xs w.heap.size] := by rw [List.take_add_one, map_get' _ (map_get' _ he)]; rfl
    refine wp_seq ?_
    refine wp_stmt_seq [.val (Is (.int .i64 k0)),
      .val (Vx n es),
      .val (Is (.int .i64 (n : Nat))),
      .val (Is (.bool true))] [.inr 0] [.inl 3, .inr 0, .inr 1] follows S4 rfl (by kernel_rfl) ?_ ?_
    · refine ⟨⟨⟨⟨trivial, ?_⟩, ?_⟩, ?_⟩, ?_⟩
      · exact owe_move rfl (wants_all rfl) (Or.inl rfl) (opnd_slot 0 4 rfl (by kernel_rfl)) rfl
      · exact owe_move rfl (wants_all rfl) (Or.inl rfl) (opnd_slot 1 0 rfl (by kernel_rfl)) rfl
      · exact owe_len rfl (wants_all rfl) rfl (opnd_op 1 6 (by kernel_rfl) rfl) ar_len Tryd.underlying23 rfl
      · exact owe_bin rfl (wants_all rfl) rfl (opnd_op 0 5 (by kernel_rfl) rfl) (opnd_op 2 7 (by kernel_rfl) rfl) rfl (fun ρ w h1 h2 => by exact run_lss_int_t ρ _ _ _ w _ _ (by omega) h1 h2)
    intro B5 a5 W5 S5
    replace S5 : Sta w 20 [(3, (.row 36 2 k0 (CE 2 (((es.map El.zo).map (· w.heap.size)).take k0))))] [(8, (Is (.bool true))), (4, (Is (.int .i64 k0))), (0, (Vx n es))] B5 a5 W5 := S5
    refine wp_cond_true (S5.bool 0 8 rfl) ?_
    refine wp_skip ?_
    refine thenN ?_
    refine wp_seq ?_
    refine wp_block ?_
    refine wp_stmt [.val (Is (a5.eval (.tmp 3))),
      .val (Vx n es),
      .val (Is (.int .i64 k0)),
      .val (AtE 2 (Zx e.s e.p e.n e.c e.xs)),
      .val (Zx e.s e.p e.n e.c e.xs),
      .val ((ZO e.s e.n e.xs) w.heap.size),
      .val (Sng 36 2 ((ZO e.s e.n e.xs) w.heap.size) w.heap.size),
      .mov 3 (.row 36 2 (k0 + 1) (CE 2 (((es.map El.zo).map (· w.heap.size)).take (k0 + 1)))),
      .ref 7] [.inl 8] [.inr 0, .inr 1, .inr 2] follows S5 rfl (by kernel_rfl) ?_ ?_
    · refine ⟨⟨⟨⟨⟨⟨⟨⟨⟨trivial, ?_⟩, ?_⟩, ?_⟩, ?_⟩, ?_⟩, ?_⟩, ?_⟩, ?_⟩, ?_⟩
      · exact owe_same rfl (wants_all rfl) (Or.inl rfl) (by kernel_rfl) rfl
      · exact owe_move rfl (wants_all rfl) (Or.inl rfl) (opnd_slot 2 0 rfl (by kernel_rfl)) rfl
      · exact owe_move rfl (wants_all rfl) (Or.inl rfl) (opnd_slot 1 4 rfl (by kernel_rfl)) rfl
      · exact owe_aindex rfl (wants_all rfl) rfl idx_ints (opnd_op 1 12 (by kernel_rfl) rfl) (opnd_op 2 13 (by kernel_rfl) rfl) (map_get' El.pr he) rfl
      · exact owe_aload rfl (wants_all rfl) rfl ldr_int (by decide) (cel_shp (by decide) shp_zx) (opnd_op 3 14 (by kernel_rfl) rfl) rfl
      · exact owe_call1 rfl (wants_all rfl) rfl (opnd_op 4 15 (by kernel_rfl) rfl) (fresh_zo _ _ _) rfl (fun args w => by go_simp) (g_own hec)
      · exact owe_b1 rfl (wants_all rfl) rfl bld_int (opnd_op 5 16 (by kernel_rfl) rfl) (cel_shp (by decide) shp_zo) rfl
      · exact owe_append rfl (wants_all rfl) rfl (opnd_op 0 11 (by kernel_rfl) rfl) (k := 0) rfl (by kernel_rfl) ((opnd_op 6 17 (by kernel_rfl) rfl).imp b1_src) einf_int Tryd.underlying23 (by decide) ⟨by unfold maxLen; omega, by omega⟩ rfl (fun xs ys w h1 h2 => by rw [htk]; exact ce_append xs ys w h1 h2)
      · exact owe_ref 7 rfl (wants_all rfl) (Or.inr rfl) (by kernel_rfl) rfl rfl
    intro B6 a6 W6 S6
    replace S6 : Sta w 20 [(3, (.row 36 2 (k0 + 1) (CE 2 (((es.map El.zo).map (· w.heap.size)).take (k0 + 1)))))] [(8, (Is (.bool true))), (4, (Is (.int .i64 k0))), (0, (Vx n es))] B6 a6 W6 := S6
    refine inBlkN ?_
    refine thenN ?_
    refine wp_stmt [.val (Is (.int .i64 k0)),
      .val (Is (.int .i64 (k0 + 1 : Nat))),
      .val (Is (.int .i64 (k0 + 1 : Nat)))] [.inr 0] [.inl 2, .inr 0, .inr 2] follows S6 rfl (by kernel_rfl) ?_ ?_
    · refine ⟨⟨⟨trivial, ?_⟩, ?_⟩, ?_⟩
      · exact owe_move rfl (wants_all rfl) (Or.inl rfl) (opnd_slot 1 4 rfl (by kernel_rfl)) rfl
      · exact owe_bin rfl (wants_all rfl) rfl (opnd_op 0 9 (by kernel_rfl) rfl) (opnd_const _) rfl (fun ρ w h1 h2 => by exact run_add_int ρ _ _ _ w _ _ _ ⟨by omega, by omega, by omega⟩ h1 h2)
      · exact owe_move rfl (wants_all rfl) (Or.inr rfl) (opnd_op 1 10 (by kernel_rfl) rfl) rfl
    intro B7 a7 W7 S7
    replace S7 : Sta w 20 [(3, (.row 36 2 (k0 + 1) (CE 2 (((es.map El.zo).map (· w.heap.size)).take (k0 + 1)))))] [(4, (Is (.int .i64 (k0 + 1 : Nat)))), (8, (Is (.bool true))), (0, (Vx n es))] B7 a7 W7 := S7
    refine thenN ?_
    exact ⟨k0 + 1, ⟨by omega, B7, S7.sub [0] [0, 2]⟩, by omega⟩
  · have ek : n = k0 := by omega
    have hend : ((es.map El.zo).map (· w.heap.size)).take k0 = (es.map El.zo).map (· w.heap.size) := List.take_of_length_le (by simp; omega)
    refine wp_seq ?_
    refine wp_stmt_seq [.val (Is (.int .i64 k0)),
      .val (Vx n es),
      .val (Is (.int .i64 (n : Nat))),
      .val (Is (.bool false))] [.inr 0] [.inl 3, .inr 0, .inr 1] follows S4 rfl (by kernel_rfl) ?_ ?_
    · refine ⟨⟨⟨⟨trivial, ?_⟩, ?_⟩, ?_⟩, ?_⟩
      · exact owe_move rfl (wants_all rfl) (Or.inl rfl) (opnd_slot 0 4 rfl (by kernel_rfl)) rfl
      · exact owe_move rfl (wants_all rfl) (Or.inl rfl) (opnd_slot 1 0 rfl (by kernel_rfl)) rfl
      · exact owe_len rfl (wants_all rfl) rfl (opnd_op 1 6 (by kernel_rfl) rfl) ar_len Tryd.underlying23 rfl
      · exact owe_bin rfl (wants_all rfl) rfl (opnd_op 0 5 (by kernel_rfl) rfl) (opnd_op 2 7 (by kernel_rfl) rfl) rfl (fun ρ w h1 h2 => by exact run_lss_int_f ρ _ _ _ w _ _ (by omega) h1 h2)
    intro B5 a5 W5 S5
    replace S5 : Sta w 20 [(3, (.row 36 2 k0 (CE 2 (((es.map El.zo).map (· w.heap.size)).take k0))))] [(8, (Is (.bool false))), (4, (Is (.int .i64 k0))), (0, (Vx n es))] B5 a5 W5 := S5
    refine wp_cond_false (S5.bool 0 8 rfl) ?_
    refine wp_exit ?_
    refine thenX ?_
    refine thenX ?_
    refine inBlkE ?_
    refine thenN ?_
    obtain ⟨B6, S6⟩ : ∃ Bq, Sta w 20 [] [(3, ((VO n es) w.heap.size)), (8, (Is (.bool false))), (4, (Is (.int .i64 k0))), (0, (Vx n es))] Bq a5 W5 := ⟨_, S5.freeze 0 rfl (by simp) (fun v w' xs ho hc => by rw [hend] at hc; rw [ek]; exact row_lf (by decide) v w' xs ho hc)⟩
    obtain ⟨a6, W6, e1, e2⟩ : ∃ a W, a5 = a ∧ W5 = W := ⟨_, _, rfl, rfl⟩
    rw [e1, e2] at S6 ⊢
    clear e1 e2
    refine wp_stmt_seq [.val ((VO n es) w.heap.size),
      .val ((VO n es) w.heap.size)] [] [.inl 1, .inr 0, .inr 1, .inr 2, .inr 3] follows S6 rfl (by kernel_rfl) ?_ ?_
    · refine ⟨⟨trivial, ?_⟩, ?_⟩
      · exact owe_move rfl (wants_all rfl) (Or.inl rfl) (opnd_slot 0 3 rfl (by kernel_rfl)) rfl
      · exact owe_move rfl (wants_all rfl) (Or.inr rfl) (opnd_op 0 19 (by kernel_rfl) rfl) rfl
    intro B7 a7 W7 S7
    replace S7 : Sta w 20 [] [(2, ((VO n es) w.heap.size)), (3, ((VO n es) w.heap.size)), (8, (Is (.bool false))), (4, (Is (.int .i64 k0))), (0, (Vx n es))] B7 a7 W7 := S7
    refine wp_ret ?_
    exact end_one S7 rfl (res_tmp S7 0 2 rfl)

end Go.Proofs.YtdhjgekbocnnkaaDoor
