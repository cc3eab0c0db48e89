/-
  The document's Read, of magnitudes and of whole numbers.
-/
import Derived.Test.YtoplejeljmpcpaaDoorZRead
import Derived.Test.YtoplejeljmpcpaaDoorZTop
namespace Go.Proofs.YtoplejeljmpcpaaDoor
open Go Go.RowKit Nt
set_option linter.unusedSimpArgs false
set_option linter.unusedVariables false
set_option maxRecDepth 20000


theorem good_dl {t : List UInt8} {k m : Nat} (hg : ∀ i, i < k → ¬ bad t i) (hk : k ≤ t.length) (hm : k ≤ m) : (digs (decV (t.take k))).length ≤ m := by
  refine decV_dl (fun j hj => ?_) (by simp; omega)
  have hj2 : j < k := by simp at hj; omega
  have h2 := (good_bt.1 (hg j hj2)).1
  unfold bt at h2 ⊢
  rwa [List.getD_eq_getElem?_getD, List.getElem?_take, if_pos hj2, ← List.getD_eq_getElem?_getD]

set_option maxHeartbeats 400000 in
theorem rr_empty (w : World) (t : List UInt8) (h : t.length = 0) :
    Calls Tryd.prog 30 #[str t] w (Gives (THREE (IS (.slice none 0 0)) (IS (.int .i64 0)) (IS (.int .i64 4))) w) := by
  refine calls_sta (sl := [(0, (Is (str t)))]) Tryd.func30 rfl Tryd.ntmps30 (by simp) (args_cons rfl (is_has _) args_nil) ?_
  intro a0 S0
  refine wp_stmt_seq [.val (Is (.slice none 0 0)),
      .val (Is (.int .i64 0)),
      .val (Is (.int .i64 0))] [] [.inl 0, .inl 1, .inl 2, .inr 0] follows S0 rfl (by kernel_rfl) ?_ ?_
  · refine ⟨⟨⟨trivial, ?_⟩, ?_⟩, ?_⟩
    · exact owe_move rfl (wants_all rfl) (Or.inr rfl) (opnd_const _) rfl
    · exact owe_move rfl (wants_all rfl) (Or.inr rfl) (opnd_const _) rfl
    · exact owe_move rfl (wants_all rfl) (Or.inr rfl) (opnd_const _) rfl
  intro B1 a1 W1 S1
  replace S1 : Sta w 50 [] [(2, (Is (.slice none 0 0))), (3, (Is (.int .i64 0))), (4, (Is (.int .i64 0))), (0, (Is (str t)))] B1 a1 W1 := S1
  refine wp_seq ?_
  refine wp_stmt_seq [.val (Is (str t)),
      .val (Is (.int .i64 ((t).length : Nat))),
      .val (Is (.bool false))] [] [.inl 2, .inr 0, .inr 1, .inr 2, .inr 3] follows S1 rfl (by kernel_rfl) ?_ ?_
  · refine ⟨⟨⟨trivial, ?_⟩, ?_⟩, ?_⟩
    · exact owe_move rfl (wants_all rfl) (Or.inl rfl) (opnd_slot 3 0 rfl (by kernel_rfl)) rfl
    · exact owe_un (x := .tmp 7) rfl (wants_all rfl) rfl (opnd_op 0 7 (by kernel_rfl) rfl) rfl (fun ρ w h1 => run_lens ρ _ _ w _ h1)
    · exact owe_bin rfl (wants_all rfl) rfl (opnd_op 1 8 (by kernel_rfl) rfl) (opnd_const _) rfl (fun ρ w h1 h2 => by exact run_gtr_int_f ρ _ _ _ w _ _ (by omega) h1 h2)
  intro B2 a2 W2 S2
  replace S2 : Sta w 50 [] [(9, (Is (.bool false))), (2, (Is (.slice none 0 0))), (3, (Is (.int .i64 0))), (4, (Is (.int .i64 0))), (0, (Is (str t)))] B2 a2 W2 := S2
  refine wp_cond_false (S2.bool 0 9 rfl) ?_
  refine wp_skip ?_
  refine thenN ?_
  refine wp_seq ?_
  refine wp_stmt_seq [.val (Is (str t)),
      .val (Is (.int .i64 ((t).length : Nat))),
      .val (Is (.bool true))] [] [.inl 2, .inr 0, .inr 1, .inr 2, .inr 3, .inr 4] follows S2 rfl (by kernel_rfl) ?_ ?_
  · refine ⟨⟨⟨trivial, ?_⟩, ?_⟩, ?_⟩
    · exact owe_move rfl (wants_all rfl) (Or.inl rfl) (opnd_slot 4 0 rfl (by kernel_rfl)) rfl
    · exact owe_un (x := .tmp 10) rfl (wants_all rfl) rfl (opnd_op 0 10 (by kernel_rfl) rfl) rfl (fun ρ w h1 => run_lens ρ _ _ w _ h1)
    · exact owe_bin rfl (wants_all rfl) rfl (opnd_op 1 11 (by kernel_rfl) rfl) (opnd_const _) rfl (fun ρ w h1 h2 => by exact run_eql_int_t ρ _ _ _ w _ _ (by omega) h1 h2)
  intro B3 a3 W3 S3
  replace S3 : Sta w 50 [] [(12, (Is (.bool true))), (9, (Is (.bool false))), (2, (Is (.slice none 0 0))), (3, (Is (.int .i64 0))), (4, (Is (.int .i64 0))), (0, (Is (str t)))] B3 a3 W3 := S3
  refine wp_cond_true (S3.bool 0 12 rfl) ?_
  refine wp_stmt_seq [.val (Is (.slice none 0 0)),
      .val (Is (.int .i64 0)),
      .val (Is (.int .i64 4))] [] [.inl 0, .inl 1, .inl 2, .inr 0, .inr 1, .inr 5] follows S3 rfl (by kernel_rfl) ?_ ?_
  · refine ⟨⟨⟨trivial, ?_⟩, ?_⟩, ?_⟩
    · exact owe_move rfl (wants_all rfl) (Or.inr rfl) (opnd_const _) rfl
    · exact owe_move rfl (wants_all rfl) (Or.inr rfl) (opnd_const _) rfl
    · exact owe_move rfl (wants_all rfl) (Or.inr rfl) (opnd_const _) rfl
  intro B4 a4 W4 S4
  replace S4 : Sta w 50 [] [(2, (Is (.slice none 0 0))), (3, (Is (.int .i64 0))), (4, (Is (.int .i64 4))), (12, (Is (.bool true))), (9, (Is (.bool false))), (0, (Is (str t)))] B4 a4 W4 := S4
  refine wp_ret ?_
  refine thenR ?_
  exact end_three S4 rfl (res_tmp S4 0 2 rfl) (res_tmp S4 1 3 rfl) (res_tmp S4 2 4 rfl)

set_option maxHeartbeats 2000000 in
theorem rr_bad (w : World) (t : List UInt8) (j : Nat) (hl : t.length ≤ 65536) (hj : j < t.length) (hbd : bad t j) (hg : ∀ i, i < j → ¬ bad t i) :
    Calls Tryd.prog 30 #[str t] w (Gives (THREE (IS (.slice none 0 0)) (IS (.int .i64 (j : Nat))) (IS (.int .i64 4))) w) := by
  refine calls_sta (sl := [(0, (Is (str t)))]) Tryd.func30 rfl Tryd.ntmps30 (by simp) (args_cons rfl (is_has _) args_nil) ?_
  intro a0 S0
  refine wp_stmt_seq [.val (Is (.slice none 0 0)),
      .val (Is (.int .i64 0)),
      .val (Is (.int .i64 0))] [] [.inl 0, .inl 1, .inl 2, .inr 0] follows S0 rfl (by kernel_rfl) ?_ ?_
  · refine ⟨⟨⟨trivial, ?_⟩, ?_⟩, ?_⟩
    · exact owe_move rfl (wants_all rfl) (Or.inr rfl) (opnd_const _) rfl
    · exact owe_move rfl (wants_all rfl) (Or.inr rfl) (opnd_const _) rfl
    · exact owe_move rfl (wants_all rfl) (Or.inr rfl) (opnd_const _) rfl
  intro B1 a1 W1 S1
  replace S1 : Sta w 50 [] [(2, (Is (.slice none 0 0))), (3, (Is (.int .i64 0))), (4, (Is (.int .i64 0))), (0, (Is (str t)))] B1 a1 W1 := S1
  refine wp_seq ?_
  refine wp_stmt_seq [.val (Is (str t)),
      .val (Is (.int .i64 ((t).length : Nat))),
      .val (Is (.bool false))] [] [.inl 2, .inr 0, .inr 1, .inr 2, .inr 3] follows S1 rfl (by kernel_rfl) ?_ ?_
  · refine ⟨⟨⟨trivial, ?_⟩, ?_⟩, ?_⟩
    · exact owe_move rfl (wants_all rfl) (Or.inl rfl) (opnd_slot 3 0 rfl (by kernel_rfl)) rfl
    · exact owe_un (x := .tmp 7) rfl (wants_all rfl) rfl (opnd_op 0 7 (by kernel_rfl) rfl) rfl (fun ρ w h1 => run_lens ρ _ _ w _ h1)
    · exact owe_bin rfl (wants_all rfl) rfl (opnd_op 1 8 (by kernel_rfl) rfl) (opnd_const _) rfl (fun ρ w h1 h2 => by exact run_gtr_int_f ρ _ _ _ w _ _ (by omega) h1 h2)
  intro B2 a2 W2 S2
  replace S2 : Sta w 50 [] [(9, (Is (.bool false))), (2, (Is (.slice none 0 0))), (3, (Is (.int .i64 0))), (4, (Is (.int .i64 0))), (0, (Is (str t)))] B2 a2 W2 := S2
  refine wp_cond_false (S2.bool 0 9 rfl) ?_
  refine wp_skip ?_
  refine thenN ?_
  refine wp_seq ?_
  refine wp_stmt_seq [.val (Is (str t)),
      .val (Is (.int .i64 ((t).length : Nat))),
      .val (Is (.bool false))] [] [.inl 2, .inr 0, .inr 1, .inr 2, .inr 3, .inr 4] follows S2 rfl (by kernel_rfl) ?_ ?_
  · refine ⟨⟨⟨trivial, ?_⟩, ?_⟩, ?_⟩
    · exact owe_move rfl (wants_all rfl) (Or.inl rfl) (opnd_slot 4 0 rfl (by kernel_rfl)) rfl
    · exact owe_un (x := .tmp 10) rfl (wants_all rfl) rfl (opnd_op 0 10 (by kernel_rfl) rfl) rfl (fun ρ w h1 => run_lens ρ _ _ w _ h1)
    · exact owe_bin rfl (wants_all rfl) rfl (opnd_op 1 11 (by kernel_rfl) rfl) (opnd_const _) rfl (fun ρ w h1 h2 => by exact run_eql_int_f ρ _ _ _ w _ _ (by omega) h1 h2)
  intro B3 a3 W3 S3
  replace S3 : Sta w 50 [] [(12, (Is (.bool false))), (9, (Is (.bool false))), (2, (Is (.slice none 0 0))), (3, (Is (.int .i64 0))), (4, (Is (.int .i64 0))), (0, (Is (str t)))] B3 a3 W3 := S3
  refine wp_cond_false (S3.bool 0 12 rfl) ?_
  refine wp_skip ?_
  refine thenN ?_
  refine wp_stmt_seq [.val (Is (.slice none 0 0))] [] [.inl 0, .inr 0, .inr 1, .inr 2, .inr 3, .inr 4, .inr 5] follows S3 rfl (by kernel_rfl) ?_ ?_
  · refine ⟨trivial, ?_⟩
    · exact owe_move rfl (wants_all rfl) (Or.inr rfl) (opnd_const _) rfl
  intro B4 a4 W4 S4
  replace S4 : Sta w 50 [] [(5, (Is (.slice none 0 0))), (12, (Is (.bool false))), (9, (Is (.bool false))), (2, (Is (.slice none 0 0))), (3, (Is (.int .i64 0))), (4, (Is (.int .i64 0))), (0, (Is (str t)))] B4 a4 W4 := S4
  refine wp_seq ?_
  refine wp_stmt_seq [.val (Is (.int .i64 0))] [] [.inl 0, .inr 0, .inr 1, .inr 2, .inr 3, .inr 4, .inr 5, .inr 6] follows S4 rfl (by kernel_rfl) ?_ ?_
  · refine ⟨trivial, ?_⟩
    · exact owe_move rfl (wants_all rfl) (Or.inr rfl) (opnd_const _) rfl
  intro B5 a5 W5 S5
  replace S5 : Sta w 50 [] [(6, (Is (.int .i64 0))), (5, (Is (.slice none 0 0))), (12, (Is (.bool false))), (9, (Is (.bool false))), (2, (Is (.slice none 0 0))), (3, (Is (.int .i64 0))), (4, (Is (.int .i64 0))), (0, (Is (str t)))] B5 a5 W5 := S5
  refine wp_block ?_
  replace S5 : Sta w 50 [] [(6, (Is (.int .i64 0))), (5, ((NN (decV (t.take 0))) w.heap.size)), (12, (Is (.bool false))), (9, (Is (.bool false))), (2, (Is (.slice none 0 0))), (3, (Is (.int .i64 0))), (4, (Is (.int .i64 0))), (0, (Is (str t)))] B5 a5 W5 := S5.change 1 rfl (fun v w h => zero_nn v w h)
  refine wp_loop_ghost (fun (k0 : Nat) a W => (k0 ≤ j) ∧ ∃ Bq, Sta w 50 [] [(6, (Is (.int .i64 k0))), (5, ((NN (decV (t.take k0))) w.heap.size)), (0, (Is (str t)))] Bq a W) (fun (k0 : Nat) => j - k0) ?_ 0 ⟨Nat.zero_le _, B5, S5.sub [] [0, 1, 7]⟩
  rintro k0 a6 W6 ⟨hcond, B6, S6⟩
  by_cases hlt : k0 < j
  · have hk := good_bt.1 (hg k0 (by omega))
    have hb := dgB_iff.1 hk.1
    have hst : (decV (t.take k0)) * 10 + (bt t k0 - 48 : Nat) = decV (t.take (k0 + 1)) := by rw [decV_step (by omega) hk.1, Nat.mul_comm]
    have hq1 : (digs (decV (t.take k0))).length ≤ 65536 := good_dl (fun i hi => hg i (by omega)) (by omega) (by omega)
    have hq2 : (digs ((decV (t.take k0)) * 10)).length ≤ 65537 := Nat.le_trans (digs_mul_len hq1 (digs_length_le (k := 1) (by omega))) (by omega)
    have hbl := bt_lt t k0
    refine wp_seq ?_
    refine wp_stmt_seq [.val (Is (.int .i64 k0)),
      .val (Is (str t)),
      .val (Is (.int .i64 ((t).length : Nat))),
      .val (Is (.bool true))] [] [.inl 3, .inr 0, .inr 1, .inr 2] follows S6 rfl (by kernel_rfl) ?_ ?_
    · refine ⟨⟨⟨⟨trivial, ?_⟩, ?_⟩, ?_⟩, ?_⟩
      · exact owe_move rfl (wants_all rfl) (Or.inl rfl) (opnd_slot 0 6 rfl (by kernel_rfl)) rfl
      · exact owe_move rfl (wants_all rfl) (Or.inl rfl) (opnd_slot 2 0 rfl (by kernel_rfl)) rfl
      · exact owe_un (x := .tmp 14) rfl (wants_all rfl) rfl (opnd_op 1 14 (by kernel_rfl) rfl) rfl (fun ρ w h1 => run_lens ρ _ _ w _ h1)
      · exact owe_bin rfl (wants_all rfl) rfl (opnd_op 0 13 (by kernel_rfl) rfl) (opnd_op 2 15 (by kernel_rfl) rfl) rfl (fun ρ w h1 h2 => by exact run_lss_int_t ρ _ _ _ w _ _ (by omega) h1 h2)
    intro B7 a7 W7 S7
    replace S7 : Sta w 50 [] [(16, (Is (.bool true))), (6, (Is (.int .i64 k0))), (5, ((NN (decV (t.take k0))) w.heap.size)), (0, (Is (str t)))] B7 a7 W7 := S7
    refine wp_cond_true (S7.bool 0 16 rfl) ?_
    refine wp_skip ?_
    refine thenN ?_
    by_cases hk1 : k0 = 1
    · skip
      have h48 : bt t 0 ≠ 48 := fun h => hk.2 ⟨by omega, h⟩
      refine wp_seq ?_
      refine wp_block ?_
      refine wp_seq ?_
      refine wp_stmt_seq [.val (Is (str t)),
      .val (Is (.int .i64 k0)),
      .val (Is (.int .u8 ((bt t k0 : Nat) : Int))),
      .val (Is (.bool false)),
      .val (Is (.bool false)),
      .val (Is (str t)),
      .val (Is (.int .i64 k0)),
      .val (Is (.int .u8 ((bt t k0 : Nat) : Int))),
      .val (Is (.bool false)),
      .val (Is (.bool false)),
      .val (Is (.bool false)),
      .val (Is (.int .i64 k0)),
      .val (Is (.bool true)),
      .val (Is (.bool true)),
      .val (Is (str t)),
      .val (Is (.int .u8 ((bt t 0 : Nat) : Int))),
      .val (Is (.bool false)),
      .val (Is (.bool false)),
      .val (Is (.bool false))] [] [.inl 18, .inr 0, .inr 1, .inr 2, .inr 3] follows S7 rfl (by kernel_rfl) ?_ ?_
      · refine ⟨⟨⟨⟨⟨⟨⟨⟨⟨⟨⟨⟨⟨⟨⟨⟨⟨⟨⟨trivial, ?_⟩, ?_⟩, ?_⟩, ?_⟩, ?_⟩, ?_⟩, ?_⟩, ?_⟩, ?_⟩, ?_⟩, ?_⟩, ?_⟩, ?_⟩, ?_⟩, ?_⟩, ?_⟩, ?_⟩, ?_⟩, ?_⟩
        · exact owe_move rfl (wants_all rfl) (Or.inl rfl) (opnd_slot 3 0 rfl (by kernel_rfl)) rfl
        · exact owe_move rfl (wants_all rfl) (Or.inl rfl) (opnd_slot 1 6 rfl (by kernel_rfl)) rfl
        · exact owe_two rfl (wants_all rfl) rfl (opnd_op 0 19 (by kernel_rfl) rfl) (opnd_op 1 20 (by kernel_rfl) rfl) rfl (fun ρ w h1 h2 => run_idx ρ _ _ _ w t k0 (by omega) h1 h2)
        · exact owe_bin rfl (wants_all rfl) rfl (opnd_op 2 21 (by kernel_rfl) rfl) (opnd_const _) rfl (fun ρ w h1 h2 => by exact run_lss_u8_f ρ _ _ _ w _ _ (by omega) h1 h2)
        · exact owe_move rfl (wants_all rfl) (Or.inl rfl) (opnd_op 3 22 (by kernel_rfl) rfl) rfl
        · exact owe_move rfl (wants_if 4 23 rfl (by kernel_rfl) rfl) (Or.inl rfl) (opnd_slot 3 0 rfl (by kernel_rfl)) rfl
        · exact owe_move rfl (wants_if 4 23 rfl (by kernel_rfl) rfl) (Or.inl rfl) (opnd_slot 1 6 rfl (by kernel_rfl)) rfl
        · exact owe_two rfl (wants_if 4 23 rfl (by kernel_rfl) rfl) rfl (opnd_op 5 24 (by kernel_rfl) rfl) (opnd_op 6 25 (by kernel_rfl) rfl) rfl (fun ρ w h1 h2 => run_idx ρ _ _ _ w t k0 (by omega) h1 h2)
        · exact owe_bin rfl (wants_if 4 23 rfl (by kernel_rfl) rfl) rfl (opnd_op 7 26 (by kernel_rfl) rfl) (opnd_const _) rfl (fun ρ w h1 h2 => by exact run_gtr_u8_f ρ _ _ _ w _ _ (by omega) h1 h2)
        · exact owe_pick rfl (wants_all rfl) rfl (opnd_op 4 23 (by kernel_rfl) rfl) (fun h => nomatch h) (fun _ => (opnd_op 8 27 (by kernel_rfl) rfl)) rfl
        · exact owe_move rfl (wants_all rfl) (Or.inl rfl) (opnd_op 9 28 (by kernel_rfl) rfl) rfl
        · exact owe_move rfl (wants_if 10 29 rfl (by kernel_rfl) rfl) (Or.inl rfl) (opnd_slot 1 6 rfl (by kernel_rfl)) rfl
        · exact owe_bin rfl (wants_if 10 29 rfl (by kernel_rfl) rfl) rfl (opnd_op 11 30 (by kernel_rfl) rfl) (opnd_const _) rfl (fun ρ w h1 h2 => by exact run_eql_int_t ρ _ _ _ w _ _ (by omega) h1 h2)
        · exact owe_move rfl (wants_if 10 29 rfl (by kernel_rfl) rfl) (Or.inl rfl) (opnd_op 12 31 (by kernel_rfl) rfl) rfl
        · exact owe_move rfl (wants_if 13 32 rfl (by kernel_rfl) rfl) (Or.inl rfl) (opnd_slot 3 0 rfl (by kernel_rfl)) rfl
        · exact owe_two rfl (wants_if 13 32 rfl (by kernel_rfl) rfl) rfl (opnd_op 14 33 (by kernel_rfl) rfl) (opnd_const _) rfl (fun ρ w h1 h2 => run_idx ρ _ _ _ w t 0 (by omega) h1 h2)
        · exact owe_bin rfl (wants_if 13 32 rfl (by kernel_rfl) rfl) rfl (opnd_op 15 34 (by kernel_rfl) rfl) (opnd_const _) rfl (fun ρ w h1 h2 => by exact run_eql_u8_f ρ _ _ _ w _ _ (by omega) h1 h2)
        · exact owe_pick rfl (wants_if 10 29 rfl (by kernel_rfl) rfl) rfl (opnd_op 13 32 (by kernel_rfl) rfl) (fun _ => (opnd_op 16 35 (by kernel_rfl) rfl)) (fun h => nomatch h) rfl
        · exact owe_pick rfl (wants_all rfl) rfl (opnd_op 10 29 (by kernel_rfl) rfl) (fun h => nomatch h) (fun _ => (opnd_op 17 36 (by kernel_rfl) rfl)) rfl
      intro B8 a8 W8 S8
      replace S8 : Sta w 50 [] [(37, (Is (.bool false))), (16, (Is (.bool true))), (6, (Is (.int .i64 k0))), (5, ((NN (decV (t.take k0))) w.heap.size)), (0, (Is (str t)))] B8 a8 W8 := S8
      refine wp_cond_false (S8.bool 0 37 rfl) ?_
      refine wp_skip ?_
      refine thenN ?_
      refine wp_stmt [.val ((NN (decV (t.take k0))) w.heap.size),
      .val ((BS 10) w.heap.size),
      .val ((NN ((decV (t.take k0)) * 10)) w.heap.size),
      .val (Is (str t)),
      .val (Is (.int .i64 k0)),
      .val (Is (.int .u8 ((bt t k0 : Nat) : Int))),
      .val (Is (.int .u8 ((bt t k0 - 48 : Nat) : Int))),
      .val (Is (.int .u32 (bt t k0 - 48 : Nat))),
      .val ((BS (bt t k0 - 48 : Nat)) w.heap.size),
      .val ((NN (decV (t.take (k0 + 1)))) w.heap.size),
      .val ((NN (decV (t.take (k0 + 1)))) w.heap.size)] [] [.inl 10, .inr 0, .inr 1, .inr 2, .inr 4] follows S8 rfl (by kernel_rfl) ?_ ?_
      · refine ⟨⟨⟨⟨⟨⟨⟨⟨⟨⟨⟨trivial, ?_⟩, ?_⟩, ?_⟩, ?_⟩, ?_⟩, ?_⟩, ?_⟩, ?_⟩, ?_⟩, ?_⟩, ?_⟩
        · exact owe_move rfl (wants_all rfl) (Or.inl rfl) (opnd_slot 3 5 rfl (by kernel_rfl)) rfl
        · exact owe_bs rfl (wants_all rfl) rfl (opnd_const _) (by decide) rfl
        · exact owe_call2 rfl (wants_all rfl) rfl (opnd_op 0 39 (by kernel_rfl) rfl) (opnd_op 1 40 (by kernel_rfl) rfl) (fresh_nn _) rfl (fun args w => by go_simp) (fun w u v h1 h2 => g_rmul1 (by omega) w u v ((nn_nv hq1) _ _ h1) (bs_nv _ _ h2))
        · exact owe_move rfl (wants_all rfl) (Or.inl rfl) (opnd_slot 4 0 rfl (by kernel_rfl)) rfl
        · exact owe_move rfl (wants_all rfl) (Or.inl rfl) (opnd_slot 2 6 rfl (by kernel_rfl)) rfl
        · exact owe_two rfl (wants_all rfl) rfl (opnd_op 3 42 (by kernel_rfl) rfl) (opnd_op 4 43 (by kernel_rfl) rfl) rfl (fun ρ w h1 h2 => run_idx ρ _ _ _ w t k0 (by omega) h1 h2)
        · exact owe_bin rfl (wants_all rfl) rfl (opnd_op 5 44 (by kernel_rfl) rfl) (opnd_const _) rfl (fun ρ w h1 h2 => by exact run_sub_u8 ρ _ _ _ w _ _ _ ⟨by omega, by omega, by omega⟩ h1 h2)
        · exact owe_un (x := .tmp 45) rfl (wants_all rfl) rfl (opnd_op 6 45 (by kernel_rfl) rfl) rfl (fun ρ w h1 => by exact run_conv_8_32 ρ _ _ w _ ⟨by omega, by omega⟩ h1)
        · exact owe_bs rfl (wants_all rfl) rfl (opnd_op 7 46 (by kernel_rfl) rfl) (by omega) rfl
        · exact owe_call2 rfl (wants_all rfl) rfl (opnd_op 2 41 (by kernel_rfl) rfl) (opnd_op 8 47 (by kernel_rfl) rfl) (fresh_nn _) rfl (fun args w => by go_simp) (fun w u0 u1 h0 h1 => Gives.cast ((fun w u v h1 h2 => g_radd1 (by omega) (by omega) w u v ((nn_nv hq2) _ _ h1) (bs_nv _ _ h2)) w u0 u1 h0 h1) (by rw [hst]))
        · exact owe_move rfl (wants_all rfl) (Or.inr rfl) (opnd_op 9 48 (by kernel_rfl) rfl) rfl
      intro B9 a9 W9 S9
      replace S9 : Sta w 50 [] [(5, ((NN (decV (t.take (k0 + 1)))) w.heap.size)), (37, (Is (.bool false))), (16, (Is (.bool true))), (6, (Is (.int .i64 k0))), (0, (Is (str t)))] B9 a9 W9 := S9
      refine inBlkN ?_
      refine thenN ?_
      refine wp_stmt [.val (Is (.int .i64 k0)),
      .val (Is (.int .i64 (k0 + 1 : Nat))),
      .val (Is (.int .i64 (k0 + 1 : Nat)))] [] [.inl 2, .inr 0, .inr 1, .inr 2, .inr 4] follows S9 rfl (by kernel_rfl) ?_ ?_
      · refine ⟨⟨⟨trivial, ?_⟩, ?_⟩, ?_⟩
        · exact owe_move rfl (wants_all rfl) (Or.inl rfl) (opnd_slot 3 6 rfl (by kernel_rfl)) rfl
        · exact owe_bin rfl (wants_all rfl) rfl (opnd_op 0 17 (by kernel_rfl) rfl) (opnd_const _) rfl (fun ρ w h1 h2 => by exact run_add_int ρ _ _ _ w _ _ _ ⟨by omega, by omega, by omega⟩ h1 h2)
        · exact owe_move rfl (wants_all rfl) (Or.inr rfl) (opnd_op 1 18 (by kernel_rfl) rfl) rfl
      intro B10 a10 W10 S10
      replace S10 : Sta w 50 [] [(6, (Is (.int .i64 (k0 + 1 : Nat)))), (5, ((NN (decV (t.take (k0 + 1)))) w.heap.size)), (37, (Is (.bool false))), (16, (Is (.bool true))), (0, (Is (str t)))] B10 a10 W10 := S10
      refine thenN ?_
      exact ⟨k0 + 1, ⟨by omega, B10, S10.sub [] [0, 1, 4]⟩, by omega⟩
    · skip
      refine wp_seq ?_
      refine wp_block ?_
      refine wp_seq ?_
      refine wp_stmt_seq [.val (Is (str t)),
      .val (Is (.int .i64 k0)),
      .val (Is (.int .u8 ((bt t k0 : Nat) : Int))),
      .val (Is (.bool false)),
      .val (Is (.bool false)),
      .val (Is (str t)),
      .val (Is (.int .i64 k0)),
      .val (Is (.int .u8 ((bt t k0 : Nat) : Int))),
      .val (Is (.bool false)),
      .val (Is (.bool false)),
      .val (Is (.bool false)),
      .val (Is (.int .i64 k0)),
      .val (Is (.bool false)),
      .val (Is (.bool false)),
      .off,
      .off,
      .off,
      .val (Is (.bool false)),
      .val (Is (.bool false))] [] [.inl 18, .inr 0, .inr 1, .inr 2, .inr 3] follows S7 rfl (by kernel_rfl) ?_ ?_
      · refine ⟨⟨⟨⟨⟨⟨⟨⟨⟨⟨⟨⟨⟨⟨⟨⟨⟨⟨⟨trivial, ?_⟩, ?_⟩, ?_⟩, ?_⟩, ?_⟩, ?_⟩, ?_⟩, ?_⟩, ?_⟩, ?_⟩, ?_⟩, ?_⟩, ?_⟩, ?_⟩, ?_⟩, ?_⟩, ?_⟩, ?_⟩, ?_⟩
        · exact owe_move rfl (wants_all rfl) (Or.inl rfl) (opnd_slot 3 0 rfl (by kernel_rfl)) rfl
        · exact owe_move rfl (wants_all rfl) (Or.inl rfl) (opnd_slot 1 6 rfl (by kernel_rfl)) rfl
        · exact owe_two rfl (wants_all rfl) rfl (opnd_op 0 19 (by kernel_rfl) rfl) (opnd_op 1 20 (by kernel_rfl) rfl) rfl (fun ρ w h1 h2 => run_idx ρ _ _ _ w t k0 (by omega) h1 h2)
        · exact owe_bin rfl (wants_all rfl) rfl (opnd_op 2 21 (by kernel_rfl) rfl) (opnd_const _) rfl (fun ρ w h1 h2 => by exact run_lss_u8_f ρ _ _ _ w _ _ (by omega) h1 h2)
        · exact owe_move rfl (wants_all rfl) (Or.inl rfl) (opnd_op 3 22 (by kernel_rfl) rfl) rfl
        · exact owe_move rfl (wants_if 4 23 rfl (by kernel_rfl) rfl) (Or.inl rfl) (opnd_slot 3 0 rfl (by kernel_rfl)) rfl
        · exact owe_move rfl (wants_if 4 23 rfl (by kernel_rfl) rfl) (Or.inl rfl) (opnd_slot 1 6 rfl (by kernel_rfl)) rfl
        · exact owe_two rfl (wants_if 4 23 rfl (by kernel_rfl) rfl) rfl (opnd_op 5 24 (by kernel_rfl) rfl) (opnd_op 6 25 (by kernel_rfl) rfl) rfl (fun ρ w h1 h2 => run_idx ρ _ _ _ w t k0 (by omega) h1 h2)
        · exact owe_bin rfl (wants_if 4 23 rfl (by kernel_rfl) rfl) rfl (opnd_op 7 26 (by kernel_rfl) rfl) (opnd_const _) rfl (fun ρ w h1 h2 => by exact run_gtr_u8_f ρ _ _ _ w _ _ (by omega) h1 h2)
        · exact owe_pick rfl (wants_all rfl) rfl (opnd_op 4 23 (by kernel_rfl) rfl) (fun h => nomatch h) (fun _ => (opnd_op 8 27 (by kernel_rfl) rfl)) rfl
        · exact owe_move rfl (wants_all rfl) (Or.inl rfl) (opnd_op 9 28 (by kernel_rfl) rfl) rfl
        · exact owe_move rfl (wants_if 10 29 rfl (by kernel_rfl) rfl) (Or.inl rfl) (opnd_slot 1 6 rfl (by kernel_rfl)) rfl
        · exact owe_bin rfl (wants_if 10 29 rfl (by kernel_rfl) rfl) rfl (opnd_op 11 30 (by kernel_rfl) rfl) (opnd_const _) rfl (fun ρ w h1 h2 => by exact run_eql_int_f ρ _ _ _ w _ _ (by omega) h1 h2)
        · exact owe_move rfl (wants_if 10 29 rfl (by kernel_rfl) rfl) (Or.inl rfl) (opnd_op 12 31 (by kernel_rfl) rfl) rfl
        · exact owe_off 13 32 rfl rfl rfl (by kernel_rfl) rfl (by decide)
        · exact owe_off 13 32 rfl rfl rfl (by kernel_rfl) rfl (by decide)
        · exact owe_off 13 32 rfl rfl rfl (by kernel_rfl) rfl (by decide)
        · exact owe_pick rfl (wants_if 10 29 rfl (by kernel_rfl) rfl) rfl (opnd_op 13 32 (by kernel_rfl) rfl) (fun h => nomatch h) (fun _ => (opnd_const _)) rfl
        · exact owe_pick rfl (wants_all rfl) rfl (opnd_op 10 29 (by kernel_rfl) rfl) (fun h => nomatch h) (fun _ => (opnd_op 17 36 (by kernel_rfl) rfl)) rfl
      intro B8 a8 W8 S8
      replace S8 : Sta w 50 [] [(37, (Is (.bool false))), (16, (Is (.bool true))), (6, (Is (.int .i64 k0))), (5, ((NN (decV (t.take k0))) w.heap.size)), (0, (Is (str t)))] B8 a8 W8 := S8
      refine wp_cond_false (S8.bool 0 37 rfl) ?_
      refine wp_skip ?_
      refine thenN ?_
      refine wp_stmt [.val ((NN (decV (t.take k0))) w.heap.size),
      .val ((BS 10) w.heap.size),
      .val ((NN ((decV (t.take k0)) * 10)) w.heap.size),
      .val (Is (str t)),
      .val (Is (.int .i64 k0)),
      .val (Is (.int .u8 ((bt t k0 : Nat) : Int))),
      .val (Is (.int .u8 ((bt t k0 - 48 : Nat) : Int))),
      .val (Is (.int .u32 (bt t k0 - 48 : Nat))),
      .val ((BS (bt t k0 - 48 : Nat)) w.heap.size),
      .val ((NN (decV (t.take (k0 + 1)))) w.heap.size),
      .val ((NN (decV (t.take (k0 + 1)))) w.heap.size)] [] [.inl 10, .inr 0, .inr 1, .inr 2, .inr 4] follows S8 rfl (by kernel_rfl) ?_ ?_
      · refine ⟨⟨⟨⟨⟨⟨⟨⟨⟨⟨⟨trivial, ?_⟩, ?_⟩, ?_⟩, ?_⟩, ?_⟩, ?_⟩, ?_⟩, ?_⟩, ?_⟩, ?_⟩, ?_⟩
        · exact owe_move rfl (wants_all rfl) (Or.inl rfl) (opnd_slot 3 5 rfl (by kernel_rfl)) rfl
        · exact owe_bs rfl (wants_all rfl) rfl (opnd_const _) (by decide) rfl
        · exact owe_call2 rfl (wants_all rfl) rfl (opnd_op 0 39 (by kernel_rfl) rfl) (opnd_op 1 40 (by kernel_rfl) rfl) (fresh_nn _) rfl (fun args w => by go_simp) (fun w u v h1 h2 => g_rmul1 (by omega) w u v ((nn_nv hq1) _ _ h1) (bs_nv _ _ h2))
        · exact owe_move rfl (wants_all rfl) (Or.inl rfl) (opnd_slot 4 0 rfl (by kernel_rfl)) rfl
        · exact owe_move rfl (wants_all rfl) (Or.inl rfl) (opnd_slot 2 6 rfl (by kernel_rfl)) rfl
        · exact owe_two rfl (wants_all rfl) rfl (opnd_op 3 42 (by kernel_rfl) rfl) (opnd_op 4 43 (by kernel_rfl) rfl) rfl (fun ρ w h1 h2 => run_idx ρ _ _ _ w t k0 (by omega) h1 h2)
        · exact owe_bin rfl (wants_all rfl) rfl (opnd_op 5 44 (by kernel_rfl) rfl) (opnd_const _) rfl (fun ρ w h1 h2 => by exact run_sub_u8 ρ _ _ _ w _ _ _ ⟨by omega, by omega, by omega⟩ h1 h2)
        · exact owe_un (x := .tmp 45) rfl (wants_all rfl) rfl (opnd_op 6 45 (by kernel_rfl) rfl) rfl (fun ρ w h1 => by exact run_conv_8_32 ρ _ _ w _ ⟨by omega, by omega⟩ h1)
        · exact owe_bs rfl (wants_all rfl) rfl (opnd_op 7 46 (by kernel_rfl) rfl) (by omega) rfl
        · exact owe_call2 rfl (wants_all rfl) rfl (opnd_op 2 41 (by kernel_rfl) rfl) (opnd_op 8 47 (by kernel_rfl) rfl) (fresh_nn _) rfl (fun args w => by go_simp) (fun w u0 u1 h0 h1 => Gives.cast ((fun w u v h1 h2 => g_radd1 (by omega) (by omega) w u v ((nn_nv hq2) _ _ h1) (bs_nv _ _ h2)) w u0 u1 h0 h1) (by rw [hst]))
        · exact owe_move rfl (wants_all rfl) (Or.inr rfl) (opnd_op 9 48 (by kernel_rfl) rfl) rfl
      intro B9 a9 W9 S9
      replace S9 : Sta w 50 [] [(5, ((NN (decV (t.take (k0 + 1)))) w.heap.size)), (37, (Is (.bool false))), (16, (Is (.bool true))), (6, (Is (.int .i64 k0))), (0, (Is (str t)))] B9 a9 W9 := S9
      refine inBlkN ?_
      refine thenN ?_
      refine wp_stmt [.val (Is (.int .i64 k0)),
      .val (Is (.int .i64 (k0 + 1 : Nat))),
      .val (Is (.int .i64 (k0 + 1 : Nat)))] [] [.inl 2, .inr 0, .inr 1, .inr 2, .inr 4] follows S9 rfl (by kernel_rfl) ?_ ?_
      · refine ⟨⟨⟨trivial, ?_⟩, ?_⟩, ?_⟩
        · exact owe_move rfl (wants_all rfl) (Or.inl rfl) (opnd_slot 3 6 rfl (by kernel_rfl)) rfl
        · exact owe_bin rfl (wants_all rfl) rfl (opnd_op 0 17 (by kernel_rfl) rfl) (opnd_const _) rfl (fun ρ w h1 h2 => by exact run_add_int ρ _ _ _ w _ _ _ ⟨by omega, by omega, by omega⟩ h1 h2)
        · exact owe_move rfl (wants_all rfl) (Or.inr rfl) (opnd_op 1 18 (by kernel_rfl) rfl) rfl
      intro B10 a10 W10 S10
      replace S10 : Sta w 50 [] [(6, (Is (.int .i64 (k0 + 1 : Nat)))), (5, ((NN (decV (t.take (k0 + 1)))) w.heap.size)), (37, (Is (.bool false))), (16, (Is (.bool true))), (0, (Is (str t)))] B10 a10 W10 := S10
      refine thenN ?_
      exact ⟨k0 + 1, ⟨by omega, B10, S10.sub [] [0, 1, 4]⟩, by omega⟩
  · have ek : k0 = j := by omega
    rw [ek] at S6
    refine wp_seq ?_
    refine wp_stmt_seq [.val (Is (.int .i64 (j : Nat))),
      .val (Is (str t)),
      .val (Is (.int .i64 ((t).length : Nat))),
      .val (Is (.bool true))] [] [.inl 3, .inr 0, .inr 1, .inr 2] follows S6 rfl (by kernel_rfl) ?_ ?_
    · refine ⟨⟨⟨⟨trivial, ?_⟩, ?_⟩, ?_⟩, ?_⟩
      · exact owe_move rfl (wants_all rfl) (Or.inl rfl) (opnd_slot 0 6 rfl (by kernel_rfl)) rfl
      · exact owe_move rfl (wants_all rfl) (Or.inl rfl) (opnd_slot 2 0 rfl (by kernel_rfl)) rfl
      · exact owe_un (x := .tmp 14) rfl (wants_all rfl) rfl (opnd_op 1 14 (by kernel_rfl) rfl) rfl (fun ρ w h1 => run_lens ρ _ _ w _ h1)
      · exact owe_bin rfl (wants_all rfl) rfl (opnd_op 0 13 (by kernel_rfl) rfl) (opnd_op 2 15 (by kernel_rfl) rfl) rfl (fun ρ w h1 h2 => by exact run_lss_int_t ρ _ _ _ w _ _ (by omega) h1 h2)
    intro B7 a7 W7 S7
    replace S7 : Sta w 50 [] [(16, (Is (.bool true))), (6, (Is (.int .i64 (j : Nat)))), (5, ((NN (decV (t.take j))) w.heap.size)), (0, (Is (str t)))] B7 a7 W7 := S7
    refine wp_cond_true (S7.bool 0 16 rfl) ?_
    refine wp_skip ?_
    refine thenN ?_
    rcases (show bt t j < 48 ∨ (48 ≤ bt t j ∧ 57 < bt t j) ∨ (48 ≤ bt t j ∧ bt t j ≤ 57 ∧ 0 < j ∧ bt t 0 = 48) from by rcases bad_bt.1 hbd with h | h; have := dgB_no.1 h; omega; omega) with hw1 | ⟨hw1, hw2⟩ | ⟨hw1, hw2, hw3, hw4⟩
    · skip
      refine wp_seq ?_
      refine wp_block ?_
      refine wp_seq ?_
      refine wp_stmt_seq [.val (Is (str t)),
      .val (Is (.int .i64 (j : Nat))),
      .val (Is (.int .u8 ((bt t j : Nat) : Int))),
      .val (Is (.bool true)),
      .val (Is (.bool true)),
      .off,
      .off,
      .off,
      .off,
      .val (Is (.bool true)),
      .val (Is (.bool true)),
      .off,
      .off,
      .val (Is (undef)),
      .off,
      .off,
      .off,
      .off,
      .val (Is (.bool true))] [] [.inl 18, .inr 0, .inr 1, .inr 2, .inr 3] follows S7 rfl (by kernel_rfl) ?_ ?_
      · refine ⟨⟨⟨⟨⟨⟨⟨⟨⟨⟨⟨⟨⟨⟨⟨⟨⟨⟨⟨trivial, ?_⟩, ?_⟩, ?_⟩, ?_⟩, ?_⟩, ?_⟩, ?_⟩, ?_⟩, ?_⟩, ?_⟩, ?_⟩, ?_⟩, ?_⟩, ?_⟩, ?_⟩, ?_⟩, ?_⟩, ?_⟩, ?_⟩
        · exact owe_move rfl (wants_all rfl) (Or.inl rfl) (opnd_slot 3 0 rfl (by kernel_rfl)) rfl
        · exact owe_move rfl (wants_all rfl) (Or.inl rfl) (opnd_slot 1 6 rfl (by kernel_rfl)) rfl
        · exact owe_two rfl (wants_all rfl) rfl (opnd_op 0 19 (by kernel_rfl) rfl) (opnd_op 1 20 (by kernel_rfl) rfl) rfl (fun ρ w h1 h2 => run_idx ρ _ _ _ w t j (by omega) h1 h2)
        · exact owe_bin rfl (wants_all rfl) rfl (opnd_op 2 21 (by kernel_rfl) rfl) (opnd_const _) rfl (fun ρ w h1 h2 => by exact run_lss_u8_t ρ _ _ _ w _ _ (by omega) h1 h2)
        · exact owe_move rfl (wants_all rfl) (Or.inl rfl) (opnd_op 3 22 (by kernel_rfl) rfl) rfl
        · exact owe_off 4 23 rfl rfl rfl (by kernel_rfl) rfl (by decide)
        · exact owe_off 4 23 rfl rfl rfl (by kernel_rfl) rfl (by decide)
        · exact owe_off 4 23 rfl rfl rfl (by kernel_rfl) rfl (by decide)
        · exact owe_off 4 23 rfl rfl rfl (by kernel_rfl) rfl (by decide)
        · exact owe_pick rfl (wants_all rfl) rfl (opnd_op 4 23 (by kernel_rfl) rfl) (fun _ => (opnd_const _)) (fun h => nomatch h) rfl
        · exact owe_move rfl (wants_all rfl) (Or.inl rfl) (opnd_op 9 28 (by kernel_rfl) rfl) rfl
        · exact owe_off 10 29 rfl rfl rfl (by kernel_rfl) rfl (by decide)
        · exact owe_off 10 29 rfl rfl rfl (by kernel_rfl) rfl (by decide)
        · exact owe_offv 10 29 rfl rfl rfl (by kernel_rfl) rfl (by decide)
        · exact owe_offu 13 32 rfl rfl rfl (by kernel_rfl) rfl
        · exact owe_offu 13 32 rfl rfl rfl (by kernel_rfl) rfl
        · exact owe_offu 13 32 rfl rfl rfl (by kernel_rfl) rfl
        · exact owe_off 10 29 rfl rfl rfl (by kernel_rfl) rfl (by decide)
        · exact owe_pick rfl (wants_all rfl) rfl (opnd_op 10 29 (by kernel_rfl) rfl) (fun _ => (opnd_const _)) (fun h => nomatch h) rfl
      intro B8 a8 W8 S8
      replace S8 : Sta w 50 [] [(37, (Is (.bool true))), (16, (Is (.bool true))), (6, (Is (.int .i64 (j : Nat)))), (5, ((NN (decV (t.take j))) w.heap.size)), (0, (Is (str t)))] B8 a8 W8 := S8
      refine wp_cond_true (S8.bool 0 37 rfl) ?_
      refine wp_stmt_seq [.val (Is (.int .i64 (j : Nat))),
      .val (Is (.slice none 0 0)),
      .val (Is (.int .i64 (j : Nat))),
      .val (Is (.int .i64 4))] [] [.inl 1, .inl 2, .inl 3, .inr 0, .inr 1, .inr 2, .inr 3, .inr 4] follows S8 rfl (by kernel_rfl) ?_ ?_
      · refine ⟨⟨⟨⟨trivial, ?_⟩, ?_⟩, ?_⟩, ?_⟩
        · exact owe_move rfl (wants_all rfl) (Or.inl rfl) (opnd_slot 2 6 rfl (by kernel_rfl)) rfl
        · exact owe_move rfl (wants_all rfl) (Or.inr rfl) (opnd_const _) rfl
        · exact owe_move rfl (wants_all rfl) (Or.inr rfl) (opnd_op 0 38 (by kernel_rfl) rfl) rfl
        · exact owe_move rfl (wants_all rfl) (Or.inr rfl) (opnd_const _) rfl
      intro B9 a9 W9 S9
      replace S9 : Sta w 50 [] [(2, (Is (.slice none 0 0))), (3, (Is (.int .i64 (j : Nat)))), (4, (Is (.int .i64 4))), (37, (Is (.bool true))), (16, (Is (.bool true))), (6, (Is (.int .i64 (j : Nat)))), (5, ((NN (decV (t.take j))) w.heap.size)), (0, (Is (str t)))] B9 a9 W9 := S9
      refine wp_ret ?_
      refine thenR ?_
      refine inBlkR ?_
      refine thenR ?_
      refine thenR ?_
      refine inBlkR ?_
      refine thenR ?_
      exact end_three S9 rfl (res_tmp S9 0 2 rfl) (res_tmp S9 1 3 rfl) (res_tmp S9 2 4 rfl)
    · skip
      refine wp_seq ?_
      refine wp_block ?_
      refine wp_seq ?_
      refine wp_stmt_seq [.val (Is (str t)),
      .val (Is (.int .i64 (j : Nat))),
      .val (Is (.int .u8 ((bt t j : Nat) : Int))),
      .val (Is (.bool false)),
      .val (Is (.bool false)),
      .val (Is (str t)),
      .val (Is (.int .i64 (j : Nat))),
      .val (Is (.int .u8 ((bt t j : Nat) : Int))),
      .val (Is (.bool true)),
      .val (Is (.bool true)),
      .val (Is (.bool true)),
      .off,
      .off,
      .val (Is (undef)),
      .off,
      .off,
      .off,
      .off,
      .val (Is (.bool true))] [] [.inl 18, .inr 0, .inr 1, .inr 2, .inr 3] follows S7 rfl (by kernel_rfl) ?_ ?_
      · refine ⟨⟨⟨⟨⟨⟨⟨⟨⟨⟨⟨⟨⟨⟨⟨⟨⟨⟨⟨trivial, ?_⟩, ?_⟩, ?_⟩, ?_⟩, ?_⟩, ?_⟩, ?_⟩, ?_⟩, ?_⟩, ?_⟩, ?_⟩, ?_⟩, ?_⟩, ?_⟩, ?_⟩, ?_⟩, ?_⟩, ?_⟩, ?_⟩
        · exact owe_move rfl (wants_all rfl) (Or.inl rfl) (opnd_slot 3 0 rfl (by kernel_rfl)) rfl
        · exact owe_move rfl (wants_all rfl) (Or.inl rfl) (opnd_slot 1 6 rfl (by kernel_rfl)) rfl
        · exact owe_two rfl (wants_all rfl) rfl (opnd_op 0 19 (by kernel_rfl) rfl) (opnd_op 1 20 (by kernel_rfl) rfl) rfl (fun ρ w h1 h2 => run_idx ρ _ _ _ w t j (by omega) h1 h2)
        · exact owe_bin rfl (wants_all rfl) rfl (opnd_op 2 21 (by kernel_rfl) rfl) (opnd_const _) rfl (fun ρ w h1 h2 => by exact run_lss_u8_f ρ _ _ _ w _ _ (by omega) h1 h2)
        · exact owe_move rfl (wants_all rfl) (Or.inl rfl) (opnd_op 3 22 (by kernel_rfl) rfl) rfl
        · exact owe_move rfl (wants_if 4 23 rfl (by kernel_rfl) rfl) (Or.inl rfl) (opnd_slot 3 0 rfl (by kernel_rfl)) rfl
        · exact owe_move rfl (wants_if 4 23 rfl (by kernel_rfl) rfl) (Or.inl rfl) (opnd_slot 1 6 rfl (by kernel_rfl)) rfl
        · exact owe_two rfl (wants_if 4 23 rfl (by kernel_rfl) rfl) rfl (opnd_op 5 24 (by kernel_rfl) rfl) (opnd_op 6 25 (by kernel_rfl) rfl) rfl (fun ρ w h1 h2 => run_idx ρ _ _ _ w t j (by omega) h1 h2)
        · exact owe_bin rfl (wants_if 4 23 rfl (by kernel_rfl) rfl) rfl (opnd_op 7 26 (by kernel_rfl) rfl) (opnd_const _) rfl (fun ρ w h1 h2 => by exact run_gtr_u8_t ρ _ _ _ w _ _ (by omega) h1 h2)
        · exact owe_pick rfl (wants_all rfl) rfl (opnd_op 4 23 (by kernel_rfl) rfl) (fun h => nomatch h) (fun _ => (opnd_op 8 27 (by kernel_rfl) rfl)) rfl
        · exact owe_move rfl (wants_all rfl) (Or.inl rfl) (opnd_op 9 28 (by kernel_rfl) rfl) rfl
        · exact owe_off 10 29 rfl rfl rfl (by kernel_rfl) rfl (by decide)
        · exact owe_off 10 29 rfl rfl rfl (by kernel_rfl) rfl (by decide)
        · exact owe_offv 10 29 rfl rfl rfl (by kernel_rfl) rfl (by decide)
        · exact owe_offu 13 32 rfl rfl rfl (by kernel_rfl) rfl
        · exact owe_offu 13 32 rfl rfl rfl (by kernel_rfl) rfl
        · exact owe_offu 13 32 rfl rfl rfl (by kernel_rfl) rfl
        · exact owe_off 10 29 rfl rfl rfl (by kernel_rfl) rfl (by decide)
        · exact owe_pick rfl (wants_all rfl) rfl (opnd_op 10 29 (by kernel_rfl) rfl) (fun _ => (opnd_const _)) (fun h => nomatch h) rfl
      intro B8 a8 W8 S8
      replace S8 : Sta w 50 [] [(37, (Is (.bool true))), (16, (Is (.bool true))), (6, (Is (.int .i64 (j : Nat)))), (5, ((NN (decV (t.take j))) w.heap.size)), (0, (Is (str t)))] B8 a8 W8 := S8
      refine wp_cond_true (S8.bool 0 37 rfl) ?_
      refine wp_stmt_seq [.val (Is (.int .i64 (j : Nat))),
      .val (Is (.slice none 0 0)),
      .val (Is (.int .i64 (j : Nat))),
      .val (Is (.int .i64 4))] [] [.inl 1, .inl 2, .inl 3, .inr 0, .inr 1, .inr 2, .inr 3, .inr 4] follows S8 rfl (by kernel_rfl) ?_ ?_
      · refine ⟨⟨⟨⟨trivial, ?_⟩, ?_⟩, ?_⟩, ?_⟩
        · exact owe_move rfl (wants_all rfl) (Or.inl rfl) (opnd_slot 2 6 rfl (by kernel_rfl)) rfl
        · exact owe_move rfl (wants_all rfl) (Or.inr rfl) (opnd_const _) rfl
        · exact owe_move rfl (wants_all rfl) (Or.inr rfl) (opnd_op 0 38 (by kernel_rfl) rfl) rfl
        · exact owe_move rfl (wants_all rfl) (Or.inr rfl) (opnd_const _) rfl
      intro B9 a9 W9 S9
      replace S9 : Sta w 50 [] [(2, (Is (.slice none 0 0))), (3, (Is (.int .i64 (j : Nat)))), (4, (Is (.int .i64 4))), (37, (Is (.bool true))), (16, (Is (.bool true))), (6, (Is (.int .i64 (j : Nat)))), (5, ((NN (decV (t.take j))) w.heap.size)), (0, (Is (str t)))] B9 a9 W9 := S9
      refine wp_ret ?_
      refine thenR ?_
      refine inBlkR ?_
      refine thenR ?_
      refine thenR ?_
      refine inBlkR ?_
      refine thenR ?_
      exact end_three S9 rfl (res_tmp S9 0 2 rfl) (res_tmp S9 1 3 rfl) (res_tmp S9 2 4 rfl)
    · skip
      have hj1 : j = 1 := by
          apply Classical.byContradiction
          intro hne
          exact hg 1 (by omega) (bad_bt.2 (Or.inr ⟨by omega, hw4⟩))
      refine wp_seq ?_
      refine wp_block ?_
      refine wp_seq ?_
      refine wp_stmt_seq [.val (Is (str t)),
      .val (Is (.int .i64 (j : Nat))),
      .val (Is (.int .u8 ((bt t j : Nat) : Int))),
      .val (Is (.bool false)),
      .val (Is (.bool false)),
      .val (Is (str t)),
      .val (Is (.int .i64 (j : Nat))),
      .val (Is (.int .u8 ((bt t j : Nat) : Int))),
      .val (Is (.bool false)),
      .val (Is (.bool false)),
      .val (Is (.bool false)),
      .val (Is (.int .i64 (j : Nat))),
      .val (Is (.bool true)),
      .val (Is (.bool true)),
      .val (Is (str t)),
      .val (Is (.int .u8 ((bt t 0 : Nat) : Int))),
      .val (Is (.bool true)),
      .val (Is (.bool true)),
      .val (Is (.bool true))] [] [.inl 18, .inr 0, .inr 1, .inr 2, .inr 3] follows S7 rfl (by kernel_rfl) ?_ ?_
      · refine ⟨⟨⟨⟨⟨⟨⟨⟨⟨⟨⟨⟨⟨⟨⟨⟨⟨⟨⟨trivial, ?_⟩, ?_⟩, ?_⟩, ?_⟩, ?_⟩, ?_⟩, ?_⟩, ?_⟩, ?_⟩, ?_⟩, ?_⟩, ?_⟩, ?_⟩, ?_⟩, ?_⟩, ?_⟩, ?_⟩, ?_⟩, ?_⟩
        · exact owe_move rfl (wants_all rfl) (Or.inl rfl) (opnd_slot 3 0 rfl (by kernel_rfl)) rfl
        · exact owe_move rfl (wants_all rfl) (Or.inl rfl) (opnd_slot 1 6 rfl (by kernel_rfl)) rfl
        · exact owe_two rfl (wants_all rfl) rfl (opnd_op 0 19 (by kernel_rfl) rfl) (opnd_op 1 20 (by kernel_rfl) rfl) rfl (fun ρ w h1 h2 => run_idx ρ _ _ _ w t j (by omega) h1 h2)
        · exact owe_bin rfl (wants_all rfl) rfl (opnd_op 2 21 (by kernel_rfl) rfl) (opnd_const _) rfl (fun ρ w h1 h2 => by exact run_lss_u8_f ρ _ _ _ w _ _ (by omega) h1 h2)
        · exact owe_move rfl (wants_all rfl) (Or.inl rfl) (opnd_op 3 22 (by kernel_rfl) rfl) rfl
        · exact owe_move rfl (wants_if 4 23 rfl (by kernel_rfl) rfl) (Or.inl rfl) (opnd_slot 3 0 rfl (by kernel_rfl)) rfl
        · exact owe_move rfl (wants_if 4 23 rfl (by kernel_rfl) rfl) (Or.inl rfl) (opnd_slot 1 6 rfl (by kernel_rfl)) rfl
        · exact owe_two rfl (wants_if 4 23 rfl (by kernel_rfl) rfl) rfl (opnd_op 5 24 (by kernel_rfl) rfl) (opnd_op 6 25 (by kernel_rfl) rfl) rfl (fun ρ w h1 h2 => run_idx ρ _ _ _ w t j (by omega) h1 h2)
        · exact owe_bin rfl (wants_if 4 23 rfl (by kernel_rfl) rfl) rfl (opnd_op 7 26 (by kernel_rfl) rfl) (opnd_const _) rfl (fun ρ w h1 h2 => by exact run_gtr_u8_f ρ _ _ _ w _ _ (by omega) h1 h2)
        · exact owe_pick rfl (wants_all rfl) rfl (opnd_op 4 23 (by kernel_rfl) rfl) (fun h => nomatch h) (fun _ => (opnd_op 8 27 (by kernel_rfl) rfl)) rfl
        · exact owe_move rfl (wants_all rfl) (Or.inl rfl) (opnd_op 9 28 (by kernel_rfl) rfl) rfl
        · exact owe_move rfl (wants_if 10 29 rfl (by kernel_rfl) rfl) (Or.inl rfl) (opnd_slot 1 6 rfl (by kernel_rfl)) rfl
        · exact owe_bin rfl (wants_if 10 29 rfl (by kernel_rfl) rfl) rfl (opnd_op 11 30 (by kernel_rfl) rfl) (opnd_const _) rfl (fun ρ w h1 h2 => by exact run_eql_int_t ρ _ _ _ w _ _ (by omega) h1 h2)
        · exact owe_move rfl (wants_if 10 29 rfl (by kernel_rfl) rfl) (Or.inl rfl) (opnd_op 12 31 (by kernel_rfl) rfl) rfl
        · exact owe_move rfl (wants_if 13 32 rfl (by kernel_rfl) rfl) (Or.inl rfl) (opnd_slot 3 0 rfl (by kernel_rfl)) rfl
        · exact owe_two rfl (wants_if 13 32 rfl (by kernel_rfl) rfl) rfl (opnd_op 14 33 (by kernel_rfl) rfl) (opnd_const _) rfl (fun ρ w h1 h2 => run_idx ρ _ _ _ w t 0 (by omega) h1 h2)
        · exact owe_bin rfl (wants_if 13 32 rfl (by kernel_rfl) rfl) rfl (opnd_op 15 34 (by kernel_rfl) rfl) (opnd_const _) rfl (fun ρ w h1 h2 => by exact run_eql_u8_t ρ _ _ _ w _ _ (by omega) h1 h2)
        · exact owe_pick rfl (wants_if 10 29 rfl (by kernel_rfl) rfl) rfl (opnd_op 13 32 (by kernel_rfl) rfl) (fun _ => (opnd_op 16 35 (by kernel_rfl) rfl)) (fun h => nomatch h) rfl
        · exact owe_pick rfl (wants_all rfl) rfl (opnd_op 10 29 (by kernel_rfl) rfl) (fun h => nomatch h) (fun _ => (opnd_op 17 36 (by kernel_rfl) rfl)) rfl
      intro B8 a8 W8 S8
      replace S8 : Sta w 50 [] [(37, (Is (.bool true))), (16, (Is (.bool true))), (6, (Is (.int .i64 (j : Nat)))), (5, ((NN (decV (t.take j))) w.heap.size)), (0, (Is (str t)))] B8 a8 W8 := S8
      refine wp_cond_true (S8.bool 0 37 rfl) ?_
      refine wp_stmt_seq [.val (Is (.int .i64 (j : Nat))),
      .val (Is (.slice none 0 0)),
      .val (Is (.int .i64 (j : Nat))),
      .val (Is (.int .i64 4))] [] [.inl 1, .inl 2, .inl 3, .inr 0, .inr 1, .inr 2, .inr 3, .inr 4] follows S8 rfl (by kernel_rfl) ?_ ?_
      · refine ⟨⟨⟨⟨trivial, ?_⟩, ?_⟩, ?_⟩, ?_⟩
        · exact owe_move rfl (wants_all rfl) (Or.inl rfl) (opnd_slot 2 6 rfl (by kernel_rfl)) rfl
        · exact owe_move rfl (wants_all rfl) (Or.inr rfl) (opnd_const _) rfl
        · exact owe_move rfl (wants_all rfl) (Or.inr rfl) (opnd_op 0 38 (by kernel_rfl) rfl) rfl
        · exact owe_move rfl (wants_all rfl) (Or.inr rfl) (opnd_const _) rfl
      intro B9 a9 W9 S9
      replace S9 : Sta w 50 [] [(2, (Is (.slice none 0 0))), (3, (Is (.int .i64 (j : Nat)))), (4, (Is (.int .i64 4))), (37, (Is (.bool true))), (16, (Is (.bool true))), (6, (Is (.int .i64 (j : Nat)))), (5, ((NN (decV (t.take j))) w.heap.size)), (0, (Is (str t)))] B9 a9 W9 := S9
      refine wp_ret ?_
      refine thenR ?_
      refine inBlkR ?_
      refine thenR ?_
      refine thenR ?_
      refine inBlkR ?_
      refine thenR ?_
      exact end_three S9 rfl (res_tmp S9 0 2 rfl) (res_tmp S9 1 3 rfl) (res_tmp S9 2 4 rfl)

set_option maxHeartbeats 2000000 in
theorem rr_good (w : World) (t : List UInt8) (hl : t.length ≤ 65536) (hp : 0 < t.length) (hg : ∀ i, i < t.length → ¬ bad t i) :
    Calls Tryd.prog 30 #[str t] w (Gives (THREE (NN (decV t)) (IS (.int .i64 0)) (IS (.int .i64 0))) w) := by
  refine calls_sta (sl := [(0, (Is (str t)))]) Tryd.func30 rfl Tryd.ntmps30 (by simp) (args_cons rfl (is_has _) args_nil) ?_
  intro a0 S0
  refine wp_stmt_seq [.val (Is (.slice none 0 0)),
      .val (Is (.int .i64 0)),
      .val (Is (.int .i64 0))] [] [.inl 0, .inl 1, .inl 2, .inr 0] follows S0 rfl (by kernel_rfl) ?_ ?_
  · refine ⟨⟨⟨trivial, ?_⟩, ?_⟩, ?_⟩
    · exact owe_move rfl (wants_all rfl) (Or.inr rfl) (opnd_const _) rfl
    · exact owe_move rfl (wants_all rfl) (Or.inr rfl) (opnd_const _) rfl
    · exact owe_move rfl (wants_all rfl) (Or.inr rfl) (opnd_const _) rfl
  intro B1 a1 W1 S1
  replace S1 : Sta w 50 [] [(2, (Is (.slice none 0 0))), (3, (Is (.int .i64 0))), (4, (Is (.int .i64 0))), (0, (Is (str t)))] B1 a1 W1 := S1
  refine wp_seq ?_
  refine wp_stmt_seq [.val (Is (str t)),
      .val (Is (.int .i64 ((t).length : Nat))),
      .val (Is (.bool false))] [] [.inl 2, .inr 0, .inr 1, .inr 2, .inr 3] follows S1 rfl (by kernel_rfl) ?_ ?_
  · refine ⟨⟨⟨trivial, ?_⟩, ?_⟩, ?_⟩
    · exact owe_move rfl (wants_all rfl) (Or.inl rfl) (opnd_slot 3 0 rfl (by kernel_rfl)) rfl
    · exact owe_un (x := .tmp 7) rfl (wants_all rfl) rfl (opnd_op 0 7 (by kernel_rfl) rfl) rfl (fun ρ w h1 => run_lens ρ _ _ w _ h1)
    · exact owe_bin rfl (wants_all rfl) rfl (opnd_op 1 8 (by kernel_rfl) rfl) (opnd_const _) rfl (fun ρ w h1 h2 => by exact run_gtr_int_f ρ _ _ _ w _ _ (by omega) h1 h2)
  intro B2 a2 W2 S2
  replace S2 : Sta w 50 [] [(9, (Is (.bool false))), (2, (Is (.slice none 0 0))), (3, (Is (.int .i64 0))), (4, (Is (.int .i64 0))), (0, (Is (str t)))] B2 a2 W2 := S2
  refine wp_cond_false (S2.bool 0 9 rfl) ?_
  refine wp_skip ?_
  refine thenN ?_
  refine wp_seq ?_
  refine wp_stmt_seq [.val (Is (str t)),
      .val (Is (.int .i64 ((t).length : Nat))),
      .val (Is (.bool false))] [] [.inl 2, .inr 0, .inr 1, .inr 2, .inr 3, .inr 4] follows S2 rfl (by kernel_rfl) ?_ ?_
  · refine ⟨⟨⟨trivial, ?_⟩, ?_⟩, ?_⟩
    · exact owe_move rfl (wants_all rfl) (Or.inl rfl) (opnd_slot 4 0 rfl (by kernel_rfl)) rfl
    · exact owe_un (x := .tmp 10) rfl (wants_all rfl) rfl (opnd_op 0 10 (by kernel_rfl) rfl) rfl (fun ρ w h1 => run_lens ρ _ _ w _ h1)
    · exact owe_bin rfl (wants_all rfl) rfl (opnd_op 1 11 (by kernel_rfl) rfl) (opnd_const _) rfl (fun ρ w h1 h2 => by exact run_eql_int_f ρ _ _ _ w _ _ (by omega) h1 h2)
  intro B3 a3 W3 S3
  replace S3 : Sta w 50 [] [(12, (Is (.bool false))), (9, (Is (.bool false))), (2, (Is (.slice none 0 0))), (3, (Is (.int .i64 0))), (4, (Is (.int .i64 0))), (0, (Is (str t)))] B3 a3 W3 := S3
  refine wp_cond_false (S3.bool 0 12 rfl) ?_
  refine wp_skip ?_
  refine thenN ?_
  refine wp_stmt_seq [.val (Is (.slice none 0 0))] [] [.inl 0, .inr 0, .inr 1, .inr 2, .inr 3, .inr 4, .inr 5] follows S3 rfl (by kernel_rfl) ?_ ?_
  · refine ⟨trivial, ?_⟩
    · exact owe_move rfl (wants_all rfl) (Or.inr rfl) (opnd_const _) rfl
  intro B4 a4 W4 S4
  replace S4 : Sta w 50 [] [(5, (Is (.slice none 0 0))), (12, (Is (.bool false))), (9, (Is (.bool false))), (2, (Is (.slice none 0 0))), (3, (Is (.int .i64 0))), (4, (Is (.int .i64 0))), (0, (Is (str t)))] B4 a4 W4 := S4
  refine wp_seq ?_
  refine wp_stmt_seq [.val (Is (.int .i64 0))] [] [.inl 0, .inr 0, .inr 1, .inr 2, .inr 3, .inr 4, .inr 5, .inr 6] follows S4 rfl (by kernel_rfl) ?_ ?_
  · refine ⟨trivial, ?_⟩
    · exact owe_move rfl (wants_all rfl) (Or.inr rfl) (opnd_const _) rfl
  intro B5 a5 W5 S5
  replace S5 : Sta w 50 [] [(6, (Is (.int .i64 0))), (5, (Is (.slice none 0 0))), (12, (Is (.bool false))), (9, (Is (.bool false))), (2, (Is (.slice none 0 0))), (3, (Is (.int .i64 0))), (4, (Is (.int .i64 0))), (0, (Is (str t)))] B5 a5 W5 := S5
  refine wp_block ?_
  replace S5 : Sta w 50 [] [(6, (Is (.int .i64 0))), (5, ((NN (decV (t.take 0))) w.heap.size)), (12, (Is (.bool false))), (9, (Is (.bool false))), (2, (Is (.slice none 0 0))), (3, (Is (.int .i64 0))), (4, (Is (.int .i64 0))), (0, (Is (str t)))] B5 a5 W5 := S5.change 1 rfl (fun v w h => zero_nn v w h)
  refine wp_loop_ghost (fun (k0 : Nat) a W => (k0 ≤ t.length) ∧ ∃ Bq, Sta w 50 [] [(6, (Is (.int .i64 k0))), (5, ((NN (decV (t.take k0))) w.heap.size)), (0, (Is (str t)))] Bq a W) (fun (k0 : Nat) => t.length - k0) ?_ 0 ⟨Nat.zero_le _, B5, S5.sub [] [0, 1, 7]⟩
  rintro k0 a6 W6 ⟨hcond, B6, S6⟩
  by_cases hlt : k0 < t.length
  · have hk := good_bt.1 (hg k0 (by omega))
    have hb := dgB_iff.1 hk.1
    have hst : (decV (t.take k0)) * 10 + (bt t k0 - 48 : Nat) = decV (t.take (k0 + 1)) := by rw [decV_step (by omega) hk.1, Nat.mul_comm]
    have hq1 : (digs (decV (t.take k0))).length ≤ 65536 := good_dl (fun i hi => hg i (by omega)) (by omega) (by omega)
    have hq2 : (digs ((decV (t.take k0)) * 10)).length ≤ 65537 := Nat.le_trans (digs_mul_len hq1 (digs_length_le (k := 1) (by omega))) (by omega)
    have hbl := bt_lt t k0
    refine wp_seq ?_
    refine wp_stmt_seq [.val (Is (.int .i64 k0)),
      .val (Is (str t)),
      .val (Is (.int .i64 ((t).length : Nat))),
      .val (Is (.bool true))] [] [.inl 3, .inr 0, .inr 1, .inr 2] follows S6 rfl (by kernel_rfl) ?_ ?_
    · refine ⟨⟨⟨⟨trivial, ?_⟩, ?_⟩, ?_⟩, ?_⟩
      · exact owe_move rfl (wants_all rfl) (Or.inl rfl) (opnd_slot 0 6 rfl (by kernel_rfl)) rfl
      · exact owe_move rfl (wants_all rfl) (Or.inl rfl) (opnd_slot 2 0 rfl (by kernel_rfl)) rfl
      · exact owe_un (x := .tmp 14) rfl (wants_all rfl) rfl (opnd_op 1 14 (by kernel_rfl) rfl) rfl (fun ρ w h1 => run_lens ρ _ _ w _ h1)
      · exact owe_bin rfl (wants_all rfl) rfl (opnd_op 0 13 (by kernel_rfl) rfl) (opnd_op 2 15 (by kernel_rfl) rfl) rfl (fun ρ w h1 h2 => by exact run_lss_int_t ρ _ _ _ w _ _ (by omega) h1 h2)
    intro B7 a7 W7 S7
    replace S7 : Sta w 50 [] [(16, (Is (.bool true))), (6, (Is (.int .i64 k0))), (5, ((NN (decV (t.take k0))) w.heap.size)), (0, (Is (str t)))] B7 a7 W7 := S7
    refine wp_cond_true (S7.bool 0 16 rfl) ?_
    refine wp_skip ?_
    refine thenN ?_
    by_cases hk1 : k0 = 1
    · skip
      have h48 : bt t 0 ≠ 48 := fun h => hk.2 ⟨by omega, h⟩
      refine wp_seq ?_
      refine wp_block ?_
      refine wp_seq ?_
      refine wp_stmt_seq [.val (Is (str t)),
      .val (Is (.int .i64 k0)),
      .val (Is (.int .u8 ((bt t k0 : Nat) : Int))),
      .val (Is (.bool false)),
      .val (Is (.bool false)),
      .val (Is (str t)),
      .val (Is (.int .i64 k0)),
      .val (Is (.int .u8 ((bt t k0 : Nat) : Int))),
      .val (Is (.bool false)),
      .val (Is (.bool false)),
      .val (Is (.bool false)),
      .val (Is (.int .i64 k0)),
      .val (Is (.bool true)),
      .val (Is (.bool true)),
      .val (Is (str t)),
      .val (Is (.int .u8 ((bt t 0 : Nat) : Int))),
      .val (Is (.bool false)),
      .val (Is (.bool false)),
      .val (Is (.bool false))] [] [.inl 18, .inr 0, .inr 1, .inr 2, .inr 3] follows S7 rfl (by kernel_rfl) ?_ ?_
      · refine ⟨⟨⟨⟨⟨⟨⟨⟨⟨⟨⟨⟨⟨⟨⟨⟨⟨⟨⟨trivial, ?_⟩, ?_⟩, ?_⟩, ?_⟩, ?_⟩, ?_⟩, ?_⟩, ?_⟩, ?_⟩, ?_⟩, ?_⟩, ?_⟩, ?_⟩, ?_⟩, ?_⟩, ?_⟩, ?_⟩, ?_⟩, ?_⟩
        · exact owe_move rfl (wants_all rfl) (Or.inl rfl) (opnd_slot 3 0 rfl (by kernel_rfl)) rfl
        · exact owe_move rfl (wants_all rfl) (Or.inl rfl) (opnd_slot 1 6 rfl (by kernel_rfl)) rfl
        · exact owe_two rfl (wants_all rfl) rfl (opnd_op 0 19 (by kernel_rfl) rfl) (opnd_op 1 20 (by kernel_rfl) rfl) rfl (fun ρ w h1 h2 => run_idx ρ _ _ _ w t k0 (by omega) h1 h2)
        · exact owe_bin rfl (wants_all rfl) rfl (opnd_op 2 21 (by kernel_rfl) rfl) (opnd_const _) rfl (fun ρ w h1 h2 => by exact run_lss_u8_f ρ _ _ _ w _ _ (by omega) h1 h2)
        · exact owe_move rfl (wants_all rfl) (Or.inl rfl) (opnd_op 3 22 (by kernel_rfl) rfl) rfl
        · exact owe_move rfl (wants_if 4 23 rfl (by kernel_rfl) rfl) (Or.inl rfl) (opnd_slot 3 0 rfl (by kernel_rfl)) rfl
        · exact owe_move rfl (wants_if 4 23 rfl (by kernel_rfl) rfl) (Or.inl rfl) (opnd_slot 1 6 rfl (by kernel_rfl)) rfl
        · exact owe_two rfl (wants_if 4 23 rfl (by kernel_rfl) rfl) rfl (opnd_op 5 24 (by kernel_rfl) rfl) (opnd_op 6 25 (by kernel_rfl) rfl) rfl (fun ρ w h1 h2 => run_idx ρ _ _ _ w t k0 (by omega) h1 h2)
        · exact owe_bin rfl (wants_if 4 23 rfl (by kernel_rfl) rfl) rfl (opnd_op 7 26 (by kernel_rfl) rfl) (opnd_const _) rfl (fun ρ w h1 h2 => by exact run_gtr_u8_f ρ _ _ _ w _ _ (by omega) h1 h2)
        · exact owe_pick rfl (wants_all rfl) rfl (opnd_op 4 23 (by kernel_rfl) rfl) (fun h => nomatch h) (fun _ => (opnd_op 8 27 (by kernel_rfl) rfl)) rfl
        · exact owe_move rfl (wants_all rfl) (Or.inl rfl) (opnd_op 9 28 (by kernel_rfl) rfl) rfl
        · exact owe_move rfl (wants_if 10 29 rfl (by kernel_rfl) rfl) (Or.inl rfl) (opnd_slot 1 6 rfl (by kernel_rfl)) rfl
        · exact owe_bin rfl (wants_if 10 29 rfl (by kernel_rfl) rfl) rfl (opnd_op 11 30 (by kernel_rfl) rfl) (opnd_const _) rfl (fun ρ w h1 h2 => by exact run_eql_int_t ρ _ _ _ w _ _ (by omega) h1 h2)
        · exact owe_move rfl (wants_if 10 29 rfl (by kernel_rfl) rfl) (Or.inl rfl) (opnd_op 12 31 (by kernel_rfl) rfl) rfl
        · exact owe_move rfl (wants_if 13 32 rfl (by kernel_rfl) rfl) (Or.inl rfl) (opnd_slot 3 0 rfl (by kernel_rfl)) rfl
        · exact owe_two rfl (wants_if 13 32 rfl (by kernel_rfl) rfl) rfl (opnd_op 14 33 (by kernel_rfl) rfl) (opnd_const _) rfl (fun ρ w h1 h2 => run_idx ρ _ _ _ w t 0 (by omega) h1 h2)
        · exact owe_bin rfl (wants_if 13 32 rfl (by kernel_rfl) rfl) rfl (opnd_op 15 34 (by kernel_rfl) rfl) (opnd_const _) rfl (fun ρ w h1 h2 => by exact run_eql_u8_f ρ _ _ _ w _ _ (by omega) h1 h2)
        · exact owe_pick rfl (wants_if 10 29 rfl (by kernel_rfl) rfl) rfl (opnd_op 13 32 (by kernel_rfl) rfl) (fun _ => (opnd_op 16 35 (by kernel_rfl) rfl)) (fun h => nomatch h) rfl
        · exact owe_pick rfl (wants_all rfl) rfl (opnd_op 10 29 (by kernel_rfl) rfl) (fun h => nomatch h) (fun _ => (opnd_op 17 36 (by kernel_rfl) rfl)) rfl
      intro B8 a8 W8 S8
      replace S8 : Sta w 50 [] [(37, (Is (.bool false))), (16, (Is (.bool true))), (6, (Is (.int .i64 k0))), (5, ((NN (decV (t.take k0))) w.heap.size)), (0, (Is (str t)))] B8 a8 W8 := S8
      refine wp_cond_false (S8.bool 0 37 rfl) ?_
      refine wp_skip ?_
      refine thenN ?_
      refine wp_stmt [.val ((NN (decV (t.take k0))) w.heap.size),
      .val ((BS 10) w.heap.size),
      .val ((NN ((decV (t.take k0)) * 10)) w.heap.size),
      .val (Is (str t)),
      .val (Is (.int .i64 k0)),
      .val (Is (.int .u8 ((bt t k0 : Nat) : Int))),
      .val (Is (.int .u8 ((bt t k0 - 48 : Nat) : Int))),
      .val (Is (.int .u32 (bt t k0 - 48 : Nat))),
      .val ((BS (bt t k0 - 48 : Nat)) w.heap.size),
      .val ((NN (decV (t.take (k0 + 1)))) w.heap.size),
      .val ((NN (decV (t.take (k0 + 1)))) w.heap.size)] [] [.inl 10, .inr 0, .inr 1, .inr 2, .inr 4] follows S8 rfl (by kernel_rfl) ?_ ?_
      · refine ⟨⟨⟨⟨⟨⟨⟨⟨⟨⟨⟨trivial, ?_⟩, ?_⟩, ?_⟩, ?_⟩, ?_⟩, ?_⟩, ?_⟩, ?_⟩, ?_⟩, ?_⟩, ?_⟩
        · exact owe_move rfl (wants_all rfl) (Or.inl rfl) (opnd_slot 3 5 rfl (by kernel_rfl)) rfl
        · exact owe_bs rfl (wants_all rfl) rfl (opnd_const _) (by decide) rfl
        · exact owe_call2 rfl (wants_all rfl) rfl (opnd_op 0 39 (by kernel_rfl) rfl) (opnd_op 1 40 (by kernel_rfl) rfl) (fresh_nn _) rfl (fun args w => by go_simp) (fun w u v h1 h2 => g_rmul1 (by omega) w u v ((nn_nv hq1) _ _ h1) (bs_nv _ _ h2))
        · exact owe_move rfl (wants_all rfl) (Or.inl rfl) (opnd_slot 4 0 rfl (by kernel_rfl)) rfl
        · exact owe_move rfl (wants_all rfl) (Or.inl rfl) (opnd_slot 2 6 rfl (by kernel_rfl)) rfl
        · exact owe_two rfl (wants_all rfl) rfl (opnd_op 3 42 (by kernel_rfl) rfl) (opnd_op 4 43 (by kernel_rfl) rfl) rfl (fun ρ w h1 h2 => run_idx ρ _ _ _ w t k0 (by omega) h1 h2)
        · exact owe_bin rfl (wants_all rfl) rfl (opnd_op 5 44 (by kernel_rfl) rfl) (opnd_const _) rfl (fun ρ w h1 h2 => by exact run_sub_u8 ρ _ _ _ w _ _ _ ⟨by omega, by omega, by omega⟩ h1 h2)
        · exact owe_un (x := .tmp 45) rfl (wants_all rfl) rfl (opnd_op 6 45 (by kernel_rfl) rfl) rfl (fun ρ w h1 => by exact run_conv_8_32 ρ _ _ w _ ⟨by omega, by omega⟩ h1)
        · exact owe_bs rfl (wants_all rfl) rfl (opnd_op 7 46 (by kernel_rfl) rfl) (by omega) rfl
        · exact owe_call2 rfl (wants_all rfl) rfl (opnd_op 2 41 (by kernel_rfl) rfl) (opnd_op 8 47 (by kernel_rfl) rfl) (fresh_nn _) rfl (fun args w => by go_simp) (fun w u0 u1 h0 h1 => Gives.cast ((fun w u v h1 h2 => g_radd1 (by omega) (by omega) w u v ((nn_nv hq2) _ _ h1) (bs_nv _ _ h2)) w u0 u1 h0 h1) (by rw [hst]))
        · exact owe_move rfl (wants_all rfl) (Or.inr rfl) (opnd_op 9 48 (by kernel_rfl) rfl) rfl
      intro B9 a9 W9 S9
      replace S9 : Sta w 50 [] [(5, ((NN (decV (t.take (k0 + 1)))) w.heap.size)), (37, (Is (.bool false))), (16, (Is (.bool true))), (6, (Is (.int .i64 k0))), (0, (Is (str t)))] B9 a9 W9 := S9
      refine inBlkN ?_
      refine thenN ?_
      refine wp_stmt [.val (Is (.int .i64 k0)),
      .val (Is (.int .i64 (k0 + 1 : Nat))),
      .val (Is (.int .i64 (k0 + 1 : Nat)))] [] [.inl 2, .inr 0, .inr 1, .inr 2, .inr 4] follows S9 rfl (by kernel_rfl) ?_ ?_
      · refine ⟨⟨⟨trivial, ?_⟩, ?_⟩, ?_⟩
        · exact owe_move rfl (wants_all rfl) (Or.inl rfl) (opnd_slot 3 6 rfl (by kernel_rfl)) rfl
        · exact owe_bin rfl (wants_all rfl) rfl (opnd_op 0 17 (by kernel_rfl) rfl) (opnd_const _) rfl (fun ρ w h1 h2 => by exact run_add_int ρ _ _ _ w _ _ _ ⟨by omega, by omega, by omega⟩ h1 h2)
        · exact owe_move rfl (wants_all rfl) (Or.inr rfl) (opnd_op 1 18 (by kernel_rfl) rfl) rfl
      intro B10 a10 W10 S10
      replace S10 : Sta w 50 [] [(6, (Is (.int .i64 (k0 + 1 : Nat)))), (5, ((NN (decV (t.take (k0 + 1)))) w.heap.size)), (37, (Is (.bool false))), (16, (Is (.bool true))), (0, (Is (str t)))] B10 a10 W10 := S10
      refine thenN ?_
      exact ⟨k0 + 1, ⟨by omega, B10, S10.sub [] [0, 1, 4]⟩, by omega⟩
    · skip
      refine wp_seq ?_
      refine wp_block ?_
      refine wp_seq ?_
      refine wp_stmt_seq [.val (Is (str t)),
      .val (Is (.int .i64 k0)),
      .val (Is (.int .u8 ((bt t k0 : Nat) : Int))),
      .val (Is (.bool false)),
      .val (Is (.bool false)),
      .val (Is (str t)),
      .val (Is (.int .i64 k0)),
      .val (Is (.int .u8 ((bt t k0 : Nat) : Int))),
      .val (Is (.bool false)),
      .val (Is (.bool false)),
      .val (Is (.bool false)),
      .val (Is (.int .i64 k0)),
      .val (Is (.bool false)),
      .val (Is (.bool false)),
      .off,
      .off,
      .off,
      .val (Is (.bool false)),
      .val (Is (.bool false))] [] [.inl 18, .inr 0, .inr 1, .inr 2, .inr 3] follows S7 rfl (by kernel_rfl) ?_ ?_
      · refine ⟨⟨⟨⟨⟨⟨⟨⟨⟨⟨⟨⟨⟨⟨⟨⟨⟨⟨⟨trivial, ?_⟩, ?_⟩, ?_⟩, ?_⟩, ?_⟩, ?_⟩, ?_⟩, ?_⟩, ?_⟩, ?_⟩, ?_⟩, ?_⟩, ?_⟩, ?_⟩, ?_⟩, ?_⟩, ?_⟩, ?_⟩, ?_⟩
        · exact owe_move rfl (wants_all rfl) (Or.inl rfl) (opnd_slot 3 0 rfl (by kernel_rfl)) rfl
        · exact owe_move rfl (wants_all rfl) (Or.inl rfl) (opnd_slot 1 6 rfl (by kernel_rfl)) rfl
        · exact owe_two rfl (wants_all rfl) rfl (opnd_op 0 19 (by kernel_rfl) rfl) (opnd_op 1 20 (by kernel_rfl) rfl) rfl (fun ρ w h1 h2 => run_idx ρ _ _ _ w t k0 (by omega) h1 h2)
        · exact owe_bin rfl (wants_all rfl) rfl (opnd_op 2 21 (by kernel_rfl) rfl) (opnd_const _) rfl (fun ρ w h1 h2 => by exact run_lss_u8_f ρ _ _ _ w _ _ (by omega) h1 h2)
        · exact owe_move rfl (wants_all rfl) (Or.inl rfl) (opnd_op 3 22 (by kernel_rfl) rfl) rfl
        · exact owe_move rfl (wants_if 4 23 rfl (by kernel_rfl) rfl) (Or.inl rfl) (opnd_slot 3 0 rfl (by kernel_rfl)) rfl
        · exact owe_move rfl (wants_if 4 23 rfl (by kernel_rfl) rfl) (Or.inl rfl) (opnd_slot 1 6 rfl (by kernel_rfl)) rfl
        · exact owe_two rfl (wants_if 4 23 rfl (by kernel_rfl) rfl) rfl (opnd_op 5 24 (by kernel_rfl) rfl) (opnd_op 6 25 (by kernel_rfl) rfl) rfl (fun ρ w h1 h2 => run_idx ρ _ _ _ w t k0 (by omega) h1 h2)
        · exact owe_bin rfl (wants_if 4 23 rfl (by kernel_rfl) rfl) rfl (opnd_op 7 26 (by kernel_rfl) rfl) (opnd_const _) rfl (fun ρ w h1 h2 => by exact run_gtr_u8_f ρ _ _ _ w _ _ (by omega) h1 h2)
        · exact owe_pick rfl (wants_all rfl) rfl (opnd_op 4 23 (by kernel_rfl) rfl) (fun h => nomatch h) (fun _ => (opnd_op 8 27 (by kernel_rfl) rfl)) rfl
        · exact owe_move rfl (wants_all rfl) (Or.inl rfl) (opnd_op 9 28 (by kernel_rfl) rfl) rfl
        · exact owe_move rfl (wants_if 10 29 rfl (by kernel_rfl) rfl) (Or.inl rfl) (opnd_slot 1 6 rfl (by kernel_rfl)) rfl
        · exact owe_bin rfl (wants_if 10 29 rfl (by kernel_rfl) rfl) rfl (opnd_op 11 30 (by kernel_rfl) rfl) (opnd_const _) rfl (fun ρ w h1 h2 => by exact run_eql_int_f ρ _ _ _ w _ _ (by omega) h1 h2)
        · exact owe_move rfl (wants_if 10 29 rfl (by kernel_rfl) rfl) (Or.inl rfl) (opnd_op 12 31 (by kernel_rfl) rfl) rfl
        · exact owe_off 13 32 rfl rfl rfl (by kernel_rfl) rfl (by decide)
        · exact owe_off 13 32 rfl rfl rfl (by kernel_rfl) rfl (by decide)
        · exact owe_off 13 32 rfl rfl rfl (by kernel_rfl) rfl (by decide)
        · exact owe_pick rfl (wants_if 10 29 rfl (by kernel_rfl) rfl) rfl (opnd_op 13 32 (by kernel_rfl) rfl) (fun h => nomatch h) (fun _ => (opnd_const _)) rfl
        · exact owe_pick rfl (wants_all rfl) rfl (opnd_op 10 29 (by kernel_rfl) rfl) (fun h => nomatch h) (fun _ => (opnd_op 17 36 (by kernel_rfl) rfl)) rfl
      intro B8 a8 W8 S8
      replace S8 : Sta w 50 [] [(37, (Is (.bool false))), (16, (Is (.bool true))), (6, (Is (.int .i64 k0))), (5, ((NN (decV (t.take k0))) w.heap.size)), (0, (Is (str t)))] B8 a8 W8 := S8
      refine wp_cond_false (S8.bool 0 37 rfl) ?_
      refine wp_skip ?_
      refine thenN ?_
      refine wp_stmt [.val ((NN (decV (t.take k0))) w.heap.size),
      .val ((BS 10) w.heap.size),
      .val ((NN ((decV (t.take k0)) * 10)) w.heap.size),
      .val (Is (str t)),
      .val (Is (.int .i64 k0)),
      .val (Is (.int .u8 ((bt t k0 : Nat) : Int))),
      .val (Is (.int .u8 ((bt t k0 - 48 : Nat) : Int))),
      .val (Is (.int .u32 (bt t k0 - 48 : Nat))),
      .val ((BS (bt t k0 - 48 : Nat)) w.heap.size),
      .val ((NN (decV (t.take (k0 + 1)))) w.heap.size),
      .val ((NN (decV (t.take (k0 + 1)))) w.heap.size)] [] [.inl 10, .inr 0, .inr 1, .inr 2, .inr 4] follows S8 rfl (by kernel_rfl) ?_ ?_
      · refine ⟨⟨⟨⟨⟨⟨⟨⟨⟨⟨⟨trivial, ?_⟩, ?_⟩, ?_⟩, ?_⟩, ?_⟩, ?_⟩, ?_⟩, ?_⟩, ?_⟩, ?_⟩, ?_⟩
        · exact owe_move rfl (wants_all rfl) (Or.inl rfl) (opnd_slot 3 5 rfl (by kernel_rfl)) rfl
        · exact owe_bs rfl (wants_all rfl) rfl (opnd_const _) (by decide) rfl
        · exact owe_call2 rfl (wants_all rfl) rfl (opnd_op 0 39 (by kernel_rfl) rfl) (opnd_op 1 40 (by kernel_rfl) rfl) (fresh_nn _) rfl (fun args w => by go_simp) (fun w u v h1 h2 => g_rmul1 (by omega) w u v ((nn_nv hq1) _ _ h1) (bs_nv _ _ h2))
        · exact owe_move rfl (wants_all rfl) (Or.inl rfl) (opnd_slot 4 0 rfl (by kernel_rfl)) rfl
        · exact owe_move rfl (wants_all rfl) (Or.inl rfl) (opnd_slot 2 6 rfl (by kernel_rfl)) rfl
        · exact owe_two rfl (wants_all rfl) rfl (opnd_op 3 42 (by kernel_rfl) rfl) (opnd_op 4 43 (by kernel_rfl) rfl) rfl (fun ρ w h1 h2 => run_idx ρ _ _ _ w t k0 (by omega) h1 h2)
        · exact owe_bin rfl (wants_all rfl) rfl (opnd_op 5 44 (by kernel_rfl) rfl) (opnd_const _) rfl (fun ρ w h1 h2 => by exact run_sub_u8 ρ _ _ _ w _ _ _ ⟨by omega, by omega, by omega⟩ h1 h2)
        · exact owe_un (x := .tmp 45) rfl (wants_all rfl) rfl (opnd_op 6 45 (by kernel_rfl) rfl) rfl (fun ρ w h1 => by exact run_conv_8_32 ρ _ _ w _ ⟨by omega, by omega⟩ h1)
        · exact owe_bs rfl (wants_all rfl) rfl (opnd_op 7 46 (by kernel_rfl) rfl) (by omega) rfl
        · exact owe_call2 rfl (wants_all rfl) rfl (opnd_op 2 41 (by kernel_rfl) rfl) (opnd_op 8 47 (by kernel_rfl) rfl) (fresh_nn _) rfl (fun args w => by go_simp) (fun w u0 u1 h0 h1 => Gives.cast ((fun w u v h1 h2 => g_radd1 (by omega) (by omega) w u v ((nn_nv hq2) _ _ h1) (bs_nv _ _ h2)) w u0 u1 h0 h1) (by rw [hst]))
        · exact owe_move rfl (wants_all rfl) (Or.inr rfl) (opnd_op 9 48 (by kernel_rfl) rfl) rfl
      intro B9 a9 W9 S9
      replace S9 : Sta w 50 [] [(5, ((NN (decV (t.take (k0 + 1)))) w.heap.size)), (37, (Is (.bool false))), (16, (Is (.bool true))), (6, (Is (.int .i64 k0))), (0, (Is (str t)))] B9 a9 W9 := S9
      refine inBlkN ?_
      refine thenN ?_
      refine wp_stmt [.val (Is (.int .i64 k0)),
      .val (Is (.int .i64 (k0 + 1 : Nat))),
      .val (Is (.int .i64 (k0 + 1 : Nat)))] [] [.inl 2, .inr 0, .inr 1, .inr 2, .inr 4] follows S9 rfl (by kernel_rfl) ?_ ?_
      · refine ⟨⟨⟨trivial, ?_⟩, ?_⟩, ?_⟩
        · exact owe_move rfl (wants_all rfl) (Or.inl rfl) (opnd_slot 3 6 rfl (by kernel_rfl)) rfl
        · exact owe_bin rfl (wants_all rfl) rfl (opnd_op 0 17 (by kernel_rfl) rfl) (opnd_const _) rfl (fun ρ w h1 h2 => by exact run_add_int ρ _ _ _ w _ _ _ ⟨by omega, by omega, by omega⟩ h1 h2)
        · exact owe_move rfl (wants_all rfl) (Or.inr rfl) (opnd_op 1 18 (by kernel_rfl) rfl) rfl
      intro B10 a10 W10 S10
      replace S10 : Sta w 50 [] [(6, (Is (.int .i64 (k0 + 1 : Nat)))), (5, ((NN (decV (t.take (k0 + 1)))) w.heap.size)), (37, (Is (.bool false))), (16, (Is (.bool true))), (0, (Is (str t)))] B10 a10 W10 := S10
      refine thenN ?_
      exact ⟨k0 + 1, ⟨by omega, B10, S10.sub [] [0, 1, 4]⟩, by omega⟩
  · have hend : t.take k0 = t := List.take_of_length_le (by omega)
    rw [hend] at S6
    refine wp_seq ?_
    refine wp_stmt_seq [.val (Is (.int .i64 k0)),
      .val (Is (str t)),
      .val (Is (.int .i64 ((t).length : Nat))),
      .val (Is (.bool false))] [] [.inl 3, .inr 0, .inr 1, .inr 2] follows S6 rfl (by kernel_rfl) ?_ ?_
    · refine ⟨⟨⟨⟨trivial, ?_⟩, ?_⟩, ?_⟩, ?_⟩
      · exact owe_move rfl (wants_all rfl) (Or.inl rfl) (opnd_slot 0 6 rfl (by kernel_rfl)) rfl
      · exact owe_move rfl (wants_all rfl) (Or.inl rfl) (opnd_slot 2 0 rfl (by kernel_rfl)) rfl
      · exact owe_un (x := .tmp 14) rfl (wants_all rfl) rfl (opnd_op 1 14 (by kernel_rfl) rfl) rfl (fun ρ w h1 => run_lens ρ _ _ w _ h1)
      · exact owe_bin rfl (wants_all rfl) rfl (opnd_op 0 13 (by kernel_rfl) rfl) (opnd_op 2 15 (by kernel_rfl) rfl) rfl (fun ρ w h1 h2 => by exact run_lss_int_f ρ _ _ _ w _ _ (by omega) h1 h2)
    intro B7 a7 W7 S7
    replace S7 : Sta w 50 [] [(16, (Is (.bool false))), (6, (Is (.int .i64 k0))), (5, ((NN (decV t)) w.heap.size)), (0, (Is (str t)))] B7 a7 W7 := S7
    refine wp_cond_false (S7.bool 0 16 rfl) ?_
    refine wp_exit ?_
    refine thenX ?_
    refine thenX ?_
    refine inBlkE ?_
    refine thenN ?_
    refine wp_stmt_seq [.val ((NN (decV t)) w.heap.size),
      .val ((NN (decV t)) w.heap.size),
      .val (Is (.int .i64 0)),
      .val (Is (.int .i64 0))] [] [.inl 1, .inl 2, .inl 3, .inr 0, .inr 1, .inr 2, .inr 3] follows S7 rfl (by kernel_rfl) ?_ ?_
    · refine ⟨⟨⟨⟨trivial, ?_⟩, ?_⟩, ?_⟩, ?_⟩
      · exact owe_move rfl (wants_all rfl) (Or.inl rfl) (opnd_slot 2 5 rfl (by kernel_rfl)) rfl
      · exact owe_move rfl (wants_all rfl) (Or.inr rfl) (opnd_op 0 49 (by kernel_rfl) rfl) rfl
      · exact owe_move rfl (wants_all rfl) (Or.inr rfl) (opnd_const _) rfl
      · exact owe_move rfl (wants_all rfl) (Or.inr rfl) (opnd_const _) rfl
    intro B8 a8 W8 S8
    replace S8 : Sta w 50 [] [(2, ((NN (decV t)) w.heap.size)), (3, (Is (.int .i64 0))), (4, (Is (.int .i64 0))), (16, (Is (.bool false))), (6, (Is (.int .i64 k0))), (5, ((NN (decV t)) w.heap.size)), (0, (Is (str t)))] B8 a8 W8 := S8
    refine wp_ret ?_
    exact end_three S8 rfl (res_tmp S8 0 2 rfl) (res_tmp S8 1 3 rfl) (res_tmp S8 2 4 rfl)

set_option maxHeartbeats 1000000 in
theorem rz_long (w : World) (l : List UInt8) (h : 65536 < l.length) :
    Calls Tryd.prog 9 #[str l] w (Gives (THREE (IS (.agg #[.bool false, .slice none 0 0])) (IS (.int .i64 0)) (IS (.int .i64 2))) w) := by
  refine calls_sta (sl := [(0, (Is (str l)))]) Tryd.func9 rfl Tryd.ntmps9 (by simp) (args_cons rfl (is_has _) args_nil) ?_
  intro a0 S0
  refine wp_stmt_seq [.new (.box 24 (Is (.agg #[.bool false, .slice none 0 0]))),
      .val (Is (.int .i64 0)),
      .val (Is (.int .i64 0))] [.inl 0] [.inl 1, .inl 2, .inr 0] follows S0 rfl (by kernel_rfl) ?_ ?_
  · refine ⟨⟨⟨trivial, ?_⟩, ?_⟩, ?_⟩
    · exact owe_new rfl (wants_all rfl) rfl rfl (fun ρ w => alloc_int ρ _ w)
    · exact owe_move rfl (wants_all rfl) (Or.inr rfl) (opnd_const _) rfl
    · exact owe_move rfl (wants_all rfl) (Or.inr rfl) (opnd_const _) rfl
  intro B1 a1 W1 S1
  replace S1 : Sta w 52 [(2, (.box 24 (Is (.agg #[.bool false, .slice none 0 0]))))] [(3, (Is (.int .i64 0))), (4, (Is (.int .i64 0))), (0, (Is (str l)))] B1 a1 W1 := S1
  refine wp_seq ?_
  refine wp_stmt_seq [.val (Is (str l)),
      .val (Is (.int .i64 ((l).length : Nat))),
      .val (Is (.bool true))] [.inr 0] [.inl 2, .inr 0, .inr 1, .inr 2] follows S1 rfl (by kernel_rfl) ?_ ?_
  · refine ⟨⟨⟨trivial, ?_⟩, ?_⟩, ?_⟩
    · exact owe_move rfl (wants_all rfl) (Or.inl rfl) (opnd_slot 2 0 rfl (by kernel_rfl)) rfl
    · exact owe_un (x := .tmp 9) rfl (wants_all rfl) rfl (opnd_op 0 9 (by kernel_rfl) rfl) rfl (fun ρ w h1 => run_lens ρ _ _ w _ h1)
    · exact owe_bin rfl (wants_all rfl) rfl (opnd_op 1 10 (by kernel_rfl) rfl) (opnd_const _) rfl (fun ρ w h1 h2 => by exact run_gtr_int_t ρ _ _ _ w _ _ (by omega) h1 h2)
  intro B2 a2 W2 S2
  replace S2 : Sta w 52 [(2, (.box 24 (Is (.agg #[.bool false, .slice none 0 0]))))] [(11, (Is (.bool true))), (3, (Is (.int .i64 0))), (4, (Is (.int .i64 0))), (0, (Is (str l)))] B2 a2 W2 := S2
  refine wp_cond_true (S2.bool 0 11 rfl) ?_
  refine wp_stmt_seq [.val (Is (.agg #[.bool false, .slice none 0 0])),
      .put (.inl 2) (.box 24 (Is (.agg #[.bool false, .slice none 0 0]))),
      .val (Is (.int .i64 0)),
      .val (Is (.int .i64 2))] [.inr 0] [.inl 2, .inl 3, .inr 0, .inr 3] follows S2 rfl (by kernel_rfl) ?_ ?_
  · refine ⟨⟨⟨⟨trivial, ?_⟩, ?_⟩, ?_⟩, ?_⟩
    · exact owe_build_int rfl (wants_all rfl) rfl rfl
    · exact owe_set rfl (wants_all rfl) rfl (k := 0) rfl (by kernel_rfl) (opnd_op 0 12 (by kernel_rfl) rfl) (stores_of strct_int shp_z0 shp_z0) rfl
    · exact owe_move rfl (wants_all rfl) (Or.inr rfl) (opnd_const _) rfl
    · exact owe_move rfl (wants_all rfl) (Or.inr rfl) (opnd_const _) rfl
  intro B3 a3 W3 S3
  replace S3 : Sta w 52 [(2, (.box 24 (Is (.agg #[.bool false, .slice none 0 0]))))] [(3, (Is (.int .i64 0))), (4, (Is (.int .i64 2))), (11, (Is (.bool true))), (0, (Is (str l)))] B3 a3 W3 := S3
  refine wp_ret ?_
  refine thenR ?_
  exact end_three S3 rfl (res_cell S3 0 2 rfl strct_int shp_z0) (res_tmp S3 0 3 rfl) (res_tmp S3 1 4 rfl)

set_option maxHeartbeats 1000000 in
theorem rz_n1 (w : World) (l : List UInt8) (hl : l.length ≤ 65536) (hp : 1 < l.length) (h45 : bt l 0 = 45) (h48 : bt l 1 = 48) :
    Calls Tryd.prog 9 #[str l] w (Gives (THREE (IS (.agg #[.bool false, .slice none 0 0])) (IS (.int .i64 1)) (IS (.int .i64 4))) w) := by
  refine calls_sta (sl := [(0, (Is (str l)))]) Tryd.func9 rfl Tryd.ntmps9 (by simp) (args_cons rfl (is_has _) args_nil) ?_
  intro a0 S0
  refine wp_stmt_seq [.new (.box 24 (Is (.agg #[.bool false, .slice none 0 0]))),
      .val (Is (.int .i64 0)),
      .val (Is (.int .i64 0))] [.inl 0] [.inl 1, .inl 2, .inr 0] follows S0 rfl (by kernel_rfl) ?_ ?_
  · refine ⟨⟨⟨trivial, ?_⟩, ?_⟩, ?_⟩
    · exact owe_new rfl (wants_all rfl) rfl rfl (fun ρ w => alloc_int ρ _ w)
    · exact owe_move rfl (wants_all rfl) (Or.inr rfl) (opnd_const _) rfl
    · exact owe_move rfl (wants_all rfl) (Or.inr rfl) (opnd_const _) rfl
  intro B1 a1 W1 S1
  replace S1 : Sta w 52 [(2, (.box 24 (Is (.agg #[.bool false, .slice none 0 0]))))] [(3, (Is (.int .i64 0))), (4, (Is (.int .i64 0))), (0, (Is (str l)))] B1 a1 W1 := S1
  refine wp_seq ?_
  refine wp_stmt_seq [.val (Is (str l)),
      .val (Is (.int .i64 ((l).length : Nat))),
      .val (Is (.bool false))] [.inr 0] [.inl 2, .inr 0, .inr 1, .inr 2] follows S1 rfl (by kernel_rfl) ?_ ?_
  · refine ⟨⟨⟨trivial, ?_⟩, ?_⟩, ?_⟩
    · exact owe_move rfl (wants_all rfl) (Or.inl rfl) (opnd_slot 2 0 rfl (by kernel_rfl)) rfl
    · exact owe_un (x := .tmp 9) rfl (wants_all rfl) rfl (opnd_op 0 9 (by kernel_rfl) rfl) rfl (fun ρ w h1 => run_lens ρ _ _ w _ h1)
    · exact owe_bin rfl (wants_all rfl) rfl (opnd_op 1 10 (by kernel_rfl) rfl) (opnd_const _) rfl (fun ρ w h1 h2 => by exact run_gtr_int_f ρ _ _ _ w _ _ (by omega) h1 h2)
  intro B2 a2 W2 S2
  replace S2 : Sta w 52 [(2, (.box 24 (Is (.agg #[.bool false, .slice none 0 0]))))] [(11, (Is (.bool false))), (3, (Is (.int .i64 0))), (4, (Is (.int .i64 0))), (0, (Is (str l)))] B2 a2 W2 := S2
  refine wp_cond_false (S2.bool 0 11 rfl) ?_
  refine wp_skip ?_
  refine thenN ?_
  refine wp_stmt_seq [.val (Is (.int .i64 0))] [.inr 0] [.inl 0, .inr 0, .inr 1, .inr 2, .inr 3] follows S2 rfl (by kernel_rfl) ?_ ?_
  · refine ⟨trivial, ?_⟩
    · exact owe_move rfl (wants_all rfl) (Or.inr rfl) (opnd_const _) rfl
  intro B3 a3 W3 S3
  replace S3 : Sta w 52 [(2, (.box 24 (Is (.agg #[.bool false, .slice none 0 0]))))] [(5, (Is (.int .i64 0))), (11, (Is (.bool false))), (3, (Is (.int .i64 0))), (4, (Is (.int .i64 0))), (0, (Is (str l)))] B3 a3 W3 := S3
  refine wp_seq ?_
  refine wp_stmt_seq [.val (Is (str l)),
      .val (Is (.int .i64 ((l).length : Nat))),
      .val (Is (.bool true)),
      .val (Is (.bool true)),
      .val (Is (str l)),
      .val (Is (.int .u8 ((bt l 0 : Nat) : Int))),
      .val (Is (.bool true)),
      .val (Is (.bool true))] [.inr 0] [.inl 7, .inr 0, .inr 1, .inr 2, .inr 3, .inr 4] follows S3 rfl (by kernel_rfl) ?_ ?_
  · refine ⟨⟨⟨⟨⟨⟨⟨⟨trivial, ?_⟩, ?_⟩, ?_⟩, ?_⟩, ?_⟩, ?_⟩, ?_⟩, ?_⟩
    · exact owe_move rfl (wants_all rfl) (Or.inl rfl) (opnd_slot 4 0 rfl (by kernel_rfl)) rfl
    · exact owe_un (x := .tmp 13) rfl (wants_all rfl) rfl (opnd_op 0 13 (by kernel_rfl) rfl) rfl (fun ρ w h1 => run_lens ρ _ _ w _ h1)
    · exact owe_bin rfl (wants_all rfl) rfl (opnd_op 1 14 (by kernel_rfl) rfl) (opnd_const _) rfl (fun ρ w h1 h2 => by exact run_gtr_int_t ρ _ _ _ w _ _ (by omega) h1 h2)
    · exact owe_move rfl (wants_all rfl) (Or.inl rfl) (opnd_op 2 15 (by kernel_rfl) rfl) rfl
    · exact owe_move rfl (wants_if 3 16 rfl (by kernel_rfl) rfl) (Or.inl rfl) (opnd_slot 4 0 rfl (by kernel_rfl)) rfl
    · exact owe_two rfl (wants_if 3 16 rfl (by kernel_rfl) rfl) rfl (opnd_op 4 17 (by kernel_rfl) rfl) (opnd_const _) rfl (fun ρ w h1 h2 => run_idx ρ _ _ _ w l 0 (by omega) h1 h2)
    · exact owe_bin rfl (wants_if 3 16 rfl (by kernel_rfl) rfl) rfl (opnd_op 5 18 (by kernel_rfl) rfl) (opnd_const _) rfl (fun ρ w h1 h2 => by exact run_eql_u8_t ρ _ _ _ w _ _ (by omega) h1 h2)
    · exact owe_pick rfl (wants_all rfl) rfl (opnd_op 3 16 (by kernel_rfl) rfl) (fun _ => (opnd_op 6 19 (by kernel_rfl) rfl)) (fun h => nomatch h) rfl
  intro B4 a4 W4 S4
  replace S4 : Sta w 52 [(2, (.box 24 (Is (.agg #[.bool false, .slice none 0 0]))))] [(20, (Is (.bool true))), (5, (Is (.int .i64 0))), (11, (Is (.bool false))), (3, (Is (.int .i64 0))), (4, (Is (.int .i64 0))), (0, (Is (str l)))] B4 a4 W4 := S4
  refine wp_cond_true (S4.bool 0 20 rfl) ?_
  refine wp_stmt [.val (Is (.int .i64 1))] [.inr 0] [.inl 0, .inr 0, .inr 2, .inr 3, .inr 4, .inr 5] follows S4 rfl (by kernel_rfl) ?_ ?_
  · refine ⟨trivial, ?_⟩
    · exact owe_move rfl (wants_all rfl) (Or.inr rfl) (opnd_const _) rfl
  intro B5 a5 W5 S5
  replace S5 : Sta w 52 [(2, (.box 24 (Is (.agg #[.bool false, .slice none 0 0]))))] [(5, (Is (.int .i64 1))), (20, (Is (.bool true))), (11, (Is (.bool false))), (3, (Is (.int .i64 0))), (4, (Is (.int .i64 0))), (0, (Is (str l)))] B5 a5 W5 := S5
  refine thenN ?_
  refine wp_seq ?_
  refine wp_stmt_seq [.val (Is (.int .i64 1)),
      .val (Is (.bool true)),
      .val (Is (.bool true)),
      .val (Is (str l)),
      .val (Is (.int .i64 ((l).length : Nat))),
      .val (Is (.bool true)),
      .val (Is (.bool true)),
      .val (Is (.bool true)),
      .val (Is (str l)),
      .val (Is (.int .u8 ((bt l 1 : Nat) : Int))),
      .val (Is (.bool true)),
      .val (Is (.bool true))] [.inr 0] [.inl 11, .inr 0, .inr 1, .inr 2, .inr 3, .inr 4, .inr 5] follows S5 rfl (by kernel_rfl) ?_ ?_
  · refine ⟨⟨⟨⟨⟨⟨⟨⟨⟨⟨⟨⟨trivial, ?_⟩, ?_⟩, ?_⟩, ?_⟩, ?_⟩, ?_⟩, ?_⟩, ?_⟩, ?_⟩, ?_⟩, ?_⟩, ?_⟩
    · exact owe_move rfl (wants_all rfl) (Or.inl rfl) (opnd_slot 0 5 rfl (by kernel_rfl)) rfl
    · exact owe_bin rfl (wants_all rfl) rfl (opnd_op 0 21 (by kernel_rfl) rfl) (opnd_const _) rfl (fun ρ w h1 h2 => by exact run_eql_int_t ρ _ _ _ w _ _ rfl h1 h2)
    · exact owe_move rfl (wants_all rfl) (Or.inl rfl) (opnd_op 1 22 (by kernel_rfl) rfl) rfl
    · exact owe_move rfl (wants_if 2 23 rfl (by kernel_rfl) rfl) (Or.inl rfl) (opnd_slot 5 0 rfl (by kernel_rfl)) rfl
    · exact owe_un (x := .tmp 24) rfl (wants_if 2 23 rfl (by kernel_rfl) rfl) rfl (opnd_op 3 24 (by kernel_rfl) rfl) rfl (fun ρ w h1 => run_lens ρ _ _ w _ h1)
    · exact owe_bin rfl (wants_if 2 23 rfl (by kernel_rfl) rfl) rfl (opnd_op 4 25 (by kernel_rfl) rfl) (opnd_const _) rfl (fun ρ w h1 h2 => by exact run_gtr_int_t ρ _ _ _ w _ _ (by omega) h1 h2)
    · exact owe_pick rfl (wants_all rfl) rfl (opnd_op 2 23 (by kernel_rfl) rfl) (fun _ => (opnd_op 5 26 (by kernel_rfl) rfl)) (fun h => nomatch h) rfl
    · exact owe_move rfl (wants_all rfl) (Or.inl rfl) (opnd_op 6 27 (by kernel_rfl) rfl) rfl
    · exact owe_move rfl (wants_if 7 28 rfl (by kernel_rfl) rfl) (Or.inl rfl) (opnd_slot 5 0 rfl (by kernel_rfl)) rfl
    · exact owe_two rfl (wants_if 7 28 rfl (by kernel_rfl) rfl) rfl (opnd_op 8 29 (by kernel_rfl) rfl) (opnd_const _) rfl (fun ρ w h1 h2 => run_idx ρ _ _ _ w l 1 (by omega) h1 h2)
    · exact owe_bin rfl (wants_if 7 28 rfl (by kernel_rfl) rfl) rfl (opnd_op 9 30 (by kernel_rfl) rfl) (opnd_const _) rfl (fun ρ w h1 h2 => by exact run_eql_u8_t ρ _ _ _ w _ _ (by omega) h1 h2)
    · exact owe_pick rfl (wants_all rfl) rfl (opnd_op 7 28 (by kernel_rfl) rfl) (fun _ => (opnd_op 10 31 (by kernel_rfl) rfl)) (fun h => nomatch h) rfl
  intro B6 a6 W6 S6
  replace S6 : Sta w 52 [(2, (.box 24 (Is (.agg #[.bool false, .slice none 0 0]))))] [(32, (Is (.bool true))), (5, (Is (.int .i64 1))), (20, (Is (.bool true))), (11, (Is (.bool false))), (3, (Is (.int .i64 0))), (4, (Is (.int .i64 0))), (0, (Is (str l)))] B6 a6 W6 := S6
  refine wp_cond_true (S6.bool 0 32 rfl) ?_
  refine wp_stmt_seq [.val (Is (.agg #[.bool false, .slice none 0 0])),
      .put (.inl 2) (.box 24 (Is (.agg #[.bool false, .slice none 0 0]))),
      .val (Is (.int .i64 1)),
      .val (Is (.int .i64 4))] [.inr 0] [.inl 2, .inl 3, .inr 0, .inr 1, .inr 2, .inr 3, .inr 6] follows S6 rfl (by kernel_rfl) ?_ ?_
  · refine ⟨⟨⟨⟨trivial, ?_⟩, ?_⟩, ?_⟩, ?_⟩
    · exact owe_build_int rfl (wants_all rfl) rfl rfl
    · exact owe_set rfl (wants_all rfl) rfl (k := 0) rfl (by kernel_rfl) (opnd_op 0 33 (by kernel_rfl) rfl) (stores_of strct_int shp_z0 shp_z0) rfl
    · exact owe_move rfl (wants_all rfl) (Or.inr rfl) (opnd_const _) rfl
    · exact owe_move rfl (wants_all rfl) (Or.inr rfl) (opnd_const _) rfl
  intro B7 a7 W7 S7
  replace S7 : Sta w 52 [(2, (.box 24 (Is (.agg #[.bool false, .slice none 0 0]))))] [(3, (Is (.int .i64 1))), (4, (Is (.int .i64 4))), (32, (Is (.bool true))), (5, (Is (.int .i64 1))), (20, (Is (.bool true))), (11, (Is (.bool false))), (0, (Is (str l)))] B7 a7 W7 := S7
  refine wp_ret ?_
  refine thenR ?_
  exact end_three S7 rfl (res_cell S7 0 2 rfl strct_int shp_z0) (res_tmp S7 0 3 rfl) (res_tmp S7 1 4 rfl)

set_option maxHeartbeats 1000000 in
theorem rz_n2 (w : World) (l : List UInt8) (j : Nat) (hl : l.length ≤ 65536) (hj : j + 1 < l.length) (h45 : bt l 0 = 45) (h48 : bt l 1 ≠ 48) (hb : bad (l.drop 1) j) (hf : ∀ i, i < j → ¬ bad (l.drop 1) i) :
    Calls Tryd.prog 9 #[str l] w (Gives (THREE (IS (.agg #[.bool false, .slice none 0 0])) (IS (.int .i64 ((j + 1 : Nat) : Int))) (IS (.int .i64 4))) w) := by
  refine calls_sta (sl := [(0, (Is (str l)))]) Tryd.func9 rfl Tryd.ntmps9 (by simp) (args_cons rfl (is_has _) args_nil) ?_
  intro a0 S0
  refine wp_stmt_seq [.new (.box 24 (Is (.agg #[.bool false, .slice none 0 0]))),
      .val (Is (.int .i64 0)),
      .val (Is (.int .i64 0))] [.inl 0] [.inl 1, .inl 2, .inr 0] follows S0 rfl (by kernel_rfl) ?_ ?_
  · refine ⟨⟨⟨trivial, ?_⟩, ?_⟩, ?_⟩
    · exact owe_new rfl (wants_all rfl) rfl rfl (fun ρ w => alloc_int ρ _ w)
    · exact owe_move rfl (wants_all rfl) (Or.inr rfl) (opnd_const _) rfl
    · exact owe_move rfl (wants_all rfl) (Or.inr rfl) (opnd_const _) rfl
  intro B1 a1 W1 S1
  replace S1 : Sta w 52 [(2, (.box 24 (Is (.agg #[.bool false, .slice none 0 0]))))] [(3, (Is (.int .i64 0))), (4, (Is (.int .i64 0))), (0, (Is (str l)))] B1 a1 W1 := S1
  refine wp_seq ?_
  refine wp_stmt_seq [.val (Is (str l)),
      .val (Is (.int .i64 ((l).length : Nat))),
      .val (Is (.bool false))] [.inr 0] [.inl 2, .inr 0, .inr 1, .inr 2] follows S1 rfl (by kernel_rfl) ?_ ?_
  · refine ⟨⟨⟨trivial, ?_⟩, ?_⟩, ?_⟩
    · exact owe_move rfl (wants_all rfl) (Or.inl rfl) (opnd_slot 2 0 rfl (by kernel_rfl)) rfl
    · exact owe_un (x := .tmp 9) rfl (wants_all rfl) rfl (opnd_op 0 9 (by kernel_rfl) rfl) rfl (fun ρ w h1 => run_lens ρ _ _ w _ h1)
    · exact owe_bin rfl (wants_all rfl) rfl (opnd_op 1 10 (by kernel_rfl) rfl) (opnd_const _) rfl (fun ρ w h1 h2 => by exact run_gtr_int_f ρ _ _ _ w _ _ (by omega) h1 h2)
  intro B2 a2 W2 S2
  replace S2 : Sta w 52 [(2, (.box 24 (Is (.agg #[.bool false, .slice none 0 0]))))] [(11, (Is (.bool false))), (3, (Is (.int .i64 0))), (4, (Is (.int .i64 0))), (0, (Is (str l)))] B2 a2 W2 := S2
  refine wp_cond_false (S2.bool 0 11 rfl) ?_
  refine wp_skip ?_
  refine thenN ?_
  refine wp_stmt_seq [.val (Is (.int .i64 0))] [.inr 0] [.inl 0, .inr 0, .inr 1, .inr 2, .inr 3] follows S2 rfl (by kernel_rfl) ?_ ?_
  · refine ⟨trivial, ?_⟩
    · exact owe_move rfl (wants_all rfl) (Or.inr rfl) (opnd_const _) rfl
  intro B3 a3 W3 S3
  replace S3 : Sta w 52 [(2, (.box 24 (Is (.agg #[.bool false, .slice none 0 0]))))] [(5, (Is (.int .i64 0))), (11, (Is (.bool false))), (3, (Is (.int .i64 0))), (4, (Is (.int .i64 0))), (0, (Is (str l)))] B3 a3 W3 := S3
  refine wp_seq ?_
  refine wp_stmt_seq [.val (Is (str l)),
      .val (Is (.int .i64 ((l).length : Nat))),
      .val (Is (.bool true)),
      .val (Is (.bool true)),
      .val (Is (str l)),
      .val (Is (.int .u8 ((bt l 0 : Nat) : Int))),
      .val (Is (.bool true)),
      .val (Is (.bool true))] [.inr 0] [.inl 7, .inr 0, .inr 1, .inr 2, .inr 3, .inr 4] follows S3 rfl (by kernel_rfl) ?_ ?_
  · refine ⟨⟨⟨⟨⟨⟨⟨⟨trivial, ?_⟩, ?_⟩, ?_⟩, ?_⟩, ?_⟩, ?_⟩, ?_⟩, ?_⟩
    · exact owe_move rfl (wants_all rfl) (Or.inl rfl) (opnd_slot 4 0 rfl (by kernel_rfl)) rfl
    · exact owe_un (x := .tmp 13) rfl (wants_all rfl) rfl (opnd_op 0 13 (by kernel_rfl) rfl) rfl (fun ρ w h1 => run_lens ρ _ _ w _ h1)
    · exact owe_bin rfl (wants_all rfl) rfl (opnd_op 1 14 (by kernel_rfl) rfl) (opnd_const _) rfl (fun ρ w h1 h2 => by exact run_gtr_int_t ρ _ _ _ w _ _ (by omega) h1 h2)
    · exact owe_move rfl (wants_all rfl) (Or.inl rfl) (opnd_op 2 15 (by kernel_rfl) rfl) rfl
    · exact owe_move rfl (wants_if 3 16 rfl (by kernel_rfl) rfl) (Or.inl rfl) (opnd_slot 4 0 rfl (by kernel_rfl)) rfl
    · exact owe_two rfl (wants_if 3 16 rfl (by kernel_rfl) rfl) rfl (opnd_op 4 17 (by kernel_rfl) rfl) (opnd_const _) rfl (fun ρ w h1 h2 => run_idx ρ _ _ _ w l 0 (by omega) h1 h2)
    · exact owe_bin rfl (wants_if 3 16 rfl (by kernel_rfl) rfl) rfl (opnd_op 5 18 (by kernel_rfl) rfl) (opnd_const _) rfl (fun ρ w h1 h2 => by exact run_eql_u8_t ρ _ _ _ w _ _ (by omega) h1 h2)
    · exact owe_pick rfl (wants_all rfl) rfl (opnd_op 3 16 (by kernel_rfl) rfl) (fun _ => (opnd_op 6 19 (by kernel_rfl) rfl)) (fun h => nomatch h) rfl
  intro B4 a4 W4 S4
  replace S4 : Sta w 52 [(2, (.box 24 (Is (.agg #[.bool false, .slice none 0 0]))))] [(20, (Is (.bool true))), (5, (Is (.int .i64 0))), (11, (Is (.bool false))), (3, (Is (.int .i64 0))), (4, (Is (.int .i64 0))), (0, (Is (str l)))] B4 a4 W4 := S4
  refine wp_cond_true (S4.bool 0 20 rfl) ?_
  refine wp_stmt [.val (Is (.int .i64 1))] [.inr 0] [.inl 0, .inr 0, .inr 2, .inr 3, .inr 4, .inr 5] follows S4 rfl (by kernel_rfl) ?_ ?_
  · refine ⟨trivial, ?_⟩
    · exact owe_move rfl (wants_all rfl) (Or.inr rfl) (opnd_const _) rfl
  intro B5 a5 W5 S5
  replace S5 : Sta w 52 [(2, (.box 24 (Is (.agg #[.bool false, .slice none 0 0]))))] [(5, (Is (.int .i64 1))), (20, (Is (.bool true))), (11, (Is (.bool false))), (3, (Is (.int .i64 0))), (4, (Is (.int .i64 0))), (0, (Is (str l)))] B5 a5 W5 := S5
  refine thenN ?_
  refine wp_seq ?_
  refine wp_stmt_seq [.val (Is (.int .i64 1)),
      .val (Is (.bool true)),
      .val (Is (.bool true)),
      .val (Is (str l)),
      .val (Is (.int .i64 ((l).length : Nat))),
      .val (Is (.bool true)),
      .val (Is (.bool true)),
      .val (Is (.bool true)),
      .val (Is (str l)),
      .val (Is (.int .u8 ((bt l 1 : Nat) : Int))),
      .val (Is (.bool false)),
      .val (Is (.bool false))] [.inr 0] [.inl 11, .inr 0, .inr 1, .inr 2, .inr 3, .inr 4, .inr 5] follows S5 rfl (by kernel_rfl) ?_ ?_
  · refine ⟨⟨⟨⟨⟨⟨⟨⟨⟨⟨⟨⟨trivial, ?_⟩, ?_⟩, ?_⟩, ?_⟩, ?_⟩, ?_⟩, ?_⟩, ?_⟩, ?_⟩, ?_⟩, ?_⟩, ?_⟩
    · exact owe_move rfl (wants_all rfl) (Or.inl rfl) (opnd_slot 0 5 rfl (by kernel_rfl)) rfl
    · exact owe_bin rfl (wants_all rfl) rfl (opnd_op 0 21 (by kernel_rfl) rfl) (opnd_const _) rfl (fun ρ w h1 h2 => by exact run_eql_int_t ρ _ _ _ w _ _ rfl h1 h2)
    · exact owe_move rfl (wants_all rfl) (Or.inl rfl) (opnd_op 1 22 (by kernel_rfl) rfl) rfl
    · exact owe_move rfl (wants_if 2 23 rfl (by kernel_rfl) rfl) (Or.inl rfl) (opnd_slot 5 0 rfl (by kernel_rfl)) rfl
    · exact owe_un (x := .tmp 24) rfl (wants_if 2 23 rfl (by kernel_rfl) rfl) rfl (opnd_op 3 24 (by kernel_rfl) rfl) rfl (fun ρ w h1 => run_lens ρ _ _ w _ h1)
    · exact owe_bin rfl (wants_if 2 23 rfl (by kernel_rfl) rfl) rfl (opnd_op 4 25 (by kernel_rfl) rfl) (opnd_const _) rfl (fun ρ w h1 h2 => by exact run_gtr_int_t ρ _ _ _ w _ _ (by omega) h1 h2)
    · exact owe_pick rfl (wants_all rfl) rfl (opnd_op 2 23 (by kernel_rfl) rfl) (fun _ => (opnd_op 5 26 (by kernel_rfl) rfl)) (fun h => nomatch h) rfl
    · exact owe_move rfl (wants_all rfl) (Or.inl rfl) (opnd_op 6 27 (by kernel_rfl) rfl) rfl
    · exact owe_move rfl (wants_if 7 28 rfl (by kernel_rfl) rfl) (Or.inl rfl) (opnd_slot 5 0 rfl (by kernel_rfl)) rfl
    · exact owe_two rfl (wants_if 7 28 rfl (by kernel_rfl) rfl) rfl (opnd_op 8 29 (by kernel_rfl) rfl) (opnd_const _) rfl (fun ρ w h1 h2 => run_idx ρ _ _ _ w l 1 (by omega) h1 h2)
    · exact owe_bin rfl (wants_if 7 28 rfl (by kernel_rfl) rfl) rfl (opnd_op 9 30 (by kernel_rfl) rfl) (opnd_const _) rfl (fun ρ w h1 h2 => by exact run_eql_u8_f ρ _ _ _ w _ _ (by omega) h1 h2)
    · exact owe_pick rfl (wants_all rfl) rfl (opnd_op 7 28 (by kernel_rfl) rfl) (fun _ => (opnd_op 10 31 (by kernel_rfl) rfl)) (fun h => nomatch h) rfl
  intro B6 a6 W6 S6
  replace S6 : Sta w 52 [(2, (.box 24 (Is (.agg #[.bool false, .slice none 0 0]))))] [(32, (Is (.bool false))), (5, (Is (.int .i64 1))), (20, (Is (.bool true))), (11, (Is (.bool false))), (3, (Is (.int .i64 0))), (4, (Is (.int .i64 0))), (0, (Is (str l)))] B6 a6 W6 := S6
  refine wp_cond_false (S6.bool 0 32 rfl) ?_
  refine wp_skip ?_
  refine thenN ?_
  refine wp_stmt_seq [.val (Is (str l)),
      .val (Is (.int .i64 1)),
      .val (Is (str (l.drop 1))),
      .val ((THREE (IS (.slice none 0 0)) (IS (.int .i64 (j : Nat))) (IS (.int .i64 4))) w.heap.size),
      .val ((THREE (IS (.slice none 0 0)) (IS (.int .i64 (j : Nat))) (IS (.int .i64 4))) w.heap.size),
      .val (Is (.slice none 0 0)),
      .val (Is (.int .i64 (j : Nat))),
      .val (Is (.int .i64 4)),
      .val (Is (.slice none 0 0)),
      .val (Is (.int .i64 (j : Nat))),
      .val (Is (.int .i64 4))] [.inr 0] [.inl 8, .inl 9, .inl 10, .inr 0, .inr 1, .inr 2, .inr 3, .inr 4, .inr 5, .inr 6] follows S6 rfl (by kernel_rfl) ?_ ?_
  · refine ⟨⟨⟨⟨⟨⟨⟨⟨⟨⟨⟨trivial, ?_⟩, ?_⟩, ?_⟩, ?_⟩, ?_⟩, ?_⟩, ?_⟩, ?_⟩, ?_⟩, ?_⟩, ?_⟩
    · exact owe_move rfl (wants_all rfl) (Or.inl rfl) (opnd_slot 6 0 rfl (by kernel_rfl)) rfl
    · exact owe_move rfl (wants_all rfl) (Or.inl rfl) (opnd_slot 1 5 rfl (by kernel_rfl)) rfl
    · exact owe_two rfl (wants_all rfl) rfl (opnd_op 0 35 (by kernel_rfl) rfl) (opnd_op 1 36 (by kernel_rfl) rfl) rfl (fun ρ w h1 h2 => run_slo ρ _ _ _ w _ 1 (by omega) h1 h2)
    · exact owe_callh1 rfl (wants_all rfl) rfl (opnd_op 2 37 (by kernel_rfl) rfl) (fresh_three (fresh_is _) (fresh_is _) (fresh_is _)) rfl (fun args w => by go_simp) (fun w u h => by obtain rfl : u = _ := h.now; exact rr_bad w _ j (by simp; omega) (by simp; omega) hb hf)
    · exact owe_move rfl (wants_all rfl) (Or.inl rfl) (opnd_op 3 38 (by kernel_rfl) rfl) rfl
    · exact owe_ext3 rfl (wants_all rfl) rfl (opnd_op 4 34 (by kernel_rfl) rfl) (Or.inl ⟨rfl, rfl⟩) rfl
    · exact owe_ext3 rfl (wants_all rfl) rfl (opnd_op 4 34 (by kernel_rfl) rfl) (Or.inr (Or.inl ⟨rfl, rfl⟩)) rfl
    · exact owe_ext3 rfl (wants_all rfl) rfl (opnd_op 4 34 (by kernel_rfl) rfl) (Or.inr (Or.inr ⟨rfl, rfl⟩)) rfl
    · exact owe_move rfl (wants_all rfl) (Or.inr rfl) (opnd_op 5 39 (by kernel_rfl) rfl) rfl
    · exact owe_move rfl (wants_all rfl) (Or.inr rfl) (opnd_op 6 40 (by kernel_rfl) rfl) rfl
    · exact owe_move rfl (wants_all rfl) (Or.inr rfl) (opnd_op 7 41 (by kernel_rfl) rfl) rfl
  intro B7 a7 W7 S7
  replace S7 : Sta w 52 [(2, (.box 24 (Is (.agg #[.bool false, .slice none 0 0]))))] [(6, (Is (.slice none 0 0))), (7, (Is (.int .i64 (j : Nat)))), (8, (Is (.int .i64 4))), (32, (Is (.bool false))), (5, (Is (.int .i64 1))), (20, (Is (.bool true))), (11, (Is (.bool false))), (3, (Is (.int .i64 0))), (4, (Is (.int .i64 0))), (0, (Is (str l)))] B7 a7 W7 := S7
  refine wp_seq ?_
  refine wp_stmt_seq [.val (Is (.int .i64 4)),
      .val (Is (.bool true))] [.inr 0] [.inl 1, .inr 0, .inr 1, .inr 3, .inr 4, .inr 5, .inr 6, .inr 7, .inr 8, .inr 9] follows S7 rfl (by kernel_rfl) ?_ ?_
  · refine ⟨⟨trivial, ?_⟩, ?_⟩
    · exact owe_move rfl (wants_all rfl) (Or.inl rfl) (opnd_slot 2 8 rfl (by kernel_rfl)) rfl
    · exact owe_bin rfl (wants_all rfl) rfl (opnd_op 0 42 (by kernel_rfl) rfl) (opnd_const _) rfl (fun ρ w h1 h2 => by exact run_neq_int_t ρ _ _ _ w _ _ (by decide) h1 h2)
  intro B8 a8 W8 S8
  replace S8 : Sta w 52 [(2, (.box 24 (Is (.agg #[.bool false, .slice none 0 0]))))] [(43, (Is (.bool true))), (6, (Is (.slice none 0 0))), (7, (Is (.int .i64 (j : Nat)))), (32, (Is (.bool false))), (5, (Is (.int .i64 1))), (20, (Is (.bool true))), (11, (Is (.bool false))), (3, (Is (.int .i64 0))), (4, (Is (.int .i64 0))), (0, (Is (str l)))] B8 a8 W8 := S8
  refine wp_cond_true (S8.bool 0 43 rfl) ?_
  refine wp_stmt_seq [.val (Is (.agg #[.bool false, .slice none 0 0])),
      .val (Is (.int .i64 1)),
      .val (Is (.int .i64 (j : Nat))),
      .val (Is (.int .i64 ((j + 1 : Nat) : Int))),
      .put (.inl 2) (.box 24 (Is (.agg #[.bool false, .slice none 0 0]))),
      .val (Is (.int .i64 ((j + 1 : Nat) : Int))),
      .val (Is (.int .i64 4))] [.inr 0] [.inl 5, .inl 6, .inr 0, .inr 1, .inr 3, .inr 4, .inr 5, .inr 6, .inr 9] follows S8 rfl (by kernel_rfl) ?_ ?_
  · refine ⟨⟨⟨⟨⟨⟨⟨trivial, ?_⟩, ?_⟩, ?_⟩, ?_⟩, ?_⟩, ?_⟩, ?_⟩
    · exact owe_build_int rfl (wants_all rfl) rfl rfl
    · exact owe_move rfl (wants_all rfl) (Or.inl rfl) (opnd_slot 4 5 rfl (by kernel_rfl)) rfl
    · exact owe_move rfl (wants_all rfl) (Or.inl rfl) (opnd_slot 2 7 rfl (by kernel_rfl)) rfl
    · exact owe_bin rfl (wants_all rfl) rfl (opnd_op 1 45 (by kernel_rfl) rfl) (opnd_op 2 46 (by kernel_rfl) rfl) rfl (fun ρ w h1 h2 => by exact run_add_int ρ _ _ _ w _ _ _ ⟨by omega, by omega, by omega⟩ h1 h2)
    · exact owe_set rfl (wants_all rfl) rfl (k := 0) rfl (by kernel_rfl) (opnd_op 0 44 (by kernel_rfl) rfl) (stores_of strct_int shp_z0 shp_z0) rfl
    · exact owe_move rfl (wants_all rfl) (Or.inr rfl) (opnd_op 3 47 (by kernel_rfl) rfl) rfl
    · exact owe_move rfl (wants_all rfl) (Or.inr rfl) (opnd_const _) rfl
  intro B9 a9 W9 S9
  replace S9 : Sta w 52 [(2, (.box 24 (Is (.agg #[.bool false, .slice none 0 0]))))] [(3, (Is (.int .i64 ((j + 1 : Nat) : Int)))), (4, (Is (.int .i64 4))), (43, (Is (.bool true))), (6, (Is (.slice none 0 0))), (32, (Is (.bool false))), (5, (Is (.int .i64 1))), (20, (Is (.bool true))), (11, (Is (.bool false))), (0, (Is (str l)))] B9 a9 W9 := S9
  refine wp_ret ?_
  refine thenR ?_
  exact end_three S9 rfl (res_cell S9 0 2 rfl strct_int shp_z0) (res_tmp S9 0 3 rfl) (res_tmp S9 1 4 rfl)

set_option maxHeartbeats 1000000 in
theorem rz_p (w : World) (l : List UInt8) (j : Nat) (hl : l.length ≤ 65536) (hj : j < l.length) (h45 : bt l 0 ≠ 45) (hb : bad l j) (hf : ∀ i, i < j → ¬ bad l i) :
    Calls Tryd.prog 9 #[str l] w (Gives (THREE (IS (.agg #[.bool false, .slice none 0 0])) (IS (.int .i64 (j : Nat))) (IS (.int .i64 4))) w) := by
  refine calls_sta (sl := [(0, (Is (str l)))]) Tryd.func9 rfl Tryd.ntmps9 (by simp) (args_cons rfl (is_has _) args_nil) ?_
  intro a0 S0
  refine wp_stmt_seq [.new (.box 24 (Is (.agg #[.bool false, .slice none 0 0]))),
      .val (Is (.int .i64 0)),
      .val (Is (.int .i64 0))] [.inl 0] [.inl 1, .inl 2, .inr 0] follows S0 rfl (by kernel_rfl) ?_ ?_
  · refine ⟨⟨⟨trivial, ?_⟩, ?_⟩, ?_⟩
    · exact owe_new rfl (wants_all rfl) rfl rfl (fun ρ w => alloc_int ρ _ w)
    · exact owe_move rfl (wants_all rfl) (Or.inr rfl) (opnd_const _) rfl
    · exact owe_move rfl (wants_all rfl) (Or.inr rfl) (opnd_const _) rfl
  intro B1 a1 W1 S1
  replace S1 : Sta w 52 [(2, (.box 24 (Is (.agg #[.bool false, .slice none 0 0]))))] [(3, (Is (.int .i64 0))), (4, (Is (.int .i64 0))), (0, (Is (str l)))] B1 a1 W1 := S1
  refine wp_seq ?_
  refine wp_stmt_seq [.val (Is (str l)),
      .val (Is (.int .i64 ((l).length : Nat))),
      .val (Is (.bool false))] [.inr 0] [.inl 2, .inr 0, .inr 1, .inr 2] follows S1 rfl (by kernel_rfl) ?_ ?_
  · refine ⟨⟨⟨trivial, ?_⟩, ?_⟩, ?_⟩
    · exact owe_move rfl (wants_all rfl) (Or.inl rfl) (opnd_slot 2 0 rfl (by kernel_rfl)) rfl
    · exact owe_un (x := .tmp 9) rfl (wants_all rfl) rfl (opnd_op 0 9 (by kernel_rfl) rfl) rfl (fun ρ w h1 => run_lens ρ _ _ w _ h1)
    · exact owe_bin rfl (wants_all rfl) rfl (opnd_op 1 10 (by kernel_rfl) rfl) (opnd_const _) rfl (fun ρ w h1 h2 => by exact run_gtr_int_f ρ _ _ _ w _ _ (by omega) h1 h2)
  intro B2 a2 W2 S2
  replace S2 : Sta w 52 [(2, (.box 24 (Is (.agg #[.bool false, .slice none 0 0]))))] [(11, (Is (.bool false))), (3, (Is (.int .i64 0))), (4, (Is (.int .i64 0))), (0, (Is (str l)))] B2 a2 W2 := S2
  refine wp_cond_false (S2.bool 0 11 rfl) ?_
  refine wp_skip ?_
  refine thenN ?_
  refine wp_stmt_seq [.val (Is (.int .i64 0))] [.inr 0] [.inl 0, .inr 0, .inr 1, .inr 2, .inr 3] follows S2 rfl (by kernel_rfl) ?_ ?_
  · refine ⟨trivial, ?_⟩
    · exact owe_move rfl (wants_all rfl) (Or.inr rfl) (opnd_const _) rfl
  intro B3 a3 W3 S3
  replace S3 : Sta w 52 [(2, (.box 24 (Is (.agg #[.bool false, .slice none 0 0]))))] [(5, (Is (.int .i64 0))), (11, (Is (.bool false))), (3, (Is (.int .i64 0))), (4, (Is (.int .i64 0))), (0, (Is (str l)))] B3 a3 W3 := S3
  refine wp_seq ?_
  refine wp_stmt_seq [.val (Is (str l)),
      .val (Is (.int .i64 ((l).length : Nat))),
      .val (Is (.bool true)),
      .val (Is (.bool true)),
      .val (Is (str l)),
      .val (Is (.int .u8 ((bt l 0 : Nat) : Int))),
      .val (Is (.bool false)),
      .val (Is (.bool false))] [.inr 0] [.inl 7, .inr 0, .inr 1, .inr 2, .inr 3, .inr 4] follows S3 rfl (by kernel_rfl) ?_ ?_
  · refine ⟨⟨⟨⟨⟨⟨⟨⟨trivial, ?_⟩, ?_⟩, ?_⟩, ?_⟩, ?_⟩, ?_⟩, ?_⟩, ?_⟩
    · exact owe_move rfl (wants_all rfl) (Or.inl rfl) (opnd_slot 4 0 rfl (by kernel_rfl)) rfl
    · exact owe_un (x := .tmp 13) rfl (wants_all rfl) rfl (opnd_op 0 13 (by kernel_rfl) rfl) rfl (fun ρ w h1 => run_lens ρ _ _ w _ h1)
    · exact owe_bin rfl (wants_all rfl) rfl (opnd_op 1 14 (by kernel_rfl) rfl) (opnd_const _) rfl (fun ρ w h1 h2 => by exact run_gtr_int_t ρ _ _ _ w _ _ (by omega) h1 h2)
    · exact owe_move rfl (wants_all rfl) (Or.inl rfl) (opnd_op 2 15 (by kernel_rfl) rfl) rfl
    · exact owe_move rfl (wants_if 3 16 rfl (by kernel_rfl) rfl) (Or.inl rfl) (opnd_slot 4 0 rfl (by kernel_rfl)) rfl
    · exact owe_two rfl (wants_if 3 16 rfl (by kernel_rfl) rfl) rfl (opnd_op 4 17 (by kernel_rfl) rfl) (opnd_const _) rfl (fun ρ w h1 h2 => run_idx ρ _ _ _ w l 0 (by omega) h1 h2)
    · exact owe_bin rfl (wants_if 3 16 rfl (by kernel_rfl) rfl) rfl (opnd_op 5 18 (by kernel_rfl) rfl) (opnd_const _) rfl (fun ρ w h1 h2 => by exact run_eql_u8_f ρ _ _ _ w _ _ (by omega) h1 h2)
    · exact owe_pick rfl (wants_all rfl) rfl (opnd_op 3 16 (by kernel_rfl) rfl) (fun _ => (opnd_op 6 19 (by kernel_rfl) rfl)) (fun h => nomatch h) rfl
  intro B4 a4 W4 S4
  replace S4 : Sta w 52 [(2, (.box 24 (Is (.agg #[.bool false, .slice none 0 0]))))] [(20, (Is (.bool false))), (5, (Is (.int .i64 0))), (11, (Is (.bool false))), (3, (Is (.int .i64 0))), (4, (Is (.int .i64 0))), (0, (Is (str l)))] B4 a4 W4 := S4
  refine wp_cond_false (S4.bool 0 20 rfl) ?_
  refine wp_skip ?_
  refine thenN ?_
  refine wp_seq ?_
  refine wp_stmt_seq [.val (Is (.int .i64 0)),
      .val (Is (.bool false)),
      .val (Is (.bool false)),
      .off,
      .off,
      .off,
      .val (Is (.bool false)),
      .val (Is (.bool false)),
      .off,
      .off,
      .off,
      .val (Is (.bool false))] [.inr 0] [.inl 11, .inr 0, .inr 1, .inr 2, .inr 3, .inr 4, .inr 5] follows S4 rfl (by kernel_rfl) ?_ ?_
  · refine ⟨⟨⟨⟨⟨⟨⟨⟨⟨⟨⟨⟨trivial, ?_⟩, ?_⟩, ?_⟩, ?_⟩, ?_⟩, ?_⟩, ?_⟩, ?_⟩, ?_⟩, ?_⟩, ?_⟩, ?_⟩
    · exact owe_move rfl (wants_all rfl) (Or.inl rfl) (opnd_slot 1 5 rfl (by kernel_rfl)) rfl
    · exact owe_bin rfl (wants_all rfl) rfl (opnd_op 0 21 (by kernel_rfl) rfl) (opnd_const _) rfl (fun ρ w h1 h2 => by exact run_eql_int_f ρ _ _ _ w _ _ (by decide) h1 h2)
    · exact owe_move rfl (wants_all rfl) (Or.inl rfl) (opnd_op 1 22 (by kernel_rfl) rfl) rfl
    · exact owe_off 2 23 rfl rfl rfl (by kernel_rfl) rfl (by decide)
    · exact owe_off 2 23 rfl rfl rfl (by kernel_rfl) rfl (by decide)
    · exact owe_off 2 23 rfl rfl rfl (by kernel_rfl) rfl (by decide)
    · exact owe_pick rfl (wants_all rfl) rfl (opnd_op 2 23 (by kernel_rfl) rfl) (fun h => nomatch h) (fun _ => (opnd_const _)) rfl
    · exact owe_move rfl (wants_all rfl) (Or.inl rfl) (opnd_op 6 27 (by kernel_rfl) rfl) rfl
    · exact owe_off 7 28 rfl rfl rfl (by kernel_rfl) rfl (by decide)
    · exact owe_off 7 28 rfl rfl rfl (by kernel_rfl) rfl (by decide)
    · exact owe_off 7 28 rfl rfl rfl (by kernel_rfl) rfl (by decide)
    · exact owe_pick rfl (wants_all rfl) rfl (opnd_op 7 28 (by kernel_rfl) rfl) (fun h => nomatch h) (fun _ => (opnd_const _)) rfl
  intro B5 a5 W5 S5
  replace S5 : Sta w 52 [(2, (.box 24 (Is (.agg #[.bool false, .slice none 0 0]))))] [(32, (Is (.bool false))), (20, (Is (.bool false))), (5, (Is (.int .i64 0))), (11, (Is (.bool false))), (3, (Is (.int .i64 0))), (4, (Is (.int .i64 0))), (0, (Is (str l)))] B5 a5 W5 := S5
  refine wp_cond_false (S5.bool 0 32 rfl) ?_
  refine wp_skip ?_
  refine thenN ?_
  refine wp_stmt_seq [.val (Is (str l)),
      .val (Is (.int .i64 0)),
      .val (Is (str (l.drop 0))),
      .val ((THREE (IS (.slice none 0 0)) (IS (.int .i64 (j : Nat))) (IS (.int .i64 4))) w.heap.size),
      .val ((THREE (IS (.slice none 0 0)) (IS (.int .i64 (j : Nat))) (IS (.int .i64 4))) w.heap.size),
      .val (Is (.slice none 0 0)),
      .val (Is (.int .i64 (j : Nat))),
      .val (Is (.int .i64 4)),
      .val (Is (.slice none 0 0)),
      .val (Is (.int .i64 (j : Nat))),
      .val (Is (.int .i64 4))] [.inr 0] [.inl 8, .inl 9, .inl 10, .inr 0, .inr 1, .inr 2, .inr 3, .inr 4, .inr 5, .inr 6] follows S5 rfl (by kernel_rfl) ?_ ?_
  · refine ⟨⟨⟨⟨⟨⟨⟨⟨⟨⟨⟨trivial, ?_⟩, ?_⟩, ?_⟩, ?_⟩, ?_⟩, ?_⟩, ?_⟩, ?_⟩, ?_⟩, ?_⟩, ?_⟩
    · exact owe_move rfl (wants_all rfl) (Or.inl rfl) (opnd_slot 6 0 rfl (by kernel_rfl)) rfl
    · exact owe_move rfl (wants_all rfl) (Or.inl rfl) (opnd_slot 2 5 rfl (by kernel_rfl)) rfl
    · exact owe_two rfl (wants_all rfl) rfl (opnd_op 0 35 (by kernel_rfl) rfl) (opnd_op 1 36 (by kernel_rfl) rfl) rfl (fun ρ w h1 h2 => run_slo ρ _ _ _ w _ 0 (by omega) h1 h2)
    · exact owe_callh1 rfl (wants_all rfl) rfl (opnd_op 2 37 (by kernel_rfl) rfl) (fresh_three (fresh_is _) (fresh_is _) (fresh_is _)) rfl (fun args w => by go_simp) (fun w u h => by obtain rfl : u = _ := h.now; exact rr_bad w l j hl hj hb hf)
    · exact owe_move rfl (wants_all rfl) (Or.inl rfl) (opnd_op 3 38 (by kernel_rfl) rfl) rfl
    · exact owe_ext3 rfl (wants_all rfl) rfl (opnd_op 4 34 (by kernel_rfl) rfl) (Or.inl ⟨rfl, rfl⟩) rfl
    · exact owe_ext3 rfl (wants_all rfl) rfl (opnd_op 4 34 (by kernel_rfl) rfl) (Or.inr (Or.inl ⟨rfl, rfl⟩)) rfl
    · exact owe_ext3 rfl (wants_all rfl) rfl (opnd_op 4 34 (by kernel_rfl) rfl) (Or.inr (Or.inr ⟨rfl, rfl⟩)) rfl
    · exact owe_move rfl (wants_all rfl) (Or.inr rfl) (opnd_op 5 39 (by kernel_rfl) rfl) rfl
    · exact owe_move rfl (wants_all rfl) (Or.inr rfl) (opnd_op 6 40 (by kernel_rfl) rfl) rfl
    · exact owe_move rfl (wants_all rfl) (Or.inr rfl) (opnd_op 7 41 (by kernel_rfl) rfl) rfl
  intro B6 a6 W6 S6
  replace S6 : Sta w 52 [(2, (.box 24 (Is (.agg #[.bool false, .slice none 0 0]))))] [(6, (Is (.slice none 0 0))), (7, (Is (.int .i64 (j : Nat)))), (8, (Is (.int .i64 4))), (32, (Is (.bool false))), (20, (Is (.bool false))), (5, (Is (.int .i64 0))), (11, (Is (.bool false))), (3, (Is (.int .i64 0))), (4, (Is (.int .i64 0))), (0, (Is (str l)))] B6 a6 W6 := S6
  refine wp_seq ?_
  refine wp_stmt_seq [.val (Is (.int .i64 4)),
      .val (Is (.bool true))] [.inr 0] [.inl 1, .inr 0, .inr 1, .inr 3, .inr 4, .inr 5, .inr 6, .inr 7, .inr 8, .inr 9] follows S6 rfl (by kernel_rfl) ?_ ?_
  · refine ⟨⟨trivial, ?_⟩, ?_⟩
    · exact owe_move rfl (wants_all rfl) (Or.inl rfl) (opnd_slot 2 8 rfl (by kernel_rfl)) rfl
    · exact owe_bin rfl (wants_all rfl) rfl (opnd_op 0 42 (by kernel_rfl) rfl) (opnd_const _) rfl (fun ρ w h1 h2 => by exact run_neq_int_t ρ _ _ _ w _ _ (by decide) h1 h2)
  intro B7 a7 W7 S7
  replace S7 : Sta w 52 [(2, (.box 24 (Is (.agg #[.bool false, .slice none 0 0]))))] [(43, (Is (.bool true))), (6, (Is (.slice none 0 0))), (7, (Is (.int .i64 (j : Nat)))), (32, (Is (.bool false))), (20, (Is (.bool false))), (5, (Is (.int .i64 0))), (11, (Is (.bool false))), (3, (Is (.int .i64 0))), (4, (Is (.int .i64 0))), (0, (Is (str l)))] B7 a7 W7 := S7
  refine wp_cond_true (S7.bool 0 43 rfl) ?_
  refine wp_stmt_seq [.val (Is (.agg #[.bool false, .slice none 0 0])),
      .val (Is (.int .i64 0)),
      .val (Is (.int .i64 (j : Nat))),
      .val (Is (.int .i64 ((j : Nat) : Int))),
      .put (.inl 2) (.box 24 (Is (.agg #[.bool false, .slice none 0 0]))),
      .val (Is (.int .i64 ((j : Nat) : Int))),
      .val (Is (.int .i64 4))] [.inr 0] [.inl 5, .inl 6, .inr 0, .inr 1, .inr 3, .inr 4, .inr 5, .inr 6, .inr 9] follows S7 rfl (by kernel_rfl) ?_ ?_
  · refine ⟨⟨⟨⟨⟨⟨⟨trivial, ?_⟩, ?_⟩, ?_⟩, ?_⟩, ?_⟩, ?_⟩, ?_⟩
    · exact owe_build_int rfl (wants_all rfl) rfl rfl
    · exact owe_move rfl (wants_all rfl) (Or.inl rfl) (opnd_slot 5 5 rfl (by kernel_rfl)) rfl
    · exact owe_move rfl (wants_all rfl) (Or.inl rfl) (opnd_slot 2 7 rfl (by kernel_rfl)) rfl
    · exact owe_bin rfl (wants_all rfl) rfl (opnd_op 1 45 (by kernel_rfl) rfl) (opnd_op 2 46 (by kernel_rfl) rfl) rfl (fun ρ w h1 h2 => by exact run_add_int ρ _ _ _ w _ _ _ ⟨by omega, by omega, by omega⟩ h1 h2)
    · exact owe_set rfl (wants_all rfl) rfl (k := 0) rfl (by kernel_rfl) (opnd_op 0 44 (by kernel_rfl) rfl) (stores_of strct_int shp_z0 shp_z0) rfl
    · exact owe_move rfl (wants_all rfl) (Or.inr rfl) (opnd_op 3 47 (by kernel_rfl) rfl) rfl
    · exact owe_move rfl (wants_all rfl) (Or.inr rfl) (opnd_const _) rfl
  intro B8 a8 W8 S8
  replace S8 : Sta w 52 [(2, (.box 24 (Is (.agg #[.bool false, .slice none 0 0]))))] [(3, (Is (.int .i64 ((j : Nat) : Int)))), (4, (Is (.int .i64 4))), (43, (Is (.bool true))), (6, (Is (.slice none 0 0))), (32, (Is (.bool false))), (20, (Is (.bool false))), (5, (Is (.int .i64 0))), (11, (Is (.bool false))), (0, (Is (str l)))] B8 a8 W8 := S8
  refine wp_ret ?_
  refine thenR ?_
  exact end_three S8 rfl (res_cell S8 0 2 rfl strct_int shp_z0) (res_tmp S8 0 3 rfl) (res_tmp S8 1 4 rfl)

set_option maxHeartbeats 1000000 in
theorem rz_e1 (w : World) (l : List UInt8) (hl : l.length = 1) (h45 : bt l 0 = 45) :
    Calls Tryd.prog 9 #[str l] w (Gives (THREE (IS (.agg #[.bool false, .slice none 0 0])) (IS (.int .i64 1)) (IS (.int .i64 4))) w) := by
  refine calls_sta (sl := [(0, (Is (str l)))]) Tryd.func9 rfl Tryd.ntmps9 (by simp) (args_cons rfl (is_has _) args_nil) ?_
  intro a0 S0
  refine wp_stmt_seq [.new (.box 24 (Is (.agg #[.bool false, .slice none 0 0]))),
      .val (Is (.int .i64 0)),
      .val (Is (.int .i64 0))] [.inl 0] [.inl 1, .inl 2, .inr 0] follows S0 rfl (by kernel_rfl) ?_ ?_
  · refine ⟨⟨⟨trivial, ?_⟩, ?_⟩, ?_⟩
    · exact owe_new rfl (wants_all rfl) rfl rfl (fun ρ w => alloc_int ρ _ w)
    · exact owe_move rfl (wants_all rfl) (Or.inr rfl) (opnd_const _) rfl
    · exact owe_move rfl (wants_all rfl) (Or.inr rfl) (opnd_const _) rfl
  intro B1 a1 W1 S1
  replace S1 : Sta w 52 [(2, (.box 24 (Is (.agg #[.bool false, .slice none 0 0]))))] [(3, (Is (.int .i64 0))), (4, (Is (.int .i64 0))), (0, (Is (str l)))] B1 a1 W1 := S1
  refine wp_seq ?_
  refine wp_stmt_seq [.val (Is (str l)),
      .val (Is (.int .i64 ((l).length : Nat))),
      .val (Is (.bool false))] [.inr 0] [.inl 2, .inr 0, .inr 1, .inr 2] follows S1 rfl (by kernel_rfl) ?_ ?_
  · refine ⟨⟨⟨trivial, ?_⟩, ?_⟩, ?_⟩
    · exact owe_move rfl (wants_all rfl) (Or.inl rfl) (opnd_slot 2 0 rfl (by kernel_rfl)) rfl
    · exact owe_un (x := .tmp 9) rfl (wants_all rfl) rfl (opnd_op 0 9 (by kernel_rfl) rfl) rfl (fun ρ w h1 => run_lens ρ _ _ w _ h1)
    · exact owe_bin rfl (wants_all rfl) rfl (opnd_op 1 10 (by kernel_rfl) rfl) (opnd_const _) rfl (fun ρ w h1 h2 => by exact run_gtr_int_f ρ _ _ _ w _ _ (by omega) h1 h2)
  intro B2 a2 W2 S2
  replace S2 : Sta w 52 [(2, (.box 24 (Is (.agg #[.bool false, .slice none 0 0]))))] [(11, (Is (.bool false))), (3, (Is (.int .i64 0))), (4, (Is (.int .i64 0))), (0, (Is (str l)))] B2 a2 W2 := S2
  refine wp_cond_false (S2.bool 0 11 rfl) ?_
  refine wp_skip ?_
  refine thenN ?_
  refine wp_stmt_seq [.val (Is (.int .i64 0))] [.inr 0] [.inl 0, .inr 0, .inr 1, .inr 2, .inr 3] follows S2 rfl (by kernel_rfl) ?_ ?_
  · refine ⟨trivial, ?_⟩
    · exact owe_move rfl (wants_all rfl) (Or.inr rfl) (opnd_const _) rfl
  intro B3 a3 W3 S3
  replace S3 : Sta w 52 [(2, (.box 24 (Is (.agg #[.bool false, .slice none 0 0]))))] [(5, (Is (.int .i64 0))), (11, (Is (.bool false))), (3, (Is (.int .i64 0))), (4, (Is (.int .i64 0))), (0, (Is (str l)))] B3 a3 W3 := S3
  refine wp_seq ?_
  refine wp_stmt_seq [.val (Is (str l)),
      .val (Is (.int .i64 ((l).length : Nat))),
      .val (Is (.bool true)),
      .val (Is (.bool true)),
      .val (Is (str l)),
      .val (Is (.int .u8 ((bt l 0 : Nat) : Int))),
      .val (Is (.bool true)),
      .val (Is (.bool true))] [.inr 0] [.inl 7, .inr 0, .inr 1, .inr 2, .inr 3, .inr 4] follows S3 rfl (by kernel_rfl) ?_ ?_
  · refine ⟨⟨⟨⟨⟨⟨⟨⟨trivial, ?_⟩, ?_⟩, ?_⟩, ?_⟩, ?_⟩, ?_⟩, ?_⟩, ?_⟩
    · exact owe_move rfl (wants_all rfl) (Or.inl rfl) (opnd_slot 4 0 rfl (by kernel_rfl)) rfl
    · exact owe_un (x := .tmp 13) rfl (wants_all rfl) rfl (opnd_op 0 13 (by kernel_rfl) rfl) rfl (fun ρ w h1 => run_lens ρ _ _ w _ h1)
    · exact owe_bin rfl (wants_all rfl) rfl (opnd_op 1 14 (by kernel_rfl) rfl) (opnd_const _) rfl (fun ρ w h1 h2 => by exact run_gtr_int_t ρ _ _ _ w _ _ (by omega) h1 h2)
    · exact owe_move rfl (wants_all rfl) (Or.inl rfl) (opnd_op 2 15 (by kernel_rfl) rfl) rfl
    · exact owe_move rfl (wants_if 3 16 rfl (by kernel_rfl) rfl) (Or.inl rfl) (opnd_slot 4 0 rfl (by kernel_rfl)) rfl
    · exact owe_two rfl (wants_if 3 16 rfl (by kernel_rfl) rfl) rfl (opnd_op 4 17 (by kernel_rfl) rfl) (opnd_const _) rfl (fun ρ w h1 h2 => run_idx ρ _ _ _ w l 0 (by omega) h1 h2)
    · exact owe_bin rfl (wants_if 3 16 rfl (by kernel_rfl) rfl) rfl (opnd_op 5 18 (by kernel_rfl) rfl) (opnd_const _) rfl (fun ρ w h1 h2 => by exact run_eql_u8_t ρ _ _ _ w _ _ (by omega) h1 h2)
    · exact owe_pick rfl (wants_all rfl) rfl (opnd_op 3 16 (by kernel_rfl) rfl) (fun _ => (opnd_op 6 19 (by kernel_rfl) rfl)) (fun h => nomatch h) rfl
  intro B4 a4 W4 S4
  replace S4 : Sta w 52 [(2, (.box 24 (Is (.agg #[.bool false, .slice none 0 0]))))] [(20, (Is (.bool true))), (5, (Is (.int .i64 0))), (11, (Is (.bool false))), (3, (Is (.int .i64 0))), (4, (Is (.int .i64 0))), (0, (Is (str l)))] B4 a4 W4 := S4
  refine wp_cond_true (S4.bool 0 20 rfl) ?_
  refine wp_stmt [.val (Is (.int .i64 1))] [.inr 0] [.inl 0, .inr 0, .inr 2, .inr 3, .inr 4, .inr 5] follows S4 rfl (by kernel_rfl) ?_ ?_
  · refine ⟨trivial, ?_⟩
    · exact owe_move rfl (wants_all rfl) (Or.inr rfl) (opnd_const _) rfl
  intro B5 a5 W5 S5
  replace S5 : Sta w 52 [(2, (.box 24 (Is (.agg #[.bool false, .slice none 0 0]))))] [(5, (Is (.int .i64 1))), (20, (Is (.bool true))), (11, (Is (.bool false))), (3, (Is (.int .i64 0))), (4, (Is (.int .i64 0))), (0, (Is (str l)))] B5 a5 W5 := S5
  refine thenN ?_
  refine wp_seq ?_
  refine wp_stmt_seq [.val (Is (.int .i64 1)),
      .val (Is (.bool true)),
      .val (Is (.bool true)),
      .val (Is (str l)),
      .val (Is (.int .i64 ((l).length : Nat))),
      .val (Is (.bool false)),
      .val (Is (.bool false)),
      .val (Is (.bool false)),
      .off,
      .off,
      .off,
      .val (Is (.bool false))] [.inr 0] [.inl 11, .inr 0, .inr 1, .inr 2, .inr 3, .inr 4, .inr 5] follows S5 rfl (by kernel_rfl) ?_ ?_
  · refine ⟨⟨⟨⟨⟨⟨⟨⟨⟨⟨⟨⟨trivial, ?_⟩, ?_⟩, ?_⟩, ?_⟩, ?_⟩, ?_⟩, ?_⟩, ?_⟩, ?_⟩, ?_⟩, ?_⟩, ?_⟩
    · exact owe_move rfl (wants_all rfl) (Or.inl rfl) (opnd_slot 0 5 rfl (by kernel_rfl)) rfl
    · exact owe_bin rfl (wants_all rfl) rfl (opnd_op 0 21 (by kernel_rfl) rfl) (opnd_const _) rfl (fun ρ w h1 h2 => by exact run_eql_int_t ρ _ _ _ w _ _ rfl h1 h2)
    · exact owe_move rfl (wants_all rfl) (Or.inl rfl) (opnd_op 1 22 (by kernel_rfl) rfl) rfl
    · exact owe_move rfl (wants_if 2 23 rfl (by kernel_rfl) rfl) (Or.inl rfl) (opnd_slot 5 0 rfl (by kernel_rfl)) rfl
    · exact owe_un (x := .tmp 24) rfl (wants_if 2 23 rfl (by kernel_rfl) rfl) rfl (opnd_op 3 24 (by kernel_rfl) rfl) rfl (fun ρ w h1 => run_lens ρ _ _ w _ h1)
    · exact owe_bin rfl (wants_if 2 23 rfl (by kernel_rfl) rfl) rfl (opnd_op 4 25 (by kernel_rfl) rfl) (opnd_const _) rfl (fun ρ w h1 h2 => by exact run_gtr_int_f ρ _ _ _ w _ _ (by omega) h1 h2)
    · exact owe_pick rfl (wants_all rfl) rfl (opnd_op 2 23 (by kernel_rfl) rfl) (fun _ => (opnd_op 5 26 (by kernel_rfl) rfl)) (fun h => nomatch h) rfl
    · exact owe_move rfl (wants_all rfl) (Or.inl rfl) (opnd_op 6 27 (by kernel_rfl) rfl) rfl
    · exact owe_off 7 28 rfl rfl rfl (by kernel_rfl) rfl (by decide)
    · exact owe_off 7 28 rfl rfl rfl (by kernel_rfl) rfl (by decide)
    · exact owe_off 7 28 rfl rfl rfl (by kernel_rfl) rfl (by decide)
    · exact owe_pick rfl (wants_all rfl) rfl (opnd_op 7 28 (by kernel_rfl) rfl) (fun h => nomatch h) (fun _ => (opnd_const _)) rfl
  intro B6 a6 W6 S6
  replace S6 : Sta w 52 [(2, (.box 24 (Is (.agg #[.bool false, .slice none 0 0]))))] [(32, (Is (.bool false))), (5, (Is (.int .i64 1))), (20, (Is (.bool true))), (11, (Is (.bool false))), (3, (Is (.int .i64 0))), (4, (Is (.int .i64 0))), (0, (Is (str l)))] B6 a6 W6 := S6
  refine wp_cond_false (S6.bool 0 32 rfl) ?_
  refine wp_skip ?_
  refine thenN ?_
  refine wp_stmt_seq [.val (Is (str l)),
      .val (Is (.int .i64 1)),
      .val (Is (str (l.drop 1))),
      .val ((THREE (IS (.slice none 0 0)) (IS (.int .i64 0)) (IS (.int .i64 4))) w.heap.size),
      .val ((THREE (IS (.slice none 0 0)) (IS (.int .i64 0)) (IS (.int .i64 4))) w.heap.size),
      .val (Is (.slice none 0 0)),
      .val (Is (.int .i64 0)),
      .val (Is (.int .i64 4)),
      .val (Is (.slice none 0 0)),
      .val (Is (.int .i64 0)),
      .val (Is (.int .i64 4))] [.inr 0] [.inl 8, .inl 9, .inl 10, .inr 0, .inr 1, .inr 2, .inr 3, .inr 4, .inr 5, .inr 6] follows S6 rfl (by kernel_rfl) ?_ ?_
  · refine ⟨⟨⟨⟨⟨⟨⟨⟨⟨⟨⟨trivial, ?_⟩, ?_⟩, ?_⟩, ?_⟩, ?_⟩, ?_⟩, ?_⟩, ?_⟩, ?_⟩, ?_⟩, ?_⟩
    · exact owe_move rfl (wants_all rfl) (Or.inl rfl) (opnd_slot 6 0 rfl (by kernel_rfl)) rfl
    · exact owe_move rfl (wants_all rfl) (Or.inl rfl) (opnd_slot 1 5 rfl (by kernel_rfl)) rfl
    · exact owe_two rfl (wants_all rfl) rfl (opnd_op 0 35 (by kernel_rfl) rfl) (opnd_op 1 36 (by kernel_rfl) rfl) rfl (fun ρ w h1 h2 => run_slo ρ _ _ _ w _ 1 (by omega) h1 h2)
    · exact owe_callh1 rfl (wants_all rfl) rfl (opnd_op 2 37 (by kernel_rfl) rfl) (fresh_three (fresh_is _) (fresh_is _) (fresh_is _)) rfl (fun args w => by go_simp) (fun w u h => by obtain rfl : u = _ := h.now; exact rr_empty w _ (by simp; omega))
    · exact owe_move rfl (wants_all rfl) (Or.inl rfl) (opnd_op 3 38 (by kernel_rfl) rfl) rfl
    · exact owe_ext3 rfl (wants_all rfl) rfl (opnd_op 4 34 (by kernel_rfl) rfl) (Or.inl ⟨rfl, rfl⟩) rfl
    · exact owe_ext3 rfl (wants_all rfl) rfl (opnd_op 4 34 (by kernel_rfl) rfl) (Or.inr (Or.inl ⟨rfl, rfl⟩)) rfl
    · exact owe_ext3 rfl (wants_all rfl) rfl (opnd_op 4 34 (by kernel_rfl) rfl) (Or.inr (Or.inr ⟨rfl, rfl⟩)) rfl
    · exact owe_move rfl (wants_all rfl) (Or.inr rfl) (opnd_op 5 39 (by kernel_rfl) rfl) rfl
    · exact owe_move rfl (wants_all rfl) (Or.inr rfl) (opnd_op 6 40 (by kernel_rfl) rfl) rfl
    · exact owe_move rfl (wants_all rfl) (Or.inr rfl) (opnd_op 7 41 (by kernel_rfl) rfl) rfl
  intro B7 a7 W7 S7
  replace S7 : Sta w 52 [(2, (.box 24 (Is (.agg #[.bool false, .slice none 0 0]))))] [(6, (Is (.slice none 0 0))), (7, (Is (.int .i64 0))), (8, (Is (.int .i64 4))), (32, (Is (.bool false))), (5, (Is (.int .i64 1))), (20, (Is (.bool true))), (11, (Is (.bool false))), (3, (Is (.int .i64 0))), (4, (Is (.int .i64 0))), (0, (Is (str l)))] B7 a7 W7 := S7
  refine wp_seq ?_
  refine wp_stmt_seq [.val (Is (.int .i64 4)),
      .val (Is (.bool true))] [.inr 0] [.inl 1, .inr 0, .inr 1, .inr 3, .inr 4, .inr 5, .inr 6, .inr 7, .inr 8, .inr 9] follows S7 rfl (by kernel_rfl) ?_ ?_
  · refine ⟨⟨trivial, ?_⟩, ?_⟩
    · exact owe_move rfl (wants_all rfl) (Or.inl rfl) (opnd_slot 2 8 rfl (by kernel_rfl)) rfl
    · exact owe_bin rfl (wants_all rfl) rfl (opnd_op 0 42 (by kernel_rfl) rfl) (opnd_const _) rfl (fun ρ w h1 h2 => by exact run_neq_int_t ρ _ _ _ w _ _ (by decide) h1 h2)
  intro B8 a8 W8 S8
  replace S8 : Sta w 52 [(2, (.box 24 (Is (.agg #[.bool false, .slice none 0 0]))))] [(43, (Is (.bool true))), (6, (Is (.slice none 0 0))), (7, (Is (.int .i64 0))), (32, (Is (.bool false))), (5, (Is (.int .i64 1))), (20, (Is (.bool true))), (11, (Is (.bool false))), (3, (Is (.int .i64 0))), (4, (Is (.int .i64 0))), (0, (Is (str l)))] B8 a8 W8 := S8
  refine wp_cond_true (S8.bool 0 43 rfl) ?_
  refine wp_stmt_seq [.val (Is (.agg #[.bool false, .slice none 0 0])),
      .val (Is (.int .i64 1)),
      .val (Is (.int .i64 0)),
      .val (Is (.int .i64 1)),
      .put (.inl 2) (.box 24 (Is (.agg #[.bool false, .slice none 0 0]))),
      .val (Is (.int .i64 1)),
      .val (Is (.int .i64 4))] [.inr 0] [.inl 5, .inl 6, .inr 0, .inr 1, .inr 3, .inr 4, .inr 5, .inr 6, .inr 9] follows S8 rfl (by kernel_rfl) ?_ ?_
  · refine ⟨⟨⟨⟨⟨⟨⟨trivial, ?_⟩, ?_⟩, ?_⟩, ?_⟩, ?_⟩, ?_⟩, ?_⟩
    · exact owe_build_int rfl (wants_all rfl) rfl rfl
    · exact owe_move rfl (wants_all rfl) (Or.inl rfl) (opnd_slot 4 5 rfl (by kernel_rfl)) rfl
    · exact owe_move rfl (wants_all rfl) (Or.inl rfl) (opnd_slot 2 7 rfl (by kernel_rfl)) rfl
    · exact owe_bin rfl (wants_all rfl) rfl (opnd_op 1 45 (by kernel_rfl) rfl) (opnd_op 2 46 (by kernel_rfl) rfl) rfl (fun ρ w h1 h2 => by exact run_add_int ρ _ _ _ w _ _ _ ⟨by omega, by omega, by omega⟩ h1 h2)
    · exact owe_set rfl (wants_all rfl) rfl (k := 0) rfl (by kernel_rfl) (opnd_op 0 44 (by kernel_rfl) rfl) (stores_of strct_int shp_z0 shp_z0) rfl
    · exact owe_move rfl (wants_all rfl) (Or.inr rfl) (opnd_op 3 47 (by kernel_rfl) rfl) rfl
    · exact owe_move rfl (wants_all rfl) (Or.inr rfl) (opnd_const _) rfl
  intro B9 a9 W9 S9
  replace S9 : Sta w 52 [(2, (.box 24 (Is (.agg #[.bool false, .slice none 0 0]))))] [(3, (Is (.int .i64 1))), (4, (Is (.int .i64 4))), (43, (Is (.bool true))), (6, (Is (.slice none 0 0))), (32, (Is (.bool false))), (5, (Is (.int .i64 1))), (20, (Is (.bool true))), (11, (Is (.bool false))), (0, (Is (str l)))] B9 a9 W9 := S9
  refine wp_ret ?_
  refine thenR ?_
  exact end_three S9 rfl (res_cell S9 0 2 rfl strct_int shp_z0) (res_tmp S9 0 3 rfl) (res_tmp S9 1 4 rfl)

set_option maxHeartbeats 1000000 in
theorem rz_e0 (w : World) (l : List UInt8) (hl : l.length = 0) :
    Calls Tryd.prog 9 #[str l] w (Gives (THREE (IS (.agg #[.bool false, .slice none 0 0])) (IS (.int .i64 0)) (IS (.int .i64 4))) w) := by
  refine calls_sta (sl := [(0, (Is (str l)))]) Tryd.func9 rfl Tryd.ntmps9 (by simp) (args_cons rfl (is_has _) args_nil) ?_
  intro a0 S0
  refine wp_stmt_seq [.new (.box 24 (Is (.agg #[.bool false, .slice none 0 0]))),
      .val (Is (.int .i64 0)),
      .val (Is (.int .i64 0))] [.inl 0] [.inl 1, .inl 2, .inr 0] follows S0 rfl (by kernel_rfl) ?_ ?_
  · refine ⟨⟨⟨trivial, ?_⟩, ?_⟩, ?_⟩
    · exact owe_new rfl (wants_all rfl) rfl rfl (fun ρ w => alloc_int ρ _ w)
    · exact owe_move rfl (wants_all rfl) (Or.inr rfl) (opnd_const _) rfl
    · exact owe_move rfl (wants_all rfl) (Or.inr rfl) (opnd_const _) rfl
  intro B1 a1 W1 S1
  replace S1 : Sta w 52 [(2, (.box 24 (Is (.agg #[.bool false, .slice none 0 0]))))] [(3, (Is (.int .i64 0))), (4, (Is (.int .i64 0))), (0, (Is (str l)))] B1 a1 W1 := S1
  refine wp_seq ?_
  refine wp_stmt_seq [.val (Is (str l)),
      .val (Is (.int .i64 ((l).length : Nat))),
      .val (Is (.bool false))] [.inr 0] [.inl 2, .inr 0, .inr 1, .inr 2] follows S1 rfl (by kernel_rfl) ?_ ?_
  · refine ⟨⟨⟨trivial, ?_⟩, ?_⟩, ?_⟩
    · exact owe_move rfl (wants_all rfl) (Or.inl rfl) (opnd_slot 2 0 rfl (by kernel_rfl)) rfl
    · exact owe_un (x := .tmp 9) rfl (wants_all rfl) rfl (opnd_op 0 9 (by kernel_rfl) rfl) rfl (fun ρ w h1 => run_lens ρ _ _ w _ h1)
    · exact owe_bin rfl (wants_all rfl) rfl (opnd_op 1 10 (by kernel_rfl) rfl) (opnd_const _) rfl (fun ρ w h1 h2 => by exact run_gtr_int_f ρ _ _ _ w _ _ (by omega) h1 h2)
  intro B2 a2 W2 S2
  replace S2 : Sta w 52 [(2, (.box 24 (Is (.agg #[.bool false, .slice none 0 0]))))] [(11, (Is (.bool false))), (3, (Is (.int .i64 0))), (4, (Is (.int .i64 0))), (0, (Is (str l)))] B2 a2 W2 := S2
  refine wp_cond_false (S2.bool 0 11 rfl) ?_
  refine wp_skip ?_
  refine thenN ?_
  refine wp_stmt_seq [.val (Is (.int .i64 0))] [.inr 0] [.inl 0, .inr 0, .inr 1, .inr 2, .inr 3] follows S2 rfl (by kernel_rfl) ?_ ?_
  · refine ⟨trivial, ?_⟩
    · exact owe_move rfl (wants_all rfl) (Or.inr rfl) (opnd_const _) rfl
  intro B3 a3 W3 S3
  replace S3 : Sta w 52 [(2, (.box 24 (Is (.agg #[.bool false, .slice none 0 0]))))] [(5, (Is (.int .i64 0))), (11, (Is (.bool false))), (3, (Is (.int .i64 0))), (4, (Is (.int .i64 0))), (0, (Is (str l)))] B3 a3 W3 := S3
  refine wp_seq ?_
  refine wp_stmt_seq [.val (Is (str l)),
      .val (Is (.int .i64 ((l).length : Nat))),
      .val (Is (.bool false)),
      .val (Is (.bool false)),
      .off,
      .off,
      .off,
      .val (Is (.bool false))] [.inr 0] [.inl 7, .inr 0, .inr 1, .inr 2, .inr 3, .inr 4] follows S3 rfl (by kernel_rfl) ?_ ?_
  · refine ⟨⟨⟨⟨⟨⟨⟨⟨trivial, ?_⟩, ?_⟩, ?_⟩, ?_⟩, ?_⟩, ?_⟩, ?_⟩, ?_⟩
    · exact owe_move rfl (wants_all rfl) (Or.inl rfl) (opnd_slot 4 0 rfl (by kernel_rfl)) rfl
    · exact owe_un (x := .tmp 13) rfl (wants_all rfl) rfl (opnd_op 0 13 (by kernel_rfl) rfl) rfl (fun ρ w h1 => run_lens ρ _ _ w _ h1)
    · exact owe_bin rfl (wants_all rfl) rfl (opnd_op 1 14 (by kernel_rfl) rfl) (opnd_const _) rfl (fun ρ w h1 h2 => by exact run_gtr_int_f ρ _ _ _ w _ _ (by omega) h1 h2)
    · exact owe_move rfl (wants_all rfl) (Or.inl rfl) (opnd_op 2 15 (by kernel_rfl) rfl) rfl
    · exact owe_off 3 16 rfl rfl rfl (by kernel_rfl) rfl (by decide)
    · exact owe_off 3 16 rfl rfl rfl (by kernel_rfl) rfl (by decide)
    · exact owe_off 3 16 rfl rfl rfl (by kernel_rfl) rfl (by decide)
    · exact owe_pick rfl (wants_all rfl) rfl (opnd_op 3 16 (by kernel_rfl) rfl) (fun h => nomatch h) (fun _ => (opnd_const _)) rfl
  intro B4 a4 W4 S4
  replace S4 : Sta w 52 [(2, (.box 24 (Is (.agg #[.bool false, .slice none 0 0]))))] [(20, (Is (.bool false))), (5, (Is (.int .i64 0))), (11, (Is (.bool false))), (3, (Is (.int .i64 0))), (4, (Is (.int .i64 0))), (0, (Is (str l)))] B4 a4 W4 := S4
  refine wp_cond_false (S4.bool 0 20 rfl) ?_
  refine wp_skip ?_
  refine thenN ?_
  refine wp_seq ?_
  refine wp_stmt_seq [.val (Is (.int .i64 0)),
      .val (Is (.bool false)),
      .val (Is (.bool false)),
      .off,
      .off,
      .off,
      .val (Is (.bool false)),
      .val (Is (.bool false)),
      .off,
      .off,
      .off,
      .val (Is (.bool false))] [.inr 0] [.inl 11, .inr 0, .inr 1, .inr 2, .inr 3, .inr 4, .inr 5] follows S4 rfl (by kernel_rfl) ?_ ?_
  · refine ⟨⟨⟨⟨⟨⟨⟨⟨⟨⟨⟨⟨trivial, ?_⟩, ?_⟩, ?_⟩, ?_⟩, ?_⟩, ?_⟩, ?_⟩, ?_⟩, ?_⟩, ?_⟩, ?_⟩, ?_⟩
    · exact owe_move rfl (wants_all rfl) (Or.inl rfl) (opnd_slot 1 5 rfl (by kernel_rfl)) rfl
    · exact owe_bin rfl (wants_all rfl) rfl (opnd_op 0 21 (by kernel_rfl) rfl) (opnd_const _) rfl (fun ρ w h1 h2 => by exact run_eql_int_f ρ _ _ _ w _ _ (by decide) h1 h2)
    · exact owe_move rfl (wants_all rfl) (Or.inl rfl) (opnd_op 1 22 (by kernel_rfl) rfl) rfl
    · exact owe_off 2 23 rfl rfl rfl (by kernel_rfl) rfl (by decide)
    · exact owe_off 2 23 rfl rfl rfl (by kernel_rfl) rfl (by decide)
    · exact owe_off 2 23 rfl rfl rfl (by kernel_rfl) rfl (by decide)
    · exact owe_pick rfl (wants_all rfl) rfl (opnd_op 2 23 (by kernel_rfl) rfl) (fun h => nomatch h) (fun _ => (opnd_const _)) rfl
    · exact owe_move rfl (wants_all rfl) (Or.inl rfl) (opnd_op 6 27 (by kernel_rfl) rfl) rfl
    · exact owe_off 7 28 rfl rfl rfl (by kernel_rfl) rfl (by decide)
    · exact owe_off 7 28 rfl rfl rfl (by kernel_rfl) rfl (by decide)
    · exact owe_off 7 28 rfl rfl rfl (by kernel_rfl) rfl (by decide)
    · exact owe_pick rfl (wants_all rfl) rfl (opnd_op 7 28 (by kernel_rfl) rfl) (fun h => nomatch h) (fun _ => (opnd_const _)) rfl
  intro B5 a5 W5 S5
  replace S5 : Sta w 52 [(2, (.box 24 (Is (.agg #[.bool false, .slice none 0 0]))))] [(32, (Is (.bool false))), (20, (Is (.bool false))), (5, (Is (.int .i64 0))), (11, (Is (.bool false))), (3, (Is (.int .i64 0))), (4, (Is (.int .i64 0))), (0, (Is (str l)))] B5 a5 W5 := S5
  refine wp_cond_false (S5.bool 0 32 rfl) ?_
  refine wp_skip ?_
  refine thenN ?_
  refine wp_stmt_seq [.val (Is (str l)),
      .val (Is (.int .i64 0)),
      .val (Is (str (l.drop 0))),
      .val ((THREE (IS (.slice none 0 0)) (IS (.int .i64 0)) (IS (.int .i64 4))) w.heap.size),
      .val ((THREE (IS (.slice none 0 0)) (IS (.int .i64 0)) (IS (.int .i64 4))) w.heap.size),
      .val (Is (.slice none 0 0)),
      .val (Is (.int .i64 0)),
      .val (Is (.int .i64 4)),
      .val (Is (.slice none 0 0)),
      .val (Is (.int .i64 0)),
      .val (Is (.int .i64 4))] [.inr 0] [.inl 8, .inl 9, .inl 10, .inr 0, .inr 1, .inr 2, .inr 3, .inr 4, .inr 5, .inr 6] follows S5 rfl (by kernel_rfl) ?_ ?_
  · refine ⟨⟨⟨⟨⟨⟨⟨⟨⟨⟨⟨trivial, ?_⟩, ?_⟩, ?_⟩, ?_⟩, ?_⟩, ?_⟩, ?_⟩, ?_⟩, ?_⟩, ?_⟩, ?_⟩
    · exact owe_move rfl (wants_all rfl) (Or.inl rfl) (opnd_slot 6 0 rfl (by kernel_rfl)) rfl
    · exact owe_move rfl (wants_all rfl) (Or.inl rfl) (opnd_slot 2 5 rfl (by kernel_rfl)) rfl
    · exact owe_two rfl (wants_all rfl) rfl (opnd_op 0 35 (by kernel_rfl) rfl) (opnd_op 1 36 (by kernel_rfl) rfl) rfl (fun ρ w h1 h2 => run_slo ρ _ _ _ w _ 0 (by omega) h1 h2)
    · exact owe_callh1 rfl (wants_all rfl) rfl (opnd_op 2 37 (by kernel_rfl) rfl) (fresh_three (fresh_is _) (fresh_is _) (fresh_is _)) rfl (fun args w => by go_simp) (fun w u h => by obtain rfl : u = _ := h.now; exact rr_empty w l hl)
    · exact owe_move rfl (wants_all rfl) (Or.inl rfl) (opnd_op 3 38 (by kernel_rfl) rfl) rfl
    · exact owe_ext3 rfl (wants_all rfl) rfl (opnd_op 4 34 (by kernel_rfl) rfl) (Or.inl ⟨rfl, rfl⟩) rfl
    · exact owe_ext3 rfl (wants_all rfl) rfl (opnd_op 4 34 (by kernel_rfl) rfl) (Or.inr (Or.inl ⟨rfl, rfl⟩)) rfl
    · exact owe_ext3 rfl (wants_all rfl) rfl (opnd_op 4 34 (by kernel_rfl) rfl) (Or.inr (Or.inr ⟨rfl, rfl⟩)) rfl
    · exact owe_move rfl (wants_all rfl) (Or.inr rfl) (opnd_op 5 39 (by kernel_rfl) rfl) rfl
    · exact owe_move rfl (wants_all rfl) (Or.inr rfl) (opnd_op 6 40 (by kernel_rfl) rfl) rfl
    · exact owe_move rfl (wants_all rfl) (Or.inr rfl) (opnd_op 7 41 (by kernel_rfl) rfl) rfl
  intro B6 a6 W6 S6
  replace S6 : Sta w 52 [(2, (.box 24 (Is (.agg #[.bool false, .slice none 0 0]))))] [(6, (Is (.slice none 0 0))), (7, (Is (.int .i64 0))), (8, (Is (.int .i64 4))), (32, (Is (.bool false))), (20, (Is (.bool false))), (5, (Is (.int .i64 0))), (11, (Is (.bool false))), (3, (Is (.int .i64 0))), (4, (Is (.int .i64 0))), (0, (Is (str l)))] B6 a6 W6 := S6
  refine wp_seq ?_
  refine wp_stmt_seq [.val (Is (.int .i64 4)),
      .val (Is (.bool true))] [.inr 0] [.inl 1, .inr 0, .inr 1, .inr 3, .inr 4, .inr 5, .inr 6, .inr 7, .inr 8, .inr 9] follows S6 rfl (by kernel_rfl) ?_ ?_
  · refine ⟨⟨trivial, ?_⟩, ?_⟩
    · exact owe_move rfl (wants_all rfl) (Or.inl rfl) (opnd_slot 2 8 rfl (by kernel_rfl)) rfl
    · exact owe_bin rfl (wants_all rfl) rfl (opnd_op 0 42 (by kernel_rfl) rfl) (opnd_const _) rfl (fun ρ w h1 h2 => by exact run_neq_int_t ρ _ _ _ w _ _ (by decide) h1 h2)
  intro B7 a7 W7 S7
  replace S7 : Sta w 52 [(2, (.box 24 (Is (.agg #[.bool false, .slice none 0 0]))))] [(43, (Is (.bool true))), (6, (Is (.slice none 0 0))), (7, (Is (.int .i64 0))), (32, (Is (.bool false))), (20, (Is (.bool false))), (5, (Is (.int .i64 0))), (11, (Is (.bool false))), (3, (Is (.int .i64 0))), (4, (Is (.int .i64 0))), (0, (Is (str l)))] B7 a7 W7 := S7
  refine wp_cond_true (S7.bool 0 43 rfl) ?_
  refine wp_stmt_seq [.val (Is (.agg #[.bool false, .slice none 0 0])),
      .val (Is (.int .i64 0)),
      .val (Is (.int .i64 0)),
      .val (Is (.int .i64 0)),
      .put (.inl 2) (.box 24 (Is (.agg #[.bool false, .slice none 0 0]))),
      .val (Is (.int .i64 0)),
      .val (Is (.int .i64 4))] [.inr 0] [.inl 5, .inl 6, .inr 0, .inr 1, .inr 3, .inr 4, .inr 5, .inr 6, .inr 9] follows S7 rfl (by kernel_rfl) ?_ ?_
  · refine ⟨⟨⟨⟨⟨⟨⟨trivial, ?_⟩, ?_⟩, ?_⟩, ?_⟩, ?_⟩, ?_⟩, ?_⟩
    · exact owe_build_int rfl (wants_all rfl) rfl rfl
    · exact owe_move rfl (wants_all rfl) (Or.inl rfl) (opnd_slot 5 5 rfl (by kernel_rfl)) rfl
    · exact owe_move rfl (wants_all rfl) (Or.inl rfl) (opnd_slot 2 7 rfl (by kernel_rfl)) rfl
    · exact owe_bin rfl (wants_all rfl) rfl (opnd_op 1 45 (by kernel_rfl) rfl) (opnd_op 2 46 (by kernel_rfl) rfl) rfl (fun ρ w h1 h2 => by exact run_add_int ρ _ _ _ w _ _ _ ⟨by omega, by omega, by omega⟩ h1 h2)
    · exact owe_set rfl (wants_all rfl) rfl (k := 0) rfl (by kernel_rfl) (opnd_op 0 44 (by kernel_rfl) rfl) (stores_of strct_int shp_z0 shp_z0) rfl
    · exact owe_move rfl (wants_all rfl) (Or.inr rfl) (opnd_op 3 47 (by kernel_rfl) rfl) rfl
    · exact owe_move rfl (wants_all rfl) (Or.inr rfl) (opnd_const _) rfl
  intro B8 a8 W8 S8
  replace S8 : Sta w 52 [(2, (.box 24 (Is (.agg #[.bool false, .slice none 0 0]))))] [(3, (Is (.int .i64 0))), (4, (Is (.int .i64 4))), (43, (Is (.bool true))), (6, (Is (.slice none 0 0))), (32, (Is (.bool false))), (20, (Is (.bool false))), (5, (Is (.int .i64 0))), (11, (Is (.bool false))), (0, (Is (str l)))] B8 a8 W8 := S8
  refine wp_ret ?_
  refine thenR ?_
  exact end_three S8 rfl (res_cell S8 0 2 rfl strct_int shp_z0) (res_tmp S8 0 3 rfl) (res_tmp S8 1 4 rfl)

set_option maxHeartbeats 1000000 in
theorem rz_okn (w : World) (l : List UInt8) (hl : l.length ≤ 65536) (hp : 1 < l.length) (h45 : bt l 0 = 45) (h48 : bt l 1 ≠ 48) (hg : ∀ i, i < (l.drop 1).length → ¬ bad (l.drop 1) i) (hdl : (digs (decV (l.drop 1))).length ≤ 65536) :
    Calls Tryd.prog 9 #[str l] w (Gives (THREE (ZN (sg true (decV (l.drop 1)))) (IS (.int .i64 0)) (IS (.int .i64 0))) w) := by
  refine calls_sta (sl := [(0, (Is (str l)))]) Tryd.func9 rfl Tryd.ntmps9 (by simp) (args_cons rfl (is_has _) args_nil) ?_
  intro a0 S0
  refine wp_stmt_seq [.new (.box 24 (Is (.agg #[.bool false, .slice none 0 0]))),
      .val (Is (.int .i64 0)),
      .val (Is (.int .i64 0))] [.inl 0] [.inl 1, .inl 2, .inr 0] follows S0 rfl (by kernel_rfl) ?_ ?_
  · refine ⟨⟨⟨trivial, ?_⟩, ?_⟩, ?_⟩
    · exact owe_new rfl (wants_all rfl) rfl rfl (fun ρ w => alloc_int ρ _ w)
    · exact owe_move rfl (wants_all rfl) (Or.inr rfl) (opnd_const _) rfl
    · exact owe_move rfl (wants_all rfl) (Or.inr rfl) (opnd_const _) rfl
  intro B1 a1 W1 S1
  replace S1 : Sta w 52 [(2, (.box 24 (Is (.agg #[.bool false, .slice none 0 0]))))] [(3, (Is (.int .i64 0))), (4, (Is (.int .i64 0))), (0, (Is (str l)))] B1 a1 W1 := S1
  refine wp_seq ?_
  refine wp_stmt_seq [.val (Is (str l)),
      .val (Is (.int .i64 ((l).length : Nat))),
      .val (Is (.bool false))] [.inr 0] [.inl 2, .inr 0, .inr 1, .inr 2] follows S1 rfl (by kernel_rfl) ?_ ?_
  · refine ⟨⟨⟨trivial, ?_⟩, ?_⟩, ?_⟩
    · exact owe_move rfl (wants_all rfl) (Or.inl rfl) (opnd_slot 2 0 rfl (by kernel_rfl)) rfl
    · exact owe_un (x := .tmp 9) rfl (wants_all rfl) rfl (opnd_op 0 9 (by kernel_rfl) rfl) rfl (fun ρ w h1 => run_lens ρ _ _ w _ h1)
    · exact owe_bin rfl (wants_all rfl) rfl (opnd_op 1 10 (by kernel_rfl) rfl) (opnd_const _) rfl (fun ρ w h1 h2 => by exact run_gtr_int_f ρ _ _ _ w _ _ (by omega) h1 h2)
  intro B2 a2 W2 S2
  replace S2 : Sta w 52 [(2, (.box 24 (Is (.agg #[.bool false, .slice none 0 0]))))] [(11, (Is (.bool false))), (3, (Is (.int .i64 0))), (4, (Is (.int .i64 0))), (0, (Is (str l)))] B2 a2 W2 := S2
  refine wp_cond_false (S2.bool 0 11 rfl) ?_
  refine wp_skip ?_
  refine thenN ?_
  refine wp_stmt_seq [.val (Is (.int .i64 0))] [.inr 0] [.inl 0, .inr 0, .inr 1, .inr 2, .inr 3] follows S2 rfl (by kernel_rfl) ?_ ?_
  · refine ⟨trivial, ?_⟩
    · exact owe_move rfl (wants_all rfl) (Or.inr rfl) (opnd_const _) rfl
  intro B3 a3 W3 S3
  replace S3 : Sta w 52 [(2, (.box 24 (Is (.agg #[.bool false, .slice none 0 0]))))] [(5, (Is (.int .i64 0))), (11, (Is (.bool false))), (3, (Is (.int .i64 0))), (4, (Is (.int .i64 0))), (0, (Is (str l)))] B3 a3 W3 := S3
  refine wp_seq ?_
  refine wp_stmt_seq [.val (Is (str l)),
      .val (Is (.int .i64 ((l).length : Nat))),
      .val (Is (.bool true)),
      .val (Is (.bool true)),
      .val (Is (str l)),
      .val (Is (.int .u8 ((bt l 0 : Nat) : Int))),
      .val (Is (.bool true)),
      .val (Is (.bool true))] [.inr 0] [.inl 7, .inr 0, .inr 1, .inr 2, .inr 3, .inr 4] follows S3 rfl (by kernel_rfl) ?_ ?_
  · refine ⟨⟨⟨⟨⟨⟨⟨⟨trivial, ?_⟩, ?_⟩, ?_⟩, ?_⟩, ?_⟩, ?_⟩, ?_⟩, ?_⟩
    · exact owe_move rfl (wants_all rfl) (Or.inl rfl) (opnd_slot 4 0 rfl (by kernel_rfl)) rfl
    · exact owe_un (x := .tmp 13) rfl (wants_all rfl) rfl (opnd_op 0 13 (by kernel_rfl) rfl) rfl (fun ρ w h1 => run_lens ρ _ _ w _ h1)
    · exact owe_bin rfl (wants_all rfl) rfl (opnd_op 1 14 (by kernel_rfl) rfl) (opnd_const _) rfl (fun ρ w h1 h2 => by exact run_gtr_int_t ρ _ _ _ w _ _ (by omega) h1 h2)
    · exact owe_move rfl (wants_all rfl) (Or.inl rfl) (opnd_op 2 15 (by kernel_rfl) rfl) rfl
    · exact owe_move rfl (wants_if 3 16 rfl (by kernel_rfl) rfl) (Or.inl rfl) (opnd_slot 4 0 rfl (by kernel_rfl)) rfl
    · exact owe_two rfl (wants_if 3 16 rfl (by kernel_rfl) rfl) rfl (opnd_op 4 17 (by kernel_rfl) rfl) (opnd_const _) rfl (fun ρ w h1 h2 => run_idx ρ _ _ _ w l 0 (by omega) h1 h2)
    · exact owe_bin rfl (wants_if 3 16 rfl (by kernel_rfl) rfl) rfl (opnd_op 5 18 (by kernel_rfl) rfl) (opnd_const _) rfl (fun ρ w h1 h2 => by exact run_eql_u8_t ρ _ _ _ w _ _ (by omega) h1 h2)
    · exact owe_pick rfl (wants_all rfl) rfl (opnd_op 3 16 (by kernel_rfl) rfl) (fun _ => (opnd_op 6 19 (by kernel_rfl) rfl)) (fun h => nomatch h) rfl
  intro B4 a4 W4 S4
  replace S4 : Sta w 52 [(2, (.box 24 (Is (.agg #[.bool false, .slice none 0 0]))))] [(20, (Is (.bool true))), (5, (Is (.int .i64 0))), (11, (Is (.bool false))), (3, (Is (.int .i64 0))), (4, (Is (.int .i64 0))), (0, (Is (str l)))] B4 a4 W4 := S4
  refine wp_cond_true (S4.bool 0 20 rfl) ?_
  refine wp_stmt [.val (Is (.int .i64 1))] [.inr 0] [.inl 0, .inr 0, .inr 2, .inr 3, .inr 4, .inr 5] follows S4 rfl (by kernel_rfl) ?_ ?_
  · refine ⟨trivial, ?_⟩
    · exact owe_move rfl (wants_all rfl) (Or.inr rfl) (opnd_const _) rfl
  intro B5 a5 W5 S5
  replace S5 : Sta w 52 [(2, (.box 24 (Is (.agg #[.bool false, .slice none 0 0]))))] [(5, (Is (.int .i64 1))), (20, (Is (.bool true))), (11, (Is (.bool false))), (3, (Is (.int .i64 0))), (4, (Is (.int .i64 0))), (0, (Is (str l)))] B5 a5 W5 := S5
  refine thenN ?_
  refine wp_seq ?_
  refine wp_stmt_seq [.val (Is (.int .i64 1)),
      .val (Is (.bool true)),
      .val (Is (.bool true)),
      .val (Is (str l)),
      .val (Is (.int .i64 ((l).length : Nat))),
      .val (Is (.bool true)),
      .val (Is (.bool true)),
      .val (Is (.bool true)),
      .val (Is (str l)),
      .val (Is (.int .u8 ((bt l 1 : Nat) : Int))),
      .val (Is (.bool false)),
      .val (Is (.bool false))] [.inr 0] [.inl 11, .inr 0, .inr 1, .inr 2, .inr 3, .inr 4, .inr 5] follows S5 rfl (by kernel_rfl) ?_ ?_
  · refine ⟨⟨⟨⟨⟨⟨⟨⟨⟨⟨⟨⟨trivial, ?_⟩, ?_⟩, ?_⟩, ?_⟩, ?_⟩, ?_⟩, ?_⟩, ?_⟩, ?_⟩, ?_⟩, ?_⟩, ?_⟩
    · exact owe_move rfl (wants_all rfl) (Or.inl rfl) (opnd_slot 0 5 rfl (by kernel_rfl)) rfl
    · exact owe_bin rfl (wants_all rfl) rfl (opnd_op 0 21 (by kernel_rfl) rfl) (opnd_const _) rfl (fun ρ w h1 h2 => by exact run_eql_int_t ρ _ _ _ w _ _ rfl h1 h2)
    · exact owe_move rfl (wants_all rfl) (Or.inl rfl) (opnd_op 1 22 (by kernel_rfl) rfl) rfl
    · exact owe_move rfl (wants_if 2 23 rfl (by kernel_rfl) rfl) (Or.inl rfl) (opnd_slot 5 0 rfl (by kernel_rfl)) rfl
    · exact owe_un (x := .tmp 24) rfl (wants_if 2 23 rfl (by kernel_rfl) rfl) rfl (opnd_op 3 24 (by kernel_rfl) rfl) rfl (fun ρ w h1 => run_lens ρ _ _ w _ h1)
    · exact owe_bin rfl (wants_if 2 23 rfl (by kernel_rfl) rfl) rfl (opnd_op 4 25 (by kernel_rfl) rfl) (opnd_const _) rfl (fun ρ w h1 h2 => by exact run_gtr_int_t ρ _ _ _ w _ _ (by omega) h1 h2)
    · exact owe_pick rfl (wants_all rfl) rfl (opnd_op 2 23 (by kernel_rfl) rfl) (fun _ => (opnd_op 5 26 (by kernel_rfl) rfl)) (fun h => nomatch h) rfl
    · exact owe_move rfl (wants_all rfl) (Or.inl rfl) (opnd_op 6 27 (by kernel_rfl) rfl) rfl
    · exact owe_move rfl (wants_if 7 28 rfl (by kernel_rfl) rfl) (Or.inl rfl) (opnd_slot 5 0 rfl (by kernel_rfl)) rfl
    · exact owe_two rfl (wants_if 7 28 rfl (by kernel_rfl) rfl) rfl (opnd_op 8 29 (by kernel_rfl) rfl) (opnd_const _) rfl (fun ρ w h1 h2 => run_idx ρ _ _ _ w l 1 (by omega) h1 h2)
    · exact owe_bin rfl (wants_if 7 28 rfl (by kernel_rfl) rfl) rfl (opnd_op 9 30 (by kernel_rfl) rfl) (opnd_const _) rfl (fun ρ w h1 h2 => by exact run_eql_u8_f ρ _ _ _ w _ _ (by omega) h1 h2)
    · exact owe_pick rfl (wants_all rfl) rfl (opnd_op 7 28 (by kernel_rfl) rfl) (fun _ => (opnd_op 10 31 (by kernel_rfl) rfl)) (fun h => nomatch h) rfl
  intro B6 a6 W6 S6
  replace S6 : Sta w 52 [(2, (.box 24 (Is (.agg #[.bool false, .slice none 0 0]))))] [(32, (Is (.bool false))), (5, (Is (.int .i64 1))), (20, (Is (.bool true))), (11, (Is (.bool false))), (3, (Is (.int .i64 0))), (4, (Is (.int .i64 0))), (0, (Is (str l)))] B6 a6 W6 := S6
  refine wp_cond_false (S6.bool 0 32 rfl) ?_
  refine wp_skip ?_
  refine thenN ?_
  refine wp_stmt_seq [.val (Is (str l)),
      .val (Is (.int .i64 1)),
      .val (Is (str (l.drop 1))),
      .val ((THREE (NN (decV (l.drop 1))) (IS (.int .i64 0)) (IS (.int .i64 0))) w.heap.size),
      .val ((THREE (NN (decV (l.drop 1))) (IS (.int .i64 0)) (IS (.int .i64 0))) w.heap.size),
      .val ((NN (decV (l.drop 1))) w.heap.size),
      .val (Is (.int .i64 0)),
      .val (Is (.int .i64 0)),
      .val ((NN (decV (l.drop 1))) w.heap.size),
      .val (Is (.int .i64 0)),
      .val (Is (.int .i64 0))] [.inr 0] [.inl 8, .inl 9, .inl 10, .inr 0, .inr 1, .inr 2, .inr 3, .inr 4, .inr 5, .inr 6] follows S6 rfl (by kernel_rfl) ?_ ?_
  · refine ⟨⟨⟨⟨⟨⟨⟨⟨⟨⟨⟨trivial, ?_⟩, ?_⟩, ?_⟩, ?_⟩, ?_⟩, ?_⟩, ?_⟩, ?_⟩, ?_⟩, ?_⟩, ?_⟩
    · exact owe_move rfl (wants_all rfl) (Or.inl rfl) (opnd_slot 6 0 rfl (by kernel_rfl)) rfl
    · exact owe_move rfl (wants_all rfl) (Or.inl rfl) (opnd_slot 1 5 rfl (by kernel_rfl)) rfl
    · exact owe_two rfl (wants_all rfl) rfl (opnd_op 0 35 (by kernel_rfl) rfl) (opnd_op 1 36 (by kernel_rfl) rfl) rfl (fun ρ w h1 h2 => run_slo ρ _ _ _ w _ 1 (by omega) h1 h2)
    · exact owe_callh1 rfl (wants_all rfl) rfl (opnd_op 2 37 (by kernel_rfl) rfl) (fresh_three (fresh_nn _) (fresh_is _) (fresh_is _)) rfl (fun args w => by go_simp) (fun w u h => by obtain rfl : u = _ := h.now; exact rr_good w _ (by simp; omega) (by simp; omega) hg)
    · exact owe_move rfl (wants_all rfl) (Or.inl rfl) (opnd_op 3 38 (by kernel_rfl) rfl) rfl
    · exact owe_ext3 rfl (wants_all rfl) rfl (opnd_op 4 34 (by kernel_rfl) rfl) (Or.inl ⟨rfl, rfl⟩) rfl
    · exact owe_ext3 rfl (wants_all rfl) rfl (opnd_op 4 34 (by kernel_rfl) rfl) (Or.inr (Or.inl ⟨rfl, rfl⟩)) rfl
    · exact owe_ext3 rfl (wants_all rfl) rfl (opnd_op 4 34 (by kernel_rfl) rfl) (Or.inr (Or.inr ⟨rfl, rfl⟩)) rfl
    · exact owe_move rfl (wants_all rfl) (Or.inr rfl) (opnd_op 5 39 (by kernel_rfl) rfl) rfl
    · exact owe_move rfl (wants_all rfl) (Or.inr rfl) (opnd_op 6 40 (by kernel_rfl) rfl) rfl
    · exact owe_move rfl (wants_all rfl) (Or.inr rfl) (opnd_op 7 41 (by kernel_rfl) rfl) rfl
  intro B7 a7 W7 S7
  replace S7 : Sta w 52 [(2, (.box 24 (Is (.agg #[.bool false, .slice none 0 0]))))] [(6, ((NN (decV (l.drop 1))) w.heap.size)), (7, (Is (.int .i64 0))), (8, (Is (.int .i64 0))), (32, (Is (.bool false))), (5, (Is (.int .i64 1))), (20, (Is (.bool true))), (11, (Is (.bool false))), (3, (Is (.int .i64 0))), (4, (Is (.int .i64 0))), (0, (Is (str l)))] B7 a7 W7 := S7
  refine wp_seq ?_
  refine wp_stmt_seq [.val (Is (.int .i64 0)),
      .val (Is (.bool false))] [.inr 0] [.inl 1, .inr 0, .inr 1, .inr 3, .inr 4, .inr 5, .inr 6, .inr 7, .inr 8, .inr 9] follows S7 rfl (by kernel_rfl) ?_ ?_
  · refine ⟨⟨trivial, ?_⟩, ?_⟩
    · exact owe_move rfl (wants_all rfl) (Or.inl rfl) (opnd_slot 2 8 rfl (by kernel_rfl)) rfl
    · exact owe_bin rfl (wants_all rfl) rfl (opnd_op 0 42 (by kernel_rfl) rfl) (opnd_const _) rfl (fun ρ w h1 h2 => by exact run_neq_int_f ρ _ _ _ w _ _ rfl h1 h2)
  intro B8 a8 W8 S8
  replace S8 : Sta w 52 [(2, (.box 24 (Is (.agg #[.bool false, .slice none 0 0]))))] [(43, (Is (.bool false))), (6, ((NN (decV (l.drop 1))) w.heap.size)), (7, (Is (.int .i64 0))), (32, (Is (.bool false))), (5, (Is (.int .i64 1))), (20, (Is (.bool true))), (11, (Is (.bool false))), (3, (Is (.int .i64 0))), (4, (Is (.int .i64 0))), (0, (Is (str l)))] B8 a8 W8 := S8
  refine wp_cond_false (S8.bool 0 43 rfl) ?_
  refine wp_skip ?_
  refine thenN ?_
  refine wp_stmt_seq [.val (Is (.int .i64 1)),
      .val (Is (.bool true)),
      .val ((NN (decV (l.drop 1))) w.heap.size),
      .val ((ZN (sg true (decV (l.drop 1)))) w.heap.size),
      .put (.inl 2) (.box 24 ((ZN (sg true (decV (l.drop 1)))) w.heap.size)),
      .val (Is (.int .i64 0)),
      .val (Is (.int .i64 0))] [.inr 0] [.inl 5, .inl 6, .inr 0, .inr 2, .inr 3, .inr 4, .inr 5, .inr 6, .inr 9] follows S8 rfl (by kernel_rfl) ?_ ?_
  · refine ⟨⟨⟨⟨⟨⟨⟨trivial, ?_⟩, ?_⟩, ?_⟩, ?_⟩, ?_⟩, ?_⟩, ?_⟩
    · exact owe_move rfl (wants_all rfl) (Or.inl rfl) (opnd_slot 4 5 rfl (by kernel_rfl)) rfl
    · exact owe_bin rfl (wants_all rfl) rfl (opnd_op 0 48 (by kernel_rfl) rfl) (opnd_const _) rfl (fun ρ w h1 h2 => by exact run_eql_int_t ρ _ _ _ w _ _ rfl h1 h2)
    · exact owe_move rfl (wants_all rfl) (Or.inl rfl) (opnd_slot 1 6 rfl (by kernel_rfl)) rfl
    · exact owe_call2 rfl (wants_all rfl) rfl (opnd_op 1 49 (by kernel_rfl) rfl) (opnd_op 2 50 (by kernel_rfl) rfl) (fresh_zn _) rfl (fun args w => by go_simp) (fun w u v h1 h2 => g_made (by omega) w u v h1 ((nn_nv (Nat.le_refl _)) _ _ h2))
    · exact owe_set rfl (wants_all rfl) rfl (k := 0) rfl (by kernel_rfl) (opnd_op 3 51 (by kernel_rfl) rfl) (stores_of strct_int shp_z0 shp_zn) rfl
    · exact owe_move rfl (wants_all rfl) (Or.inr rfl) (opnd_const _) rfl
    · exact owe_move rfl (wants_all rfl) (Or.inr rfl) (opnd_const _) rfl
  intro B9 a9 W9 S9
  replace S9 : Sta w 52 [(2, (.box 24 ((ZN (sg true (decV (l.drop 1)))) w.heap.size)))] [(3, (Is (.int .i64 0))), (4, (Is (.int .i64 0))), (43, (Is (.bool false))), (7, (Is (.int .i64 0))), (32, (Is (.bool false))), (5, (Is (.int .i64 1))), (20, (Is (.bool true))), (11, (Is (.bool false))), (0, (Is (str l)))] B9 a9 W9 := S9
  refine wp_ret ?_
  exact end_three S9 rfl (res_cell S9 0 2 rfl strct_int shp_zn) (res_tmp S9 0 3 rfl) (res_tmp S9 1 4 rfl)

set_option maxHeartbeats 1000000 in
theorem rz_okp (w : World) (l : List UInt8) (hl : l.length ≤ 65536) (hp : 0 < l.length) (h45 : bt l 0 ≠ 45) (hg : ∀ i, i < l.length → ¬ bad l i) (hdl : (digs (decV l)).length ≤ 65536) :
    Calls Tryd.prog 9 #[str l] w (Gives (THREE (ZN (sg false (decV l))) (IS (.int .i64 0)) (IS (.int .i64 0))) w) := by
  refine calls_sta (sl := [(0, (Is (str l)))]) Tryd.func9 rfl Tryd.ntmps9 (by simp) (args_cons rfl (is_has _) args_nil) ?_
  intro a0 S0
  refine wp_stmt_seq [.new (.box 24 (Is (.agg #[.bool false, .slice none 0 0]))),
      .val (Is (.int .i64 0)),
      .val (Is (.int .i64 0))] [.inl 0] [.inl 1, .inl 2, .inr 0] follows S0 rfl (by kernel_rfl) ?_ ?_
  · refine ⟨⟨⟨trivial, ?_⟩, ?_⟩, ?_⟩
    · exact owe_new rfl (wants_all rfl) rfl rfl (fun ρ w => alloc_int ρ _ w)
    · exact owe_move rfl (wants_all rfl) (Or.inr rfl) (opnd_const _) rfl
    · exact owe_move rfl (wants_all rfl) (Or.inr rfl) (opnd_const _) rfl
  intro B1 a1 W1 S1
  replace S1 : Sta w 52 [(2, (.box 24 (Is (.agg #[.bool false, .slice none 0 0]))))] [(3, (Is (.int .i64 0))), (4, (Is (.int .i64 0))), (0, (Is (str l)))] B1 a1 W1 := S1
  refine wp_seq ?_
  refine wp_stmt_seq [.val (Is (str l)),
      .val (Is (.int .i64 ((l).length : Nat))),
      .val (Is (.bool false))] [.inr 0] [.inl 2, .inr 0, .inr 1, .inr 2] follows S1 rfl (by kernel_rfl) ?_ ?_
  · refine ⟨⟨⟨trivial, ?_⟩, ?_⟩, ?_⟩
    · exact owe_move rfl (wants_all rfl) (Or.inl rfl) (opnd_slot 2 0 rfl (by kernel_rfl)) rfl
    · exact owe_un (x := .tmp 9) rfl (wants_all rfl) rfl (opnd_op 0 9 (by kernel_rfl) rfl) rfl (fun ρ w h1 => run_lens ρ _ _ w _ h1)
    · exact owe_bin rfl (wants_all rfl) rfl (opnd_op 1 10 (by kernel_rfl) rfl) (opnd_const _) rfl (fun ρ w h1 h2 => by exact run_gtr_int_f ρ _ _ _ w _ _ (by omega) h1 h2)
  intro B2 a2 W2 S2
  replace S2 : Sta w 52 [(2, (.box 24 (Is (.agg #[.bool false, .slice none 0 0]))))] [(11, (Is (.bool false))), (3, (Is (.int .i64 0))), (4, (Is (.int .i64 0))), (0, (Is (str l)))] B2 a2 W2 := S2
  refine wp_cond_false (S2.bool 0 11 rfl) ?_
  refine wp_skip ?_
  refine thenN ?_
  refine wp_stmt_seq [.val (Is (.int .i64 0))] [.inr 0] [.inl 0, .inr 0, .inr 1, .inr 2, .inr 3] follows S2 rfl (by kernel_rfl) ?_ ?_
  · refine ⟨trivial, ?_⟩
    · exact owe_move rfl (wants_all rfl) (Or.inr rfl) (opnd_const _) rfl
  intro B3 a3 W3 S3
  replace S3 : Sta w 52 [(2, (.box 24 (Is (.agg #[.bool false, .slice none 0 0]))))] [(5, (Is (.int .i64 0))), (11, (Is (.bool false))), (3, (Is (.int .i64 0))), (4, (Is (.int .i64 0))), (0, (Is (str l)))] B3 a3 W3 := S3
  refine wp_seq ?_
  refine wp_stmt_seq [.val (Is (str l)),
      .val (Is (.int .i64 ((l).length : Nat))),
      .val (Is (.bool true)),
      .val (Is (.bool true)),
      .val (Is (str l)),
      .val (Is (.int .u8 ((bt l 0 : Nat) : Int))),
      .val (Is (.bool false)),
      .val (Is (.bool false))] [.inr 0] [.inl 7, .inr 0, .inr 1, .inr 2, .inr 3, .inr 4] follows S3 rfl (by kernel_rfl) ?_ ?_
  · refine ⟨⟨⟨⟨⟨⟨⟨⟨trivial, ?_⟩, ?_⟩, ?_⟩, ?_⟩, ?_⟩, ?_⟩, ?_⟩, ?_⟩
    · exact owe_move rfl (wants_all rfl) (Or.inl rfl) (opnd_slot 4 0 rfl (by kernel_rfl)) rfl
    · exact owe_un (x := .tmp 13) rfl (wants_all rfl) rfl (opnd_op 0 13 (by kernel_rfl) rfl) rfl (fun ρ w h1 => run_lens ρ _ _ w _ h1)
    · exact owe_bin rfl (wants_all rfl) rfl (opnd_op 1 14 (by kernel_rfl) rfl) (opnd_const _) rfl (fun ρ w h1 h2 => by exact run_gtr_int_t ρ _ _ _ w _ _ (by omega) h1 h2)
    · exact owe_move rfl (wants_all rfl) (Or.inl rfl) (opnd_op 2 15 (by kernel_rfl) rfl) rfl
    · exact owe_move rfl (wants_if 3 16 rfl (by kernel_rfl) rfl) (Or.inl rfl) (opnd_slot 4 0 rfl (by kernel_rfl)) rfl
    · exact owe_two rfl (wants_if 3 16 rfl (by kernel_rfl) rfl) rfl (opnd_op 4 17 (by kernel_rfl) rfl) (opnd_const _) rfl (fun ρ w h1 h2 => run_idx ρ _ _ _ w l 0 (by omega) h1 h2)
    · exact owe_bin rfl (wants_if 3 16 rfl (by kernel_rfl) rfl) rfl (opnd_op 5 18 (by kernel_rfl) rfl) (opnd_const _) rfl (fun ρ w h1 h2 => by exact run_eql_u8_f ρ _ _ _ w _ _ (by omega) h1 h2)
    · exact owe_pick rfl (wants_all rfl) rfl (opnd_op 3 16 (by kernel_rfl) rfl) (fun _ => (opnd_op 6 19 (by kernel_rfl) rfl)) (fun h => nomatch h) rfl
  intro B4 a4 W4 S4
  replace S4 : Sta w 52 [(2, (.box 24 (Is (.agg #[.bool false, .slice none 0 0]))))] [(20, (Is (.bool false))), (5, (Is (.int .i64 0))), (11, (Is (.bool false))), (3, (Is (.int .i64 0))), (4, (Is (.int .i64 0))), (0, (Is (str l)))] B4 a4 W4 := S4
  refine wp_cond_false (S4.bool 0 20 rfl) ?_
  refine wp_skip ?_
  refine thenN ?_
  refine wp_seq ?_
  refine wp_stmt_seq [.val (Is (.int .i64 0)),
      .val (Is (.bool false)),
      .val (Is (.bool false)),
      .off,
      .off,
      .off,
      .val (Is (.bool false)),
      .val (Is (.bool false)),
      .off,
      .off,
      .off,
      .val (Is (.bool false))] [.inr 0] [.inl 11, .inr 0, .inr 1, .inr 2, .inr 3, .inr 4, .inr 5] follows S4 rfl (by kernel_rfl) ?_ ?_
  · refine ⟨⟨⟨⟨⟨⟨⟨⟨⟨⟨⟨⟨trivial, ?_⟩, ?_⟩, ?_⟩, ?_⟩, ?_⟩, ?_⟩, ?_⟩, ?_⟩, ?_⟩, ?_⟩, ?_⟩, ?_⟩
    · exact owe_move rfl (wants_all rfl) (Or.inl rfl) (opnd_slot 1 5 rfl (by kernel_rfl)) rfl
    · exact owe_bin rfl (wants_all rfl) rfl (opnd_op 0 21 (by kernel_rfl) rfl) (opnd_const _) rfl (fun ρ w h1 h2 => by exact run_eql_int_f ρ _ _ _ w _ _ (by decide) h1 h2)
    · exact owe_move rfl (wants_all rfl) (Or.inl rfl) (opnd_op 1 22 (by kernel_rfl) rfl) rfl
    · exact owe_off 2 23 rfl rfl rfl (by kernel_rfl) rfl (by decide)
    · exact owe_off 2 23 rfl rfl rfl (by kernel_rfl) rfl (by decide)
    · exact owe_off 2 23 rfl rfl rfl (by kernel_rfl) rfl (by decide)
    · exact owe_pick rfl (wants_all rfl) rfl (opnd_op 2 23 (by kernel_rfl) rfl) (fun h => nomatch h) (fun _ => (opnd_const _)) rfl
    · exact owe_move rfl (wants_all rfl) (Or.inl rfl) (opnd_op 6 27 (by kernel_rfl) rfl) rfl
    · exact owe_off 7 28 rfl rfl rfl (by kernel_rfl) rfl (by decide)
    · exact owe_off 7 28 rfl rfl rfl (by kernel_rfl) rfl (by decide)
    · exact owe_off 7 28 rfl rfl rfl (by kernel_rfl) rfl (by decide)
    · exact owe_pick rfl (wants_all rfl) rfl (opnd_op 7 28 (by kernel_rfl) rfl) (fun h => nomatch h) (fun _ => (opnd_const _)) rfl
  intro B5 a5 W5 S5
  replace S5 : Sta w 52 [(2, (.box 24 (Is (.agg #[.bool false, .slice none 0 0]))))] [(32, (Is (.bool false))), (20, (Is (.bool false))), (5, (Is (.int .i64 0))), (11, (Is (.bool false))), (3, (Is (.int .i64 0))), (4, (Is (.int .i64 0))), (0, (Is (str l)))] B5 a5 W5 := S5
  refine wp_cond_false (S5.bool 0 32 rfl) ?_
  refine wp_skip ?_
  refine thenN ?_
  refine wp_stmt_seq [.val (Is (str l)),
      .val (Is (.int .i64 0)),
      .val (Is (str (l.drop 0))),
      .val ((THREE (NN (decV l)) (IS (.int .i64 0)) (IS (.int .i64 0))) w.heap.size),
      .val ((THREE (NN (decV l)) (IS (.int .i64 0)) (IS (.int .i64 0))) w.heap.size),
      .val ((NN (decV l)) w.heap.size),
      .val (Is (.int .i64 0)),
      .val (Is (.int .i64 0)),
      .val ((NN (decV l)) w.heap.size),
      .val (Is (.int .i64 0)),
      .val (Is (.int .i64 0))] [.inr 0] [.inl 8, .inl 9, .inl 10, .inr 0, .inr 1, .inr 2, .inr 3, .inr 4, .inr 5, .inr 6] follows S5 rfl (by kernel_rfl) ?_ ?_
  · refine ⟨⟨⟨⟨⟨⟨⟨⟨⟨⟨⟨trivial, ?_⟩, ?_⟩, ?_⟩, ?_⟩, ?_⟩, ?_⟩, ?_⟩, ?_⟩, ?_⟩, ?_⟩, ?_⟩
    · exact owe_move rfl (wants_all rfl) (Or.inl rfl) (opnd_slot 6 0 rfl (by kernel_rfl)) rfl
    · exact owe_move rfl (wants_all rfl) (Or.inl rfl) (opnd_slot 2 5 rfl (by kernel_rfl)) rfl
    · exact owe_two rfl (wants_all rfl) rfl (opnd_op 0 35 (by kernel_rfl) rfl) (opnd_op 1 36 (by kernel_rfl) rfl) rfl (fun ρ w h1 h2 => run_slo ρ _ _ _ w _ 0 (by omega) h1 h2)
    · exact owe_callh1 rfl (wants_all rfl) rfl (opnd_op 2 37 (by kernel_rfl) rfl) (fresh_three (fresh_nn _) (fresh_is _) (fresh_is _)) rfl (fun args w => by go_simp) (fun w u h => by obtain rfl : u = _ := h.now; exact rr_good w l hl hp hg)
    · exact owe_move rfl (wants_all rfl) (Or.inl rfl) (opnd_op 3 38 (by kernel_rfl) rfl) rfl
    · exact owe_ext3 rfl (wants_all rfl) rfl (opnd_op 4 34 (by kernel_rfl) rfl) (Or.inl ⟨rfl, rfl⟩) rfl
    · exact owe_ext3 rfl (wants_all rfl) rfl (opnd_op 4 34 (by kernel_rfl) rfl) (Or.inr (Or.inl ⟨rfl, rfl⟩)) rfl
    · exact owe_ext3 rfl (wants_all rfl) rfl (opnd_op 4 34 (by kernel_rfl) rfl) (Or.inr (Or.inr ⟨rfl, rfl⟩)) rfl
    · exact owe_move rfl (wants_all rfl) (Or.inr rfl) (opnd_op 5 39 (by kernel_rfl) rfl) rfl
    · exact owe_move rfl (wants_all rfl) (Or.inr rfl) (opnd_op 6 40 (by kernel_rfl) rfl) rfl
    · exact owe_move rfl (wants_all rfl) (Or.inr rfl) (opnd_op 7 41 (by kernel_rfl) rfl) rfl
  intro B6 a6 W6 S6
  replace S6 : Sta w 52 [(2, (.box 24 (Is (.agg #[.bool false, .slice none 0 0]))))] [(6, ((NN (decV l)) w.heap.size)), (7, (Is (.int .i64 0))), (8, (Is (.int .i64 0))), (32, (Is (.bool false))), (20, (Is (.bool false))), (5, (Is (.int .i64 0))), (11, (Is (.bool false))), (3, (Is (.int .i64 0))), (4, (Is (.int .i64 0))), (0, (Is (str l)))] B6 a6 W6 := S6
  refine wp_seq ?_
  refine wp_stmt_seq [.val (Is (.int .i64 0)),
      .val (Is (.bool false))] [.inr 0] [.inl 1, .inr 0, .inr 1, .inr 3, .inr 4, .inr 5, .inr 6, .inr 7, .inr 8, .inr 9] follows S6 rfl (by kernel_rfl) ?_ ?_
  · refine ⟨⟨trivial, ?_⟩, ?_⟩
    · exact owe_move rfl (wants_all rfl) (Or.inl rfl) (opnd_slot 2 8 rfl (by kernel_rfl)) rfl
    · exact owe_bin rfl (wants_all rfl) rfl (opnd_op 0 42 (by kernel_rfl) rfl) (opnd_const _) rfl (fun ρ w h1 h2 => by exact run_neq_int_f ρ _ _ _ w _ _ rfl h1 h2)
  intro B7 a7 W7 S7
  replace S7 : Sta w 52 [(2, (.box 24 (Is (.agg #[.bool false, .slice none 0 0]))))] [(43, (Is (.bool false))), (6, ((NN (decV l)) w.heap.size)), (7, (Is (.int .i64 0))), (32, (Is (.bool false))), (20, (Is (.bool false))), (5, (Is (.int .i64 0))), (11, (Is (.bool false))), (3, (Is (.int .i64 0))), (4, (Is (.int .i64 0))), (0, (Is (str l)))] B7 a7 W7 := S7
  refine wp_cond_false (S7.bool 0 43 rfl) ?_
  refine wp_skip ?_
  refine thenN ?_
  refine wp_stmt_seq [.val (Is (.int .i64 0)),
      .val (Is (.bool false)),
      .val ((NN (decV l)) w.heap.size),
      .val ((ZN (sg false (decV l))) w.heap.size),
      .put (.inl 2) (.box 24 ((ZN (sg false (decV l))) w.heap.size)),
      .val (Is (.int .i64 0)),
      .val (Is (.int .i64 0))] [.inr 0] [.inl 5, .inl 6, .inr 0, .inr 2, .inr 3, .inr 4, .inr 5, .inr 6, .inr 9] follows S7 rfl (by kernel_rfl) ?_ ?_
  · refine ⟨⟨⟨⟨⟨⟨⟨trivial, ?_⟩, ?_⟩, ?_⟩, ?_⟩, ?_⟩, ?_⟩, ?_⟩
    · exact owe_move rfl (wants_all rfl) (Or.inl rfl) (opnd_slot 5 5 rfl (by kernel_rfl)) rfl
    · exact owe_bin rfl (wants_all rfl) rfl (opnd_op 0 48 (by kernel_rfl) rfl) (opnd_const _) rfl (fun ρ w h1 h2 => by exact run_eql_int_f ρ _ _ _ w _ _ (by decide) h1 h2)
    · exact owe_move rfl (wants_all rfl) (Or.inl rfl) (opnd_slot 1 6 rfl (by kernel_rfl)) rfl
    · exact owe_call2 rfl (wants_all rfl) rfl (opnd_op 1 49 (by kernel_rfl) rfl) (opnd_op 2 50 (by kernel_rfl) rfl) (fresh_zn _) rfl (fun args w => by go_simp) (fun w u v h1 h2 => g_made (by omega) w u v h1 ((nn_nv (Nat.le_refl _)) _ _ h2))
    · exact owe_set rfl (wants_all rfl) rfl (k := 0) rfl (by kernel_rfl) (opnd_op 3 51 (by kernel_rfl) rfl) (stores_of strct_int shp_z0 shp_zn) rfl
    · exact owe_move rfl (wants_all rfl) (Or.inr rfl) (opnd_const _) rfl
    · exact owe_move rfl (wants_all rfl) (Or.inr rfl) (opnd_const _) rfl
  intro B8 a8 W8 S8
  replace S8 : Sta w 52 [(2, (.box 24 ((ZN (sg false (decV l))) w.heap.size)))] [(3, (Is (.int .i64 0))), (4, (Is (.int .i64 0))), (43, (Is (.bool false))), (7, (Is (.int .i64 0))), (32, (Is (.bool false))), (20, (Is (.bool false))), (5, (Is (.int .i64 0))), (11, (Is (.bool false))), (0, (Is (str l)))] B8 a8 W8 := S8
  refine wp_ret ?_
  exact end_three S8 rfl (res_cell S8 0 2 rfl strct_int shp_zn) (res_tmp S8 0 3 rfl) (res_tmp S8 1 4 rfl)

theorem h_rzread {l : List UInt8} {Z E : Int} {A : Nat} (h : RdIs l Z A E) : ∀ w u, Is (str l) u w → Calls Tryd.prog 9 #[u] w (Gives (THREE (ZN Z) (IS (.int .i64 (A : Nat))) (IS (.int .i64 E))) w) := by
  rintro w u rfl
  cases h with
  | long h => exact zn_zero3 (rz_long w l h)
  | bad i h1 h2 h3 h4 =>
    cases e : isN l with
    | true =>
      obtain ⟨p1, p2⟩ := isN_t e
      have hi0 : A ≠ 0 := fun h => by rw [h, goes_m0 p2] at h3; cases h3
      by_cases h48 : bt l 1 = 48
      · have : A = 1 := by
          apply Classical.byContradiction
          intro hne
          have := h4 1 (by omega)
          rw [goes_m1 p2 h48] at this
          cases this
        subst this
        exact zn_zero3 (rz_n1 w l h1 (by omega) p2 h48)
      · obtain ⟨j, rfl⟩ : ∃ j, A = j + 1 := ⟨A - 1, by omega⟩
        refine zn_zero3 (rz_n2 w l j h1 h2 p2 h48 ?_ (fun i hi => (goes_minus p2 h48).1 (h4 (i + 1) (by omega))))
        apply Classical.byContradiction
        intro hn
        rw [(goes_minus p2 h48).2 hn] at h3
        cases h3
    | false =>
      have p := isN_plain e
      refine zn_zero3 (rz_p w l A h1 h2 p ?_ (fun i hi => (goes_plain p).1 (h4 i hi)))
      apply Classical.byContradiction
      intro hn
      rw [(goes_plain p).2 hn] at h3
      cases h3
  | none h1 h2 h3 =>
    cases e : isN l with
    | true =>
      obtain ⟨p1, p2⟩ := isN_t e
      rw [tl_t e] at h3
      have hlen : l.length = 1 := by have := congrArg List.length h3; simp at this; omega
      rw [hlen]
      exact zn_zero3 (rz_e1 w l hlen p2)
    | false =>
      rw [tl_f e] at h3
      subst h3
      exact zn_zero3 (rz_e0 w [] rfl)
  | ok h1 h2 h3 =>
    have hd := all_dig h2
    cases e : isN l with
    | true =>
      obtain ⟨p1, p2⟩ := isN_t e
      rw [tl_t e] at h3 hd ⊢
      have hp : 1 < l.length := by
        apply Classical.byContradiction
        intro hc
        exact h3 (List.drop_eq_nil_of_le (by omega))
      have h48 : bt l 1 ≠ 48 := fun h5 => by
        have := h2 1 (by omega)
        rw [goes_m1 p2 h5] at this
        cases this
      exact rz_okn w l h1 hp p2 h48 (fun i hi => (goes_minus p2 h48).1 (h2 (i + 1) (by simp at hi; omega))) (decV_dl hd (by simp; omega))
    | false =>
      rw [tl_f e] at h3 hd ⊢
      have hp : 0 < l.length := List.length_pos_iff.2 h3
      exact rz_okp w l h1 hp (isN_plain e) (fun i hi => (goes_plain (isN_plain e)).1 (h2 i hi)) (decV_dl hd h1)
end Go.Proofs.YtoplejeljmpcpaaDoor
