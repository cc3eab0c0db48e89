/-
  ZintTotals' walk: it returns true and writes nothing that was there.
-/
import Derived.Test.YtnbmpldfbbidmaaZSum
import Derived.Test.YtnbmpldfbbidmaaListsSum
namespace Go.Proofs.Ytnbmpldfbbidmaa
open Go Go.RowKit Nt
set_option linter.unusedSimpArgs false
set_option linter.unusedVariables false

set_option maxHeartbeats 400000 in
theorem zsum_w (w : World) (u : Value) (es : List El) (n : Nat) (h : Lc es n u w) (hn : n ≤ 1048576) (hB : ∀ (i : Nat) (e : El), es[i]? = some e → e.n ≤ 1048576) :
    Calls Try.prog 6 #[u] w (Gives (ZN (tot es n)) w) := by
  refine calls_sta (sl := [(0, (Lc es n))]) Try.func6 rfl Try.ntmps6 (by simp) (args_cons rfl (lc_has h) args_nil) ?_
  intro a0 S0
  refine wp_stmt_seq [.new (.box 25 (Is (.agg #[.bool false, .slice none 0 0])))] [.inl 0] [.inr 0] follows S0 rfl (by kernel_rfl) ?_ ?_
  · refine ⟨trivial, ?_⟩
    · exact owe_new rfl (wants_all rfl) rfl rfl (fun ρ w => alloc_int ρ _ w)
  intro B1 a1 W1 S1
  replace S1 : Sta w 5 [(2, (.box 25 (Is (.agg #[.bool false, .slice none 0 0]))))] [(0, (Lc es n))] B1 a1 W1 := S1
  refine wp_stmt_seq [.val (Lc es n),
      .val ((ZN (tot es n)) w.heap.size),
      .put (.inl 2) (.box 25 ((ZN (tot es n)) w.heap.size))] [.inr 0] [] follows S1 rfl (by kernel_rfl) ?_ ?_
  · refine ⟨⟨⟨trivial, ?_⟩, ?_⟩, ?_⟩
    · exact owe_move rfl (wants_all rfl) (Or.inl rfl) (opnd_slot 0 0 rfl (by kernel_rfl)) rfl
    · exact owe_call1 rfl (wants_all rfl) rfl (opnd_op 0 3 (by kernel_rfl) rfl) (fresh_zn _) rfl (fun args w => by go_simp) (g_ztotal hn hB)
    · exact owe_set rfl (wants_all rfl) rfl (k := 0) rfl (by kernel_rfl) (opnd_op 1 4 (by kernel_rfl) rfl) (stores_of strct_int shp_z0 shp_zn) rfl
  intro B2 a2 W2 S2
  replace S2 : Sta w 5 [(2, (.box 25 ((ZN (tot es n)) w.heap.size)))] [] B2 a2 W2 := S2
  refine wp_ret ?_
  exact end_one S2 rfl (res_cell S2 0 2 rfl strct_int shp_zn)

set_option maxHeartbeats 2000000 in
theorem ztotals_w (w : World) (p : Option Addr) (n c : Nat) (es : List El) (h : Ls w p n c es) (hn : n ≤ 1048576) (hB : ∀ (i : Nat) (e : El), es[i]? = some e → e.n ≤ 1048576) (hC : ∀ (i : Nat) (e : El), es[i]? = some e → e.c ≤ 35184372087808) (rsum : ∀ w u, Lx p n c es u w → Calls Try.prog 7 #[u] w (Gives (ZN (tot es n)) w)) :
    Calls Try.prog 3 #[.slice p n c] w (Gives (IS (.bool true)) w) := by
  refine calls_sta (sl := [(0, (Lx p n c es))]) Try.func3 rfl Try.ntmps3 (by simp) (args_cons rfl (lx_has h) args_nil) ?_
  intro a0 S0
  refine wp_stmt_seq [.val (Is (.bool false))] [] [.inl 0, .inr 0] follows S0 rfl (by kernel_rfl) ?_ ?_
  · refine ⟨trivial, ?_⟩
    · exact owe_move rfl (wants_all rfl) (Or.inr rfl) (opnd_const _) rfl
  intro B1 a1 W1 S1
  replace S1 : Sta w 24 [] [(2, (Is (.bool false))), (0, (Lx p n c es))] B1 a1 W1 := S1
  refine wp_stmt_seq [.new (.row 25 2 0 (CL (es.take 0)))] [.inl 0] [.inr 0, .inr 1] follows S1 rfl (by kernel_rfl) ?_ ?_
  · refine ⟨trivial, ?_⟩
    · exact owe_nilrow rfl (wants_all rfl) rfl rfl (fun w => ⟨[], rfl, rfl, fun i f e hf => by simp at hf⟩)
  intro B2 a2 W2 S2
  replace S2 : Sta w 24 [(3, (.row 25 2 0 (CL (es.take 0))))] [(2, (Is (.bool false))), (0, (Lx p n c es))] B2 a2 W2 := S2
  refine wp_seq ?_
  refine wp_stmt_seq [.val (Is (.int .i64 0))] [.inr 0] [.inl 0, .inr 0, .inr 1] follows S2 rfl (by kernel_rfl) ?_ ?_
  · refine ⟨trivial, ?_⟩
    · exact owe_move rfl (wants_all rfl) (Or.inr rfl) (opnd_const _) rfl
  intro B3 a3 W3 S3
  replace S3 : Sta w 24 [(3, (.row 25 2 0 (CL (es.take 0))))] [(4, (Is (.int .i64 0))), (2, (Is (.bool false))), (0, (Lx p n c es))] B3 a3 W3 := S3
  refine wp_block ?_
  refine wp_loop_ghost (fun (k : Nat) a W => (k ≤ n) ∧ ∃ B, Sta w 24 [(3, (.row 25 2 k (CL (es.take k))))] [(4, (Is (.int .i64 k))), (0, (Lx p n c es))] B a W) (fun (k : Nat) => n - k) ?_ 0 ⟨Nat.zero_le _, B3, S3.sub [0] [0, 2]⟩
  rintro k a4 W4 ⟨hcond, B4, S4⟩
  by_cases hlt : k < n
  · obtain ⟨e, he⟩ : ∃ e, es[k]? = some e := ⟨es[k]'(by rw [h.len]; exact hlt), List.getElem?_eq_getElem _⟩
    have hec := hC k e he
    have htk : es.take (k + 1) = es.take k ++ [e] := by rw [List.take_add_one, he]; rfl
    refine wp_seq ?_
    refine wp_stmt_seq [.val (Is (.int .i64 k)),
      .val (Lx p n c es),
      .val (Is (.int .i64 (n : Nat))),
      .val (Is (.bool true))] [.inr 0] [.inl 3, .inr 0, .inr 1] follows S4 rfl (by kernel_rfl) ?_ ?_
    · refine ⟨⟨⟨⟨trivial, ?_⟩, ?_⟩, ?_⟩, ?_⟩
      · exact owe_move rfl (wants_all rfl) (Or.inl rfl) (opnd_slot 0 4 rfl (by kernel_rfl)) rfl
      · exact owe_move rfl (wants_all rfl) (Or.inl rfl) (opnd_slot 1 0 rfl (by kernel_rfl)) rfl
      · exact owe_len rfl (wants_all rfl) rfl (opnd_op 1 6 (by kernel_rfl) rfl) lx_len Try.underlying22 rfl
      · exact owe_bin rfl (wants_all rfl) rfl (opnd_op 0 5 (by kernel_rfl) rfl) (opnd_op 2 7 (by kernel_rfl) rfl) rfl (fun ρ w h1 h2 => by exact run_lss_int_t ρ _ _ _ w _ _ (by omega) h1 h2)
    intro B5 a5 W5 S5
    replace S5 : Sta w 24 [(3, (.row 25 2 k (CL (es.take k))))] [(8, (Is (.bool true))), (4, (Is (.int .i64 k))), (0, (Lx p n c es))] B5 a5 W5 := S5
    refine wp_cond_true (S5.bool 0 8 rfl) ?_
    refine wp_skip ?_
    refine thenN ?_
    refine wp_seq ?_
    refine wp_block ?_
    refine wp_stmt [.val (Is (a5.eval (.tmp 3))),
      .val (Lx p n c es),
      .val (Is (.int .i64 k)),
      .val (AtL e),
      .val (Zx e.s e.p e.n e.c e.xs),
      .val ((ZO e.s e.n e.xs) w.heap.size),
      .val ((BI (e.s) (e.n) (e.xs)) w.heap.size),
      .mov 3 (.row 25 2 (k + 1) (CL (es.take (k + 1)))),
      .ref 7] [.inl 8] [.inr 0, .inr 1, .inr 2] follows S5 rfl (by kernel_rfl) ?_ ?_
    · refine ⟨⟨⟨⟨⟨⟨⟨⟨⟨trivial, ?_⟩, ?_⟩, ?_⟩, ?_⟩, ?_⟩, ?_⟩, ?_⟩, ?_⟩, ?_⟩
      · exact owe_same rfl (wants_all rfl) (Or.inl rfl) (by kernel_rfl) rfl
      · exact owe_move rfl (wants_all rfl) (Or.inl rfl) (opnd_slot 2 0 rfl (by kernel_rfl)) rfl
      · exact owe_move rfl (wants_all rfl) (Or.inl rfl) (opnd_slot 1 4 rfl (by kernel_rfl)) rfl
      · exact owe_lindex rfl (wants_all rfl) rfl (opnd_op 1 12 (by kernel_rfl) rfl) (opnd_op 2 13 (by kernel_rfl) rfl) he rfl
      · exact owe_eload rfl (wants_all rfl) rfl (opnd_op 3 14 (by kernel_rfl) rfl) rfl
      · exact owe_call1 rfl (wants_all rfl) rfl (opnd_op 4 15 (by kernel_rfl) rfl) (fresh_zo _ _ _) rfl (fun args w => by go_simp) (g_own hec)
      · exact owe_bi rfl (wants_all rfl) rfl (opnd_op 5 16 (by kernel_rfl) rfl) rfl
      · exact owe_append rfl (wants_all rfl) rfl (opnd_op 0 11 (by kernel_rfl) rfl) (k := 0) rfl (by kernel_rfl) ((opnd_op 6 17 (by kernel_rfl) rfl).imp (bi_src rfl rfl rfl)) einf_int Try.underlying22 (by decide) ⟨by unfold maxLen; omega, by omega⟩ rfl (fun xs ys w h1 h2 => by rw [htk]; exact cl_snoc xs ys w h1 h2)
      · exact owe_ref 7 rfl (wants_all rfl) (Or.inr rfl) (by kernel_rfl) rfl rfl
    intro B6 a6 W6 S6
    replace S6 : Sta w 24 [(3, (.row 25 2 (k + 1) (CL (es.take (k + 1)))))] [(8, (Is (.bool true))), (4, (Is (.int .i64 k))), (0, (Lx p n c es))] B6 a6 W6 := S6
    refine inBlkN ?_
    refine thenN ?_
    refine wp_stmt [.val (Is (.int .i64 k)),
      .val (Is (.int .i64 (k + 1 : Nat))),
      .val (Is (.int .i64 (k + 1 : Nat)))] [.inr 0] [.inl 2, .inr 0, .inr 2] follows S6 rfl (by kernel_rfl) ?_ ?_
    · refine ⟨⟨⟨trivial, ?_⟩, ?_⟩, ?_⟩
      · exact owe_move rfl (wants_all rfl) (Or.inl rfl) (opnd_slot 1 4 rfl (by kernel_rfl)) rfl
      · exact owe_bin rfl (wants_all rfl) rfl (opnd_op 0 9 (by kernel_rfl) rfl) (opnd_const _) rfl (fun ρ w h1 h2 => by exact run_add_int ρ _ _ _ w _ _ _ ⟨by omega, by omega, by omega⟩ h1 h2)
      · exact owe_move rfl (wants_all rfl) (Or.inr rfl) (opnd_op 1 10 (by kernel_rfl) rfl) rfl
    intro B7 a7 W7 S7
    replace S7 : Sta w 24 [(3, (.row 25 2 (k + 1) (CL (es.take (k + 1)))))] [(4, (Is (.int .i64 (k + 1 : Nat)))), (8, (Is (.bool true))), (0, (Lx p n c es))] B7 a7 W7 := S7
    refine thenN ?_
    exact ⟨k + 1, ⟨by omega, B7, S7.sub [0] [0, 2]⟩, by omega⟩
  · have ek : n = k := by omega
    have etk : es.take k = es := List.take_of_length_le (by rw [h.len]; omega)
    have zs : ∀ w u, Lc (es.take k) k u w → Calls Try.prog 6 #[u] w (Gives (ZN (tot es k)) w) := fun w u h0 => by rw [etk] at h0; exact zsum_w w u es k h0 (by omega) hB
    have rs : ∀ w u, Lx p n c es u w → Calls Try.prog 7 #[u] w (Gives (ZN (tot es k)) w) := fun w u h0 => by have := rsum w u h0; rw [ek] at this; exact this
    refine wp_seq ?_
    refine wp_stmt_seq [.val (Is (.int .i64 k)),
      .val (Lx p n c es),
      .val (Is (.int .i64 (n : Nat))),
      .val (Is (.bool false))] [.inr 0] [.inl 3, .inr 0, .inr 1] follows S4 rfl (by kernel_rfl) ?_ ?_
    · refine ⟨⟨⟨⟨trivial, ?_⟩, ?_⟩, ?_⟩, ?_⟩
      · exact owe_move rfl (wants_all rfl) (Or.inl rfl) (opnd_slot 0 4 rfl (by kernel_rfl)) rfl
      · exact owe_move rfl (wants_all rfl) (Or.inl rfl) (opnd_slot 1 0 rfl (by kernel_rfl)) rfl
      · exact owe_len rfl (wants_all rfl) rfl (opnd_op 1 6 (by kernel_rfl) rfl) lx_len Try.underlying22 rfl
      · exact owe_bin rfl (wants_all rfl) rfl (opnd_op 0 5 (by kernel_rfl) rfl) (opnd_op 2 7 (by kernel_rfl) rfl) rfl (fun ρ w h1 h2 => by exact run_lss_int_f ρ _ _ _ w _ _ (by omega) h1 h2)
    intro B5 a5 W5 S5
    replace S5 : Sta w 24 [(3, (.row 25 2 k (CL (es.take k))))] [(8, (Is (.bool false))), (4, (Is (.int .i64 k))), (0, (Lx p n c es))] B5 a5 W5 := S5
    refine wp_cond_false (S5.bool 0 8 rfl) ?_
    refine wp_exit ?_
    refine thenX ?_
    refine thenX ?_
    refine inBlkE ?_
    refine thenN ?_
    obtain ⟨B6, S6⟩ : ∃ B, Sta w 24 [] [(3, (Lc (es.take k) k)), (8, (Is (.bool false))), (4, (Is (.int .i64 k))), (0, (Lx p n c es))] B a5 W5 := ⟨_, S5.freeze 0 rfl (by simp) row_lc⟩
    obtain ⟨a6, W6, e1, e2⟩ : ∃ a W, a5 = a ∧ W5 = W := ⟨_, _, rfl, rfl⟩
    rw [e1, e2] at S6 ⊢
    clear e1 e2
    refine wp_stmt_seq [.val (Lc (es.take k) k),
      .val ((ZN (tot es k)) w.heap.size),
      .val (Lx p n c es),
      .val ((ZN (tot es k)) w.heap.size),
      .val (Is (.bool true)),
      .val (Is (.bool true))] [] [.inl 5, .inr 0, .inr 1, .inr 2, .inr 3] follows S6 rfl (by kernel_rfl) ?_ ?_
    · refine ⟨⟨⟨⟨⟨⟨trivial, ?_⟩, ?_⟩, ?_⟩, ?_⟩, ?_⟩, ?_⟩
      · exact owe_move rfl (wants_all rfl) (Or.inl rfl) (opnd_slot 0 3 rfl (by kernel_rfl)) rfl
      · exact owe_call1 rfl (wants_all rfl) rfl (opnd_op 0 19 (by kernel_rfl) rfl) (fresh_zn _) rfl (fun args w => by go_simp) zs
      · exact owe_move rfl (wants_all rfl) (Or.inl rfl) (opnd_slot 3 0 rfl (by kernel_rfl)) rfl
      · exact owe_call1 rfl (wants_all rfl) rfl (opnd_op 2 21 (by kernel_rfl) rfl) (fresh_zn _) rfl (fun args w => by go_simp) rs
      · exact owe_call2 rfl (wants_all rfl) rfl (opnd_op 1 20 (by kernel_rfl) rfl) (opnd_op 3 22 (by kernel_rfl) rfl) (fresh_is _) rfl (fun args w => by go_simp) g_eq
      · exact owe_move rfl (wants_all rfl) (Or.inr rfl) (opnd_op 4 23 (by kernel_rfl) rfl) rfl
    intro B7 a7 W7 S7
    replace S7 : Sta w 24 [] [(2, (Is (.bool true))), (3, (Lc (es.take k) k)), (8, (Is (.bool false))), (4, (Is (.int .i64 k))), (0, (Lx p n c es))] B7 a7 W7 := S7
    refine wp_ret ?_
    exact end_one S7 rfl (res_tmp S7 0 2 rfl)

theorem ztotals_walk (w : World) (p : Option Addr) (n c : Nat) (es : List El) (h : Ls w p n c es) (hc : c ≤ 1048576) (hC : ∀ (i : Nat) (e : El), es[i]? = some e → e.c ≤ 1048576) :
    Calls Try.prog 3 #[.slice p n c] w fun e w' => e = .returned (.bool true) ∧ Below w.heap.size w w' := by
  have hn := h.cap
  have hB : ∀ (i : Nat) (e : El), es[i]? = some e → e.n ≤ 1048576 := fun i e he => by
    obtain ⟨b, o, _, _, _, hs⟩ := h.lie i e he
    have := hs.cap
    have := hC i e he
    omega
  have hL : ∀ (i : Nat) (e : El), es[i]? = some e → (digs e.z.natAbs).length ≤ 1048576 := fun i e he => by
    obtain ⟨b, o, _, _, _, hs⟩ := h.lie i e he
    have := hB i e he
    exact Nat.le_trans (sg_dl hs) this
  refine (ztotals_w w p n c es h (by omega) hB (fun i e he => by have := hC i e he; omega) (fun w u hu => ?_)).mono ?_
  · obtain ⟨rfl, hl⟩ := hu
    exact rsum_w w p n c es hl (by omega) hB hL
  · rintro e w' ⟨v, rfl, hb, hv⟩
    obtain rfl : v = _ := hv
    exact ⟨rfl, hb⟩
end Go.Proofs.Ytnbmpldfbbidmaa
