/-
  The document's sum of a list.
-/
import Derived.Test.YtnbmpldfbbidmaaLists
import Derived.Test.YtnbmpldfbbidmaaConts
namespace Go.Proofs.Ytnbmpldfbbidmaa
open Go Go.RowKit Nt
set_option linter.unusedSimpArgs false
set_option linter.unusedVariables false


theorem tot_len {es : List El} (hB : ∀ (i : Nat) (e : El), es[i]? = some e → (digs e.z.natAbs).length ≤ 1048576) (k : Nat) : (digs (tot es k).natAbs).length ≤ 1048576 + k := by
  induction k with
  | zero =>
    show (digs (0 : Int).natAbs).length ≤ _
    exact Nat.le_trans (dl_small (by decide)) (by omega)
  | succ k ih =>
    cases h : es[k]? with
    | none =>
      have : tot es (k + 1) = tot es k := by
        show tot es k + (match es[k]? with | some e => e.z | none => 0) = _
        rw [h]
        exact Int.add_zero _
      rw [this]
      omega
    | some e =>
      rw [tot_succ h]
      exact dl_add ih (Nat.le_trans (hB k e h) (Nat.le_add_right _ _))

set_option maxHeartbeats 400000 in
theorem rsum_w (w : World) (p : Option Addr) (n c : Nat) (es : List El) (h : Ls w p n c es) (hn : n ≤ 1048576) (hB : ∀ (i : Nat) (e : El), es[i]? = some e → e.n ≤ 1048576) (hL : ∀ (i : Nat) (e : El), es[i]? = some e → (digs e.z.natAbs).length ≤ 1048576) :
    Calls Try.prog 7 #[.slice p n c] w (Gives (ZN (tot es n)) w) := by
  refine calls_sta (sl := [(0, (Lx p n c es))]) Try.func7 rfl Try.ntmps7 (by simp) (args_cons rfl (lx_has h) args_nil) ?_
  intro a0 S0
  refine wp_stmt_seq [.new (.box 25 (Is (.agg #[.bool false, .slice none 0 0])))] [.inl 0] [.inr 0] follows S0 rfl (by kernel_rfl) ?_ ?_
  · refine ⟨trivial, ?_⟩
    · exact owe_new rfl (wants_all rfl) rfl rfl (fun ρ w => alloc_int ρ _ w)
  intro B1 a1 W1 S1
  replace S1 : Sta w 19 [(2, (.box 25 (Is (.agg #[.bool false, .slice none 0 0]))))] [(0, (Lx p n c es))] B1 a1 W1 := S1
  refine wp_stmt_seq [.val ((ZN (tot es 0)) w.heap.size),
      .new (.box 25 (Is (.agg #[.bool false, .slice none 0 0]))),
      .put (.inr 1) (.box 25 ((ZN (tot es 0)) w.heap.size))] [.inr 0, .inl 1] [.inr 0] follows S1 rfl (by kernel_rfl) ?_ ?_
  · refine ⟨⟨⟨trivial, ?_⟩, ?_⟩, ?_⟩
    · exact owe_call1 rfl (wants_all rfl) rfl (opnd_const _) (fresh_zn _) rfl (fun args w => by go_simp) (fun w u0 h0 => Gives.cast ((g_rof 0 (by omega) (by omega)) w u0 h0) (by rfl))
    · exact owe_new rfl (wants_all rfl) rfl rfl (fun ρ w => alloc_int ρ _ w)
    · exact owe_put 1 rfl (wants_all rfl) rfl (by kernel_rfl) rfl (opnd_op 0 5 (by kernel_rfl) rfl) (stores_of strct_int shp_z0 shp_zn) rfl
  intro B2 a2 W2 S2
  replace S2 : Sta w 19 [(2, (.box 25 (Is (.agg #[.bool false, .slice none 0 0])))), (3, (.box 25 ((ZN (tot es 0)) w.heap.size)))] [(0, (Lx p n c es))] B2 a2 W2 := S2
  refine wp_seq ?_
  refine wp_stmt_seq [.val (Is (.int .i64 0))] [.inr 0, .inr 1] [.inl 0, .inr 0] follows S2 rfl (by kernel_rfl) ?_ ?_
  · refine ⟨trivial, ?_⟩
    · exact owe_move rfl (wants_all rfl) (Or.inr rfl) (opnd_const _) rfl
  intro B3 a3 W3 S3
  replace S3 : Sta w 19 [(2, (.box 25 (Is (.agg #[.bool false, .slice none 0 0])))), (3, (.box 25 ((ZN (tot es 0)) w.heap.size)))] [(4, (Is (.int .i64 0))), (0, (Lx p n c es))] B3 a3 W3 := S3
  refine wp_block ?_
  refine wp_loop_ghost (fun (k : Nat) a W => (k ≤ n) ∧ ∃ B, Sta w 19 [(2, (.box 25 (Is (.agg #[.bool false, .slice none 0 0])))), (3, (.box 25 ((ZN (tot es k)) w.heap.size)))] [(4, (Is (.int .i64 k))), (0, (Lx p n c es))] B a W) (fun (k : Nat) => n - k) ?_ 0 ⟨Nat.zero_le _, B3, S3.sub [0, 1] [0, 1]⟩
  rintro k a4 W4 ⟨hcond, B4, S4⟩
  by_cases hlt : k < n
  · obtain ⟨e, he⟩ : ∃ e, es[k]? = some e := ⟨es[k]'(by rw [h.len]; exact hlt), List.getElem?_eq_getElem _⟩
    have hs := tot_succ he
    have dk : (digs (tot es k).natAbs).length ≤ 2097152 := Nat.le_trans (tot_len hL k) (by omega)
    have hen := hB k e he
    refine wp_seq ?_
    refine wp_stmt_seq [.val (Is (.int .i64 k)),
      .val (Lx p n c es),
      .val (Is (.int .i64 (n : Nat))),
      .val (Is (.bool true))] [.inr 0, .inr 1] [.inl 3, .inr 0, .inr 1] follows S4 rfl (by kernel_rfl) ?_ ?_
    · refine ⟨⟨⟨⟨trivial, ?_⟩, ?_⟩, ?_⟩, ?_⟩
      · exact owe_move rfl (wants_all rfl) (Or.inl rfl) (opnd_slot 0 4 rfl (by kernel_rfl)) rfl
      · exact owe_move rfl (wants_all rfl) (Or.inl rfl) (opnd_slot 1 0 rfl (by kernel_rfl)) rfl
      · exact owe_len rfl (wants_all rfl) rfl (opnd_op 1 7 (by kernel_rfl) rfl) lx_len Try.underlying22 rfl
      · exact owe_bin rfl (wants_all rfl) rfl (opnd_op 0 6 (by kernel_rfl) rfl) (opnd_op 2 8 (by kernel_rfl) rfl) rfl (fun ρ w h1 h2 => by exact run_lss_int_t ρ _ _ _ w _ _ (by omega) h1 h2)
    intro B5 a5 W5 S5
    replace S5 : Sta w 19 [(2, (.box 25 (Is (.agg #[.bool false, .slice none 0 0])))), (3, (.box 25 ((ZN (tot es k)) w.heap.size)))] [(9, (Is (.bool true))), (4, (Is (.int .i64 k))), (0, (Lx p n c es))] B5 a5 W5 := S5
    refine wp_cond_true (S5.bool 0 9 rfl) ?_
    refine wp_skip ?_
    refine thenN ?_
    refine wp_seq ?_
    refine wp_block ?_
    refine wp_stmt [.val ((ZN (tot es k)) w.heap.size),
      .val (Lx p n c es),
      .val (Is (.int .i64 k)),
      .val (AtL e),
      .val (Zx e.s e.p e.n e.c e.xs),
      .val ((ZN (tot es (k + 1))) w.heap.size),
      .put (.inl 3) (.box 25 ((ZN (tot es (k + 1))) w.heap.size))] [.inr 0, .inr 1] [.inr 0, .inr 1, .inr 2] follows S5 rfl (by kernel_rfl) ?_ ?_
    · refine ⟨⟨⟨⟨⟨⟨⟨trivial, ?_⟩, ?_⟩, ?_⟩, ?_⟩, ?_⟩, ?_⟩, ?_⟩
      · exact owe_load rfl (wants_all rfl) rfl (k := 1) rfl (by kernel_rfl) (loads_of strct_int shp_zn) rfl
      · exact owe_move rfl (wants_all rfl) (Or.inl rfl) (opnd_slot 2 0 rfl (by kernel_rfl)) rfl
      · exact owe_move rfl (wants_all rfl) (Or.inl rfl) (opnd_slot 1 4 rfl (by kernel_rfl)) rfl
      · exact owe_lindex rfl (wants_all rfl) rfl (opnd_op 1 13 (by kernel_rfl) rfl) (opnd_op 2 14 (by kernel_rfl) rfl) he rfl
      · exact owe_eload rfl (wants_all rfl) rfl (opnd_op 3 15 (by kernel_rfl) rfl) rfl
      · exact owe_call2 rfl (wants_all rfl) rfl (opnd_op 0 12 (by kernel_rfl) rfl) (opnd_op 4 16 (by kernel_rfl) rfl) (fresh_zn _) rfl (fun args w => by go_simp) (fun w u0 u1 h0 h1 => Gives.cast ((fun w u v h1 h2 => g_radd (by omega) (by omega) w u v ((zn_zv dk) _ _ h1) ((zx_zv' rfl (Nat.le_refl _)) _ _ h2)) w u0 u1 h0 h1) (by rw [hs]))
      · exact owe_set rfl (wants_all rfl) rfl (k := 1) rfl (by kernel_rfl) (opnd_op 5 17 (by kernel_rfl) rfl) (stores_of strct_int shp_zn shp_zn) rfl
    intro B6 a6 W6 S6
    replace S6 : Sta w 19 [(2, (.box 25 (Is (.agg #[.bool false, .slice none 0 0])))), (3, (.box 25 ((ZN (tot es (k + 1))) w.heap.size)))] [(9, (Is (.bool true))), (4, (Is (.int .i64 k))), (0, (Lx p n c es))] B6 a6 W6 := S6
    refine inBlkN ?_
    refine thenN ?_
    refine wp_stmt [.val (Is (.int .i64 k)),
      .val (Is (.int .i64 (k + 1 : Nat))),
      .val (Is (.int .i64 (k + 1 : Nat)))] [.inr 0, .inr 1] [.inl 2, .inr 0, .inr 2] follows S6 rfl (by kernel_rfl) ?_ ?_
    · refine ⟨⟨⟨trivial, ?_⟩, ?_⟩, ?_⟩
      · exact owe_move rfl (wants_all rfl) (Or.inl rfl) (opnd_slot 1 4 rfl (by kernel_rfl)) rfl
      · exact owe_bin rfl (wants_all rfl) rfl (opnd_op 0 10 (by kernel_rfl) rfl) (opnd_const _) rfl (fun ρ w h1 h2 => by exact run_add_int ρ _ _ _ w _ _ _ ⟨by omega, by omega, by omega⟩ h1 h2)
      · exact owe_move rfl (wants_all rfl) (Or.inr rfl) (opnd_op 1 11 (by kernel_rfl) rfl) rfl
    intro B7 a7 W7 S7
    replace S7 : Sta w 19 [(2, (.box 25 (Is (.agg #[.bool false, .slice none 0 0])))), (3, (.box 25 ((ZN (tot es (k + 1))) w.heap.size)))] [(4, (Is (.int .i64 (k + 1 : Nat)))), (9, (Is (.bool true))), (0, (Lx p n c es))] B7 a7 W7 := S7
    refine thenN ?_
    exact ⟨k + 1, ⟨by omega, B7, S7.sub [0, 1] [0, 2]⟩, by omega⟩
  · have ek : n = k := by omega
    rw [ek]
    refine wp_seq ?_
    refine wp_stmt_seq [.val (Is (.int .i64 k)),
      .val (Lx p n c es),
      .val (Is (.int .i64 (n : Nat))),
      .val (Is (.bool false))] [.inr 0, .inr 1] [.inl 3, .inr 0, .inr 1] follows S4 rfl (by kernel_rfl) ?_ ?_
    · refine ⟨⟨⟨⟨trivial, ?_⟩, ?_⟩, ?_⟩, ?_⟩
      · exact owe_move rfl (wants_all rfl) (Or.inl rfl) (opnd_slot 0 4 rfl (by kernel_rfl)) rfl
      · exact owe_move rfl (wants_all rfl) (Or.inl rfl) (opnd_slot 1 0 rfl (by kernel_rfl)) rfl
      · exact owe_len rfl (wants_all rfl) rfl (opnd_op 1 7 (by kernel_rfl) rfl) lx_len Try.underlying22 rfl
      · exact owe_bin rfl (wants_all rfl) rfl (opnd_op 0 6 (by kernel_rfl) rfl) (opnd_op 2 8 (by kernel_rfl) rfl) rfl (fun ρ w h1 h2 => by exact run_lss_int_f ρ _ _ _ w _ _ (by omega) h1 h2)
    intro B5 a5 W5 S5
    replace S5 : Sta w 19 [(2, (.box 25 (Is (.agg #[.bool false, .slice none 0 0])))), (3, (.box 25 ((ZN (tot es k)) w.heap.size)))] [(9, (Is (.bool false))), (4, (Is (.int .i64 k))), (0, (Lx p n c es))] B5 a5 W5 := S5
    refine wp_cond_false (S5.bool 0 9 rfl) ?_
    refine wp_exit ?_
    refine thenX ?_
    refine thenX ?_
    refine inBlkE ?_
    refine thenN ?_
    refine wp_stmt_seq [.val ((ZN (tot es k)) w.heap.size),
      .put (.inl 2) (.box 25 ((ZN (tot es k)) w.heap.size))] [.inr 0, .inr 1] [.inr 0, .inr 1, .inr 2] follows S5 rfl (by kernel_rfl) ?_ ?_
    · refine ⟨⟨trivial, ?_⟩, ?_⟩
      · exact owe_load rfl (wants_all rfl) rfl (k := 1) rfl (by kernel_rfl) (loads_of strct_int shp_zn) rfl
      · exact owe_set rfl (wants_all rfl) rfl (k := 0) rfl (by kernel_rfl) (opnd_op 0 18 (by kernel_rfl) rfl) (stores_of strct_int shp_z0 shp_zn) rfl
    intro B6 a6 W6 S6
    replace S6 : Sta w 19 [(2, (.box 25 ((ZN (tot es k)) w.heap.size))), (3, (.box 25 ((ZN (tot es k)) w.heap.size)))] [(9, (Is (.bool false))), (4, (Is (.int .i64 k))), (0, (Lx p n c es))] B6 a6 W6 := S6
    refine wp_ret ?_
    exact end_one S6 rfl (res_cell S6 0 2 rfl strct_int shp_zn)

end Go.Proofs.Ytnbmpldfbbidmaa
