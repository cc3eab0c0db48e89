/-
  mat.each and mat.pairs: the list of what a function makes of the parts of lists.
-/
import Derived.Test.YtdhjgekbocnnkaaDoorVec
namespace Go.Proofs.YtdhjgekbocnnkaaDoor
open Go Go.RowKit Nt
set_option linter.unusedSimpArgs false
set_option linter.unusedVariables false
set_option maxRecDepth 20000


theorem set_next {α : Type} {xs : List α} {n k : Nat} {x z : α} (hn : xs.length = n) (hk : xs[k]? = some x) : (xs.take k ++ List.replicate (n - k) z).set k x = xs.take (k + 1) ++ List.replicate (n - (k + 1)) z := by
  have hlt := (List.getElem?_eq_some_iff.1 hk).1
  have e : n - k = (n - (k + 1)) + 1 := by omega
  rw [e, List.replicate_succ, List.take_add_one, hk, List.set_append_right _ _ (by simp; omega), List.length_take, Nat.min_eq_left (by omega), Nat.sub_self]
  simp
theorem fill_end {α : Type} {xs : List α} {n k : Nat} {z : α} (hn : xs.length = n) (hk : n = k) : xs.take k ++ List.replicate (n - k) z = xs := by
  subst hk
  rw [Nat.sub_self, List.take_of_length_le (by omega)]
  simp

set_option maxHeartbeats 400000 in
theorem each_w (w : World) (u f : Value) (n : Nat) (φs : List Pr) (ψs : List (Nat → Pr)) (hl : φs.length = n) (hl' : ψs.length = n) (h : Hs w (Ar 2 n φs) u) (hf : Hs w (Fn1 φs ψs) f) (hS : ∀ (i : Nat) φ, φs[i]? = some φ → Shp 2 φ) (hψ : ∀ (i : Nat) ψ, ψs[i]? = some ψ → Fresh ψ ∧ ∀ lo, Shp 2 (ψ lo)) (hn : n ≤ 1048576) :
    Calls Tryd.prog 40 #[u, f] w (Gives (LF 2 n ψs) w) := by
  refine calls_sta (sl := [(0, (Ar 2 n φs)), (1, (Fn1 φs ψs))]) Tryd.func40 rfl Tryd.ntmps40 (by simp) (args_cons rfl (h) (args_cons rfl (hf) args_nil)) ?_
  intro a0 S0
  refine wp_stmt_seq [.val (Is (.slice none 0 0))] [] [.inl 0, .inr 0, .inr 1] follows S0 rfl (by kernel_rfl) ?_ ?_
  · refine ⟨trivial, ?_⟩
    · exact owe_move rfl (wants_all rfl) (Or.inr rfl) (opnd_const _) rfl
  intro B1 a1 W1 S1
  replace S1 : Sta w 26 [] [(4, (Is (.slice none 0 0))), (0, (Ar 2 n φs)), (1, (Fn1 φs ψs))] B1 a1 W1 := S1
  refine wp_stmt_seq [.val (Ar 2 n φs),
      .val (Is (.int .i64 (n : Nat))),
      .new (.row 36 2 n (CE 2 (List.replicate n (Is (.agg #[.bool false, .slice none 0 0]))))),
      .ref 2] [.inl 3] [.inr 0, .inr 1, .inr 2] follows S1 rfl (by kernel_rfl) ?_ ?_
  · refine ⟨⟨⟨⟨trivial, ?_⟩, ?_⟩, ?_⟩, ?_⟩
    · exact owe_move rfl (wants_all rfl) (Or.inl rfl) (opnd_slot 1 0 rfl (by kernel_rfl)) rfl
    · exact owe_len rfl (wants_all rfl) rfl (opnd_op 0 8 (by kernel_rfl) rfl) ar_len Tryd.underlying23 rfl
    · exact owe_makeE rfl (wants_all rfl) rfl Tryd.underlying23 infoInt celv_z0 (by decide) (opnd_op 1 9 (by kernel_rfl) rfl) ⟨by omega, by unfold maxLen; omega⟩ rfl
    · exact owe_ref 2 rfl (wants_all rfl) (Or.inr rfl) (by kernel_rfl) rfl rfl
  intro B2 a2 W2 S2
  replace S2 : Sta w 26 [(5, (.row 36 2 n (CE 2 (List.replicate n (Is (.agg #[.bool false, .slice none 0 0]))))))] [(4, (Is (.slice none 0 0))), (0, (Ar 2 n φs)), (1, (Fn1 φs ψs))] B2 a2 W2 := S2
  refine wp_seq ?_
  refine wp_stmt_seq [.val (Ar 2 n φs),
      .val (Is (.int .i64 (n : Nat))),
      .val (Is (.int .i64 0))] [.inr 0] [.inl 0, .inl 1, .inl 2, .inr 0, .inr 1, .inr 2] follows S2 rfl (by kernel_rfl) ?_ ?_
  · refine ⟨⟨⟨trivial, ?_⟩, ?_⟩, ?_⟩
    · exact owe_move rfl (wants_all rfl) (Or.inl rfl) (opnd_slot 1 0 rfl (by kernel_rfl)) rfl
    · exact owe_len rfl (wants_all rfl) rfl (opnd_op 0 11 (by kernel_rfl) rfl) ar_len Tryd.underlying23 rfl
    · exact owe_move rfl (wants_all rfl) (Or.inl rfl) (opnd_const _) rfl
  intro B3 a3 W3 S3
  replace S3 : Sta w 26 [(5, (.row 36 2 n (CE 2 (List.replicate n (Is (.agg #[.bool false, .slice none 0 0]))))))] [(11, (Ar 2 n φs)), (12, (Is (.int .i64 (n : Nat)))), (13, (Is (.int .i64 0))), (4, (Is (.slice none 0 0))), (0, (Ar 2 n φs)), (1, (Fn1 φs ψs))] B3 a3 W3 := S3
  refine wp_block ?_
  refine wp_loop_ghost (fun (k : Nat) a W => (k ≤ n) ∧ ∃ Bq, Sta w 26 [(5, (.row 36 2 n (CE 2 ((ψs.map (· w.heap.size)).take k ++ List.replicate (n - k) (Is (.agg #[.bool false, .slice none 0 0]))))))] [(11, (Ar 2 n φs)), (12, (Is (.int .i64 (n : Nat)))), (13, (Is (.int .i64 k))), (1, (Fn1 φs ψs))] Bq a W) (fun (k : Nat) => n - k) ?_ 0 ⟨Nat.zero_le _, B3, S3.sub [0] [0, 1, 2, 5]⟩
  rintro k a4 W4 ⟨hcond, B4, S4⟩
  by_cases hlt : k < n
  · obtain ⟨φ, hφ⟩ : ∃ φ, φs[k]? = some φ := ⟨φs[k]'(by omega), List.getElem?_eq_getElem _⟩
    obtain ⟨ψ, hψk⟩ : ∃ ψ, ψs[k]? = some ψ := ⟨ψs[k]'(by omega), List.getElem?_eq_getElem _⟩
    have hset := set_next (z := Is (.agg #[.bool false, .slice none 0 0])) (xs := (ψs.map (· w.heap.size))) (n := n) (by simp [hl']) (map_get' (· w.heap.size) hψk)
    refine wp_stmt_seq [.val (Is (.bool true))] [.inr 0] [.inl 0, .inr 0, .inr 1, .inr 2, .inr 3] follows S4 rfl (by kernel_rfl) ?_ ?_
    · refine ⟨trivial, ?_⟩
      · exact owe_bin rfl (wants_all rfl) rfl (opnd_slot 2 13 rfl (by kernel_rfl)) (opnd_slot 1 12 rfl (by kernel_rfl)) rfl (fun ρ w h1 h2 => by exact run_lss_int_t ρ _ _ _ w _ _ (by omega) h1 h2)
    intro B5 a5 W5 S5
    replace S5 : Sta w 26 [(5, (.row 36 2 n (CE 2 ((ψs.map (· w.heap.size)).take k ++ List.replicate (n - k) (Is (.agg #[.bool false, .slice none 0 0]))))))] [(14, (Is (.bool true))), (11, (Ar 2 n φs)), (12, (Is (.int .i64 (n : Nat)))), (13, (Is (.int .i64 k))), (1, (Fn1 φs ψs))] B5 a5 W5 := S5
    refine wp_seq ?_
    refine wp_cond_true (S5.bool 0 14 rfl) ?_
    refine wp_skip ?_
    refine thenN ?_
    refine wp_seq ?_
    refine wp_block ?_
    refine wp_stmt_seq [.val (Is (.int .i64 k)),
      .val (AtE 2 φ),
      .val φ,
      .new (.box 36 (Is (.agg #[.bool false, .slice none 0 0]))),
      .val (Is (.int .i64 k)),
      .put (.inr 3) (.box 36 φ)] [.inr 0, .inl 3] [.inl 4, .inr 0, .inr 1, .inr 2, .inr 3, .inr 4] follows S5 rfl (by kernel_rfl) ?_ ?_
    · refine ⟨⟨⟨⟨⟨⟨trivial, ?_⟩, ?_⟩, ?_⟩, ?_⟩, ?_⟩, ?_⟩
      · exact owe_move rfl (wants_all rfl) (Or.inl rfl) (opnd_slot 3 13 rfl (by kernel_rfl)) rfl
      · exact owe_aindex rfl (wants_all rfl) rfl idx_ints (opnd_slot 1 11 rfl (by kernel_rfl)) (opnd_slot 3 13 rfl (by kernel_rfl)) hφ rfl
      · exact owe_aload rfl (wants_all rfl) rfl ldr_int (by decide) (cel_shp (by decide) (hS k φ hφ)) (opnd_op 1 16 (by kernel_rfl) rfl) rfl
      · exact owe_new rfl (wants_all rfl) rfl rfl (fun ρ w => alloc_int ρ _ w)
      · exact owe_move rfl (wants_all rfl) (Or.inr rfl) (opnd_op 0 15 (by kernel_rfl) rfl) rfl
      · exact owe_put 3 rfl (wants_all rfl) rfl (by kernel_rfl) rfl (opnd_op 2 17 (by kernel_rfl) rfl) (stores_of strct_int shp_z0 (hS k φ hφ)) rfl
    intro B6 a6 W6 S6
    replace S6 : Sta w 26 [(5, (.row 36 2 n (CE 2 ((ψs.map (· w.heap.size)).take k ++ List.replicate (n - k) (Is (.agg #[.bool false, .slice none 0 0])))))), (7, (.box 36 φ))] [(6, (Is (.int .i64 k))), (14, (Is (.bool true))), (11, (Ar 2 n φs)), (12, (Is (.int .i64 (n : Nat)))), (13, (Is (.int .i64 k))), (1, (Fn1 φs ψs))] B6 a6 W6 := S6
    refine wp_stmt [.val (Is (a6.eval (.tmp 5))),
      .val (Is (.int .i64 k)),
      .val (Fn1 φs ψs),
      .val φ,
      .val (ψ w.heap.size),
      .val (REt a6 5 (2 * k)),
      .put (.inl 5) (.row 36 2 n (CE 2 ((ψs.map (· w.heap.size)).take (k + 1) ++ List.replicate (n - (k + 1)) (Is (.agg #[.bool false, .slice none 0 0])))))] [.inr 0, .inr 1] [.inr 1, .inr 2, .inr 3, .inr 4, .inr 5] follows S6 rfl (by kernel_rfl) ?_ ?_
    · refine ⟨⟨⟨⟨⟨⟨⟨trivial, ?_⟩, ?_⟩, ?_⟩, ?_⟩, ?_⟩, ?_⟩, ?_⟩
      · exact owe_same rfl (wants_all rfl) (Or.inl rfl) (by kernel_rfl) rfl
      · exact owe_move rfl (wants_all rfl) (Or.inl rfl) (opnd_slot 0 6 rfl (by kernel_rfl)) rfl
      · exact owe_move rfl (wants_all rfl) (Or.inl rfl) (opnd_slot 5 1 rfl (by kernel_rfl)) rfl
      · exact owe_load rfl (wants_all rfl) rfl (k := 1) rfl (by kernel_rfl) (loads_of strct_int (hS k φ hφ)) rfl
      · exact owe_callv1 k rfl (wants_all rfl) rfl (opnd_op 2 20 (by kernel_rfl) rfl) hφ hψk (opnd_op 3 21 (by kernel_rfl) rfl) (hψ k ψ hψk).1 rfl
      · exact owe_rindexE rfl (wants_all rfl) rfl idx_ints (opnd_op 0 18 (by kernel_rfl) rfl) (k := 0) rfl (by kernel_rfl) (opnd_op 1 19 (by kernel_rfl) rfl) hlt rfl
      · exact owe_rstoreE rfl (wants_all rfl) rfl sto_int (by decide) (opnd_op 5 23 (by kernel_rfl) rfl) (k := 0) rfl (by kernel_rfl) (opnd_op 4 22 (by kernel_rfl) rfl) (cel_shp (by decide) ((hψ k ψ hψk).2 _)) hlt (by rw [hset]; rfl)
    intro B7 a7 W7 S7
    replace S7 : Sta w 26 [(5, (.row 36 2 n (CE 2 ((ψs.map (· w.heap.size)).take (k + 1) ++ List.replicate (n - (k + 1)) (Is (.agg #[.bool false, .slice none 0 0])))))), (7, (.box 36 φ))] [(14, (Is (.bool true))), (11, (Ar 2 n φs)), (12, (Is (.int .i64 (n : Nat)))), (13, (Is (.int .i64 k))), (1, (Fn1 φs ψs))] B7 a7 W7 := S7
    refine inBlkN ?_
    refine thenN ?_
    refine wp_stmt [.val (Is (.int .i64 (k + 1 : Nat))),
      .val (Is (.int .i64 (k + 1 : Nat)))] [.inr 0, .inr 1] [.inl 1, .inr 0, .inr 1, .inr 2, .inr 4] follows S7 rfl (by kernel_rfl) ?_ ?_
    · refine ⟨⟨trivial, ?_⟩, ?_⟩
      · exact owe_bin rfl (wants_all rfl) rfl (opnd_slot 3 13 rfl (by kernel_rfl)) (opnd_const _) rfl (fun ρ w h1 h2 => by exact run_add_int ρ _ _ _ w _ _ _ ⟨by omega, by omega, by omega⟩ h1 h2)
      · exact owe_move rfl (wants_all rfl) (Or.inl rfl) (opnd_op 0 24 (by kernel_rfl) rfl) rfl
    intro B8 a8 W8 S8
    replace S8 : Sta w 26 [(5, (.row 36 2 n (CE 2 ((ψs.map (· w.heap.size)).take (k + 1) ++ List.replicate (n - (k + 1)) (Is (.agg #[.bool false, .slice none 0 0])))))), (7, (.box 36 φ))] [(13, (Is (.int .i64 (k + 1 : Nat)))), (14, (Is (.bool true))), (11, (Ar 2 n φs)), (12, (Is (.int .i64 (n : Nat)))), (1, (Fn1 φs ψs))] B8 a8 W8 := S8
    refine thenN ?_
    exact ⟨k + 1, ⟨by omega, B8, S8.sub [0] [2, 3, 0, 4]⟩, by omega⟩
  · have hend := fill_end (z := Is (.agg #[.bool false, .slice none 0 0])) (xs := (ψs.map (· w.heap.size))) (n := n) (k := k) (by simp [hl']) (by omega)
    refine wp_stmt_seq [.val (Is (.bool false))] [.inr 0] [.inl 0, .inr 0, .inr 1, .inr 2, .inr 3] follows S4 rfl (by kernel_rfl) ?_ ?_
    · refine ⟨trivial, ?_⟩
      · exact owe_bin rfl (wants_all rfl) rfl (opnd_slot 2 13 rfl (by kernel_rfl)) (opnd_slot 1 12 rfl (by kernel_rfl)) rfl (fun ρ w h1 h2 => by exact run_lss_int_f ρ _ _ _ w _ _ (by omega) h1 h2)
    intro B5 a5 W5 S5
    replace S5 : Sta w 26 [(5, (.row 36 2 n (CE 2 ((ψs.map (· w.heap.size)).take k ++ List.replicate (n - k) (Is (.agg #[.bool false, .slice none 0 0]))))))] [(14, (Is (.bool false))), (11, (Ar 2 n φs)), (12, (Is (.int .i64 (n : Nat)))), (13, (Is (.int .i64 k))), (1, (Fn1 φs ψs))] B5 a5 W5 := S5
    refine wp_seq ?_
    refine wp_cond_false (S5.bool 0 14 rfl) ?_
    refine wp_exit ?_
    refine thenX ?_
    refine thenX ?_
    refine inBlkE ?_
    refine thenN ?_
    obtain ⟨B6, S6⟩ : ∃ Bq, Sta w 26 [] [(5, ((LF 2 n ψs) w.heap.size)), (14, (Is (.bool false))), (11, (Ar 2 n φs)), (12, (Is (.int .i64 (n : Nat)))), (13, (Is (.int .i64 k))), (1, (Fn1 φs ψs))] Bq a5 W5 := ⟨_, S5.freeze 0 rfl (by simp) (fun v w' xs ho hc => row_lf (by decide) v w' xs ho (by rw [hend] at hc; exact hc))⟩
    obtain ⟨a6, W6, e1, e2⟩ : ∃ a W, a5 = a ∧ W5 = W := ⟨_, _, rfl, rfl⟩
    rw [e1, e2] at S6 ⊢
    clear e1 e2
    refine wp_stmt_seq [.val ((LF 2 n ψs) w.heap.size),
      .val ((LF 2 n ψs) w.heap.size)] [] [.inl 1, .inr 0, .inr 1, .inr 2, .inr 3, .inr 4, .inr 5] follows S6 rfl (by kernel_rfl) ?_ ?_
    · refine ⟨⟨trivial, ?_⟩, ?_⟩
      · exact owe_move rfl (wants_all rfl) (Or.inl rfl) (opnd_slot 0 5 rfl (by kernel_rfl)) rfl
      · exact owe_move rfl (wants_all rfl) (Or.inr rfl) (opnd_op 0 25 (by kernel_rfl) rfl) rfl
    intro B7 a7 W7 S7
    replace S7 : Sta w 26 [] [(4, ((LF 2 n ψs) w.heap.size)), (5, ((LF 2 n ψs) w.heap.size)), (14, (Is (.bool false))), (11, (Ar 2 n φs)), (12, (Is (.int .i64 (n : Nat)))), (13, (Is (.int .i64 k))), (1, (Fn1 φs ψs))] B7 a7 W7 := S7
    refine wp_ret ?_
    exact end_one S7 rfl (res_tmp S7 0 4 rfl)

end Go.Proofs.YtdhjgekbocnnkaaDoor
