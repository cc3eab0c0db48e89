/-
  Matrices: whether two are the same: mat, the document.
-/
import Derived.Test.YtdhjgekbocnnkaaDoorMRForm
import Derived.Test.YtdhjgekbocnnkaaDoorMOrd
namespace Go.Proofs.YtdhjgekbocnnkaaDoor
open Go Go.RowKit Nt
set_option linter.unusedSimpArgs false
set_option linter.unusedVariables false
set_option maxRecDepth 20000


/-! Whether two matrices are the same. -/
def sameZ : List (List Int) → List (List Int) → Bool
  | [], [] => true
  | a :: r, b :: s => decide (ordZ a b = 0) && sameZ r s
  | _, _ => false
theorem ordZ_refl (a : List Int) : ordZ a a = 0 := by
  induction a with
  | nil => rfl
  | cons x r ih => rw [ordZ, Int.sub_self, Int.sign_zero, if_pos rfl, ih]
theorem sameZ_refl (a : List (List Int)) : sameZ a a = true := by
  induction a with
  | nil => rfl
  | cons x r ih => rw [sameZ, ordZ_refl, ih]; rfl
theorem same_len : ∀ {a b : List (List Int)}, a.length ≠ b.length → sameZ a b = false
  | [], [], h => absurd rfl h
  | [], _ :: _, _ => rfl
  | _ :: _, [], _ => rfl
  | x :: r, y :: s, h => by rw [sameZ, same_len (by simpa using h), Bool.and_false]
theorem same_go {A B : List (List Int)} {k : Nat} {a b : List Int} (ha : A[k]? = some a) (hb : B[k]? = some b) (h : ordZ a b = 0) : sameZ (A.drop k) (B.drop k) = sameZ (A.drop (k + 1)) (B.drop (k + 1)) := by
  rw [drop_at ha, drop_at hb, sameZ, decide_eq_true h, Bool.true_and]
theorem same_stop {A B : List (List Int)} {k : Nat} {a b : List Int} (ha : A[k]? = some a) (hb : B[k]? = some b) (h : ordZ a b ≠ 0) : sameZ (A.drop k) (B.drop k) = false := by
  rw [drop_at ha, drop_at hb, sameZ, decide_eq_false h, Bool.false_and]
theorem same_end {A B : List (List Int)} {k n : Nat} (hA : A.length = n) (hB : B.length = n) (h : n ≤ k) : sameZ (A.drop k) (B.drop k) = true := by
  rw [List.drop_of_length_le (l := A) (by omega), List.drop_of_length_le (l := B) (by omega)]
  rfl

set_option maxHeartbeats 400000 in
theorem same1_y (w : World) (u v : Value) (k k' : Nat) (a b : List Int) (h : Hs w (Vv a.length a k) u) (h' : Hs w (Vv b.length b k') v) (hs : k ≤ 1073741824) (hs' : k' ≤ 1073741824) (hn : a.length ≤ 1048576) (hm : b.length ≤ 1048576) (hg : ordZ a b = 0) :
    Calls Tryd.prog 35 #[u, v] w (Gives (IS (.bool true)) w) := by
  refine calls_sta (sl := [(0, (Vv (a.length) a k)), (1, (Vv (b.length) b k'))]) Tryd.func35 rfl Tryd.ntmps35 (by simp) (args_cons rfl (h) (args_cons rfl (h') args_nil)) ?_
  intro a0 S0
  refine wp_stmt_seq [.val (Is (.bool false))] [] [.inl 0, .inr 0, .inr 1] follows S0 rfl (by kernel_rfl) ?_ ?_
  · refine ⟨trivial, ?_⟩
    · exact owe_move rfl (wants_all rfl) (Or.inr rfl) (opnd_const _) rfl
  intro B1 a1 W1 S1
  replace S1 : Sta w 9 [] [(4, (Is (.bool false))), (0, (Vv (a.length) a k)), (1, (Vv (b.length) b k'))] B1 a1 W1 := S1
  refine wp_stmt_seq [.val (Vv (a.length) a k),
      .val (Vv (b.length) b k'),
      .val (Is (.int .i64 (ordZ a b))),
      .val (Is (.bool true)),
      .val (Is (.bool true))] [] [.inl 4] follows S1 rfl (by kernel_rfl) ?_ ?_
  · refine ⟨⟨⟨⟨⟨trivial, ?_⟩, ?_⟩, ?_⟩, ?_⟩, ?_⟩
    · exact owe_move rfl (wants_all rfl) (Or.inl rfl) (opnd_slot 1 0 rfl (by kernel_rfl)) rfl
    · exact owe_move rfl (wants_all rfl) (Or.inl rfl) (opnd_slot 2 1 rfl (by kernel_rfl)) rfl
    · exact owe_callh2 rfl (wants_all rfl) rfl (opnd_op 0 5 (by kernel_rfl) rfl) (opnd_op 1 6 (by kernel_rfl) rfl) (fresh_is _) rfl (fun args w => by go_simp) (fun w u v h h' => order_w w u v _ _ k k' _ _ h h' (by omega) (by omega) (by omega) (by omega))
    · exact owe_bin rfl (wants_all rfl) rfl (opnd_op 2 7 (by kernel_rfl) rfl) (opnd_const _) rfl (fun ρ w h1 h2 => by exact run_eql_int_t ρ _ _ _ w _ _ hg h1 h2)
    · exact owe_move rfl (wants_all rfl) (Or.inr rfl) (opnd_op 3 8 (by kernel_rfl) rfl) rfl
  intro B2 a2 W2 S2
  replace S2 : Sta w 9 [] [(4, (Is (.bool true)))] B2 a2 W2 := S2
  refine wp_ret ?_
  exact end_one S2 rfl (res_tmp S2 0 4 rfl)

set_option maxHeartbeats 400000 in
theorem same1_n (w : World) (u v : Value) (k k' : Nat) (a b : List Int) (h : Hs w (Vv a.length a k) u) (h' : Hs w (Vv b.length b k') v) (hs : k ≤ 1073741824) (hs' : k' ≤ 1073741824) (hn : a.length ≤ 1048576) (hm : b.length ≤ 1048576) (hg : ordZ a b ≠ 0) :
    Calls Tryd.prog 35 #[u, v] w (Gives (IS (.bool false)) w) := by
  refine calls_sta (sl := [(0, (Vv (a.length) a k)), (1, (Vv (b.length) b k'))]) Tryd.func35 rfl Tryd.ntmps35 (by simp) (args_cons rfl (h) (args_cons rfl (h') args_nil)) ?_
  intro a0 S0
  refine wp_stmt_seq [.val (Is (.bool false))] [] [.inl 0, .inr 0, .inr 1] follows S0 rfl (by kernel_rfl) ?_ ?_
  · refine ⟨trivial, ?_⟩
    · exact owe_move rfl (wants_all rfl) (Or.inr rfl) (opnd_const _) rfl
  intro B1 a1 W1 S1
  replace S1 : Sta w 9 [] [(4, (Is (.bool false))), (0, (Vv (a.length) a k)), (1, (Vv (b.length) b k'))] B1 a1 W1 := S1
  refine wp_stmt_seq [.val (Vv (a.length) a k),
      .val (Vv (b.length) b k'),
      .val (Is (.int .i64 (ordZ a b))),
      .val (Is (.bool false)),
      .val (Is (.bool false))] [] [.inl 4] follows S1 rfl (by kernel_rfl) ?_ ?_
  · refine ⟨⟨⟨⟨⟨trivial, ?_⟩, ?_⟩, ?_⟩, ?_⟩, ?_⟩
    · exact owe_move rfl (wants_all rfl) (Or.inl rfl) (opnd_slot 1 0 rfl (by kernel_rfl)) rfl
    · exact owe_move rfl (wants_all rfl) (Or.inl rfl) (opnd_slot 2 1 rfl (by kernel_rfl)) rfl
    · exact owe_callh2 rfl (wants_all rfl) rfl (opnd_op 0 5 (by kernel_rfl) rfl) (opnd_op 1 6 (by kernel_rfl) rfl) (fresh_is _) rfl (fun args w => by go_simp) (fun w u v h h' => order_w w u v _ _ k k' _ _ h h' (by omega) (by omega) (by omega) (by omega))
    · exact owe_bin rfl (wants_all rfl) rfl (opnd_op 2 7 (by kernel_rfl) rfl) (opnd_const _) rfl (fun ρ w h1 h2 => by exact run_eql_int_f ρ _ _ _ w _ _ hg h1 h2)
    · exact owe_move rfl (wants_all rfl) (Or.inr rfl) (opnd_op 3 8 (by kernel_rfl) rfl) rfl
  intro B2 a2 W2 S2
  replace S2 : Sta w 9 [] [(4, (Is (.bool false)))] B2 a2 W2 := S2
  refine wp_ret ?_
  exact end_one S2 rfl (res_tmp S2 0 4 rfl)

theorem same1_w (w : World) (u v : Value) (k k' : Nat) (a b : List Int) (h : Hs w (Vv a.length a k) u) (h' : Hs w (Vv b.length b k') v) (hs : k ≤ 1073741824) (hs' : k' ≤ 1073741824) (hn : a.length ≤ 1048576) (hm : b.length ≤ 1048576) : Calls Tryd.prog 35 #[u, v] w (Gives (IS (.bool (decide (ordZ a b = 0)))) w) := by
  by_cases hg : ordZ a b = 0
  · rw [decide_eq_true hg]
    exact same1_y w u v k k' a b h h' hs hs' hn hm hg
  · rw [decide_eq_false hg]
    exact same1_n w u v k k' a b h h' hs hs' hn hm hg

set_option maxHeartbeats 400000 in
theorem eqf_w (w : World) (u v f : Value) (n k k' : Nat) (A B : List (List Int)) (h : Hs w (Mv n A k) u) (h' : Hs w (Mv n B k') v) (hn : n ≤ 1048576) (hs : k ≤ 1073741824) (hs' : k' ≤ 1073741824) (hL : Ml A 1048576) (hL' : Ml B 1048576) (hf : Hs w (Fn2 (A.map (fun zs => Vv zs.length zs k)) (B.map (fun zs => Vv zs.length zs k')) (List.zipWith (fun a b => IS (.bool (decide (ordZ a b = 0)))) A B)) f) :
    Calls Tryd.prog 34 #[u, v, f] w (Gives (IS (.bool (sameZ A B))) w) := by
  have hA := mv_len h.now
  have hB := mv_len h'.now
  refine calls_sta (sl := [(0, (Mv n A k)), (1, (Mv n B k')), (2, (Fn2 (A.map (fun zs => Vv zs.length zs k)) (B.map (fun zs => Vv zs.length zs k')) (List.zipWith (fun a b => IS (.bool (decide (ordZ a b = 0)))) A B)))]) Tryd.func34 rfl Tryd.ntmps34 (by simp) (args_cons rfl (h) (args_cons rfl (h') (args_cons rfl (hf) args_nil))) ?_
  intro a0 S0
  refine wp_stmt_seq [.val (Is (.bool false))] [] [.inl 0, .inr 0, .inr 1, .inr 2] follows S0 rfl (by kernel_rfl) ?_ ?_
  · refine ⟨trivial, ?_⟩
    · exact owe_move rfl (wants_all rfl) (Or.inr rfl) (opnd_const _) rfl
  intro B1 a1 W1 S1
  replace S1 : Sta w 32 [] [(6, (Is (.bool false))), (0, (Mv n A k)), (1, (Mv n B k')), (2, (Fn2 (A.map (fun zs => Vv zs.length zs k)) (B.map (fun zs => Vv zs.length zs k')) (List.zipWith (fun a b => IS (.bool (decide (ordZ a b = 0)))) A B)))] B1 a1 W1 := S1
  refine wp_seq ?_
  refine wp_stmt_seq [.val (Mv n A k),
      .val (Is (.int .i64 (n : Nat))),
      .val (Mv n B k'),
      .val (Is (.int .i64 (n : Nat))),
      .val (Is (.bool false))] [] [.inl 4, .inr 0, .inr 1, .inr 2, .inr 3] follows S1 rfl (by kernel_rfl) ?_ ?_
  · refine ⟨⟨⟨⟨⟨trivial, ?_⟩, ?_⟩, ?_⟩, ?_⟩, ?_⟩
    · exact owe_move rfl (wants_all rfl) (Or.inl rfl) (opnd_slot 1 0 rfl (by kernel_rfl)) rfl
    · exact owe_len rfl (wants_all rfl) rfl (opnd_op 0 10 (by kernel_rfl) rfl) ar_len Tryd.underlying22 rfl
    · exact owe_move rfl (wants_all rfl) (Or.inl rfl) (opnd_slot 2 1 rfl (by kernel_rfl)) rfl
    · exact owe_len rfl (wants_all rfl) rfl (opnd_op 2 12 (by kernel_rfl) rfl) ar_len Tryd.underlying22 rfl
    · exact owe_bin rfl (wants_all rfl) rfl (opnd_op 1 11 (by kernel_rfl) rfl) (opnd_op 3 13 (by kernel_rfl) rfl) rfl (fun ρ w h1 h2 => by exact run_neq_int_f ρ _ _ _ w _ _ (by omega) h1 h2)
  intro B2 a2 W2 S2
  replace S2 : Sta w 32 [] [(14, (Is (.bool false))), (6, (Is (.bool false))), (0, (Mv n A k)), (1, (Mv n B k')), (2, (Fn2 (A.map (fun zs => Vv zs.length zs k)) (B.map (fun zs => Vv zs.length zs k')) (List.zipWith (fun a b => IS (.bool (decide (ordZ a b = 0)))) A B)))] B2 a2 W2 := S2
  refine wp_cond_false (S2.bool 0 14 rfl) ?_
  refine wp_skip ?_
  refine thenN ?_
  refine wp_seq ?_
  refine wp_stmt_seq [.val (Mv n A k),
      .val (Is (.int .i64 (n : Nat))),
      .val (Is (.int .i64 0))] [] [.inl 0, .inl 1, .inl 2, .inr 0, .inr 1, .inr 2, .inr 3, .inr 4] follows S2 rfl (by kernel_rfl) ?_ ?_
  · refine ⟨⟨⟨trivial, ?_⟩, ?_⟩, ?_⟩
    · exact owe_move rfl (wants_all rfl) (Or.inl rfl) (opnd_slot 2 0 rfl (by kernel_rfl)) rfl
    · exact owe_len rfl (wants_all rfl) rfl (opnd_op 0 15 (by kernel_rfl) rfl) ar_len Tryd.underlying22 rfl
    · exact owe_move rfl (wants_all rfl) (Or.inl rfl) (opnd_const _) rfl
  intro B3 a3 W3 S3
  replace S3 : Sta w 32 [] [(15, (Mv n A k)), (16, (Is (.int .i64 (n : Nat)))), (17, (Is (.int .i64 0))), (14, (Is (.bool false))), (6, (Is (.bool false))), (0, (Mv n A k)), (1, (Mv n B k')), (2, (Fn2 (A.map (fun zs => Vv zs.length zs k)) (B.map (fun zs => Vv zs.length zs k')) (List.zipWith (fun a b => IS (.bool (decide (ordZ a b = 0)))) A B)))] B3 a3 W3 := S3
  refine wp_block ?_
  refine wp_loop_ghost (fun (k0 : Nat) a W => (k0 ≤ n ∧ sameZ A B = sameZ (A.drop k0) (B.drop k0)) ∧ ∃ Bq, Sta w 32 [] [(15, (Mv n A k)), (16, (Is (.int .i64 (n : Nat)))), (17, (Is (.int .i64 k0))), (1, (Mv n B k')), (2, (Fn2 (A.map (fun zs => Vv zs.length zs k)) (B.map (fun zs => Vv zs.length zs k')) (List.zipWith (fun a b => IS (.bool (decide (ordZ a b = 0)))) A B)))] Bq a W) (fun (k0 : Nat) => n - k0) ?_ 0 ⟨⟨Nat.zero_le _, rfl⟩, B3, S3.sub [] [0, 1, 2, 6, 7]⟩
  rintro k0 a4 W4 ⟨hcond, B4, S4⟩
  rcases (show (k0 < n ∧ ordZ (A.getD k0 []) (B.getD k0 []) ≠ 0) ∨ (k0 < n ∧ ordZ (A.getD k0 []) (B.getD k0 []) = 0) ∨ n ≤ k0 from by omega) with ⟨h1, h3⟩ | ⟨h1, h3⟩ | h1
  · obtain ⟨a, ha⟩ : ∃ a, A[k0]? = some a := ⟨A[k0]'(by omega), List.getElem?_eq_getElem _⟩
    obtain ⟨b, hb⟩ : ∃ b, B[k0]? = some b := ⟨B[k0]'(by omega), List.getElem?_eq_getElem _⟩
    rw [List.getD_eq_getElem?_getD, ha, List.getD_eq_getElem?_getD, hb] at h3
    have h3 : ordZ a b ≠ 0 := h3
    have hla := hL k0 a ha
    have hlb := hL' k0 b hb
    rw [hcond.2, same_stop ha hb h3]
    have hz := zip_get' (fun a b => IS (.bool (decide (ordZ a b = 0)))) ha hb
    rw [show decide (ordZ a b = 0) = false from decide_eq_false h3] at hz
    refine wp_stmt_seq [.val (Is (.bool true))] [] [.inl 0, .inr 0, .inr 1, .inr 2, .inr 3, .inr 4] follows S4 rfl (by kernel_rfl) ?_ ?_
    · refine ⟨trivial, ?_⟩
      · exact owe_bin rfl (wants_all rfl) rfl (opnd_slot 2 17 rfl (by kernel_rfl)) (opnd_slot 1 16 rfl (by kernel_rfl)) rfl (fun ρ w h1 h2 => by exact run_lss_int_t ρ _ _ _ w _ _ (by omega) h1 h2)
    intro B5 a5 W5 S5
    replace S5 : Sta w 32 [] [(18, (Is (.bool true))), (15, (Mv n A k)), (16, (Is (.int .i64 (n : Nat)))), (17, (Is (.int .i64 k0))), (1, (Mv n B k')), (2, (Fn2 (A.map (fun zs => Vv zs.length zs k)) (B.map (fun zs => Vv zs.length zs k')) (List.zipWith (fun a b => IS (.bool (decide (ordZ a b = 0)))) A B)))] B5 a5 W5 := S5
    refine wp_seq ?_
    refine wp_cond_true (S5.bool 0 18 rfl) ?_
    refine wp_skip ?_
    refine thenN ?_
    refine wp_seq ?_
    refine wp_block ?_
    refine wp_stmt_seq [.val (Is (.int .i64 k0)),
      .val (AtE 1 (Vv (a.length) a k)),
      .val (Vv (a.length) a k),
      .val (Is (.int .i64 k0)),
      .val (Vv (a.length) a k)] [] [.inl 3, .inl 4, .inr 0, .inr 1, .inr 2, .inr 3, .inr 4, .inr 5] follows S5 rfl (by kernel_rfl) ?_ ?_
    · refine ⟨⟨⟨⟨⟨trivial, ?_⟩, ?_⟩, ?_⟩, ?_⟩, ?_⟩
      · exact owe_move rfl (wants_all rfl) (Or.inl rfl) (opnd_slot 3 17 rfl (by kernel_rfl)) rfl
      · exact owe_aindex rfl (wants_all rfl) rfl idx_rows (opnd_slot 1 15 rfl (by kernel_rfl)) (opnd_slot 3 17 rfl (by kernel_rfl)) (map_get' (fun zs : List Int => Vv zs.length zs k) ha) rfl
      · exact owe_aload rfl (wants_all rfl) rfl ldr_row1 (by decide) cel_vv (opnd_op 1 20 (by kernel_rfl) rfl) rfl
      · exact owe_move rfl (wants_all rfl) (Or.inr rfl) (opnd_op 0 19 (by kernel_rfl) rfl) rfl
      · exact owe_move rfl (wants_all rfl) (Or.inr rfl) (opnd_op 2 21 (by kernel_rfl) rfl) rfl
    intro B6 a6 W6 S6
    replace S6 : Sta w 32 [] [(7, (Is (.int .i64 k0))), (8, (Vv (a.length) a k)), (18, (Is (.bool true))), (15, (Mv n A k)), (16, (Is (.int .i64 (n : Nat)))), (17, (Is (.int .i64 k0))), (1, (Mv n B k')), (2, (Fn2 (A.map (fun zs => Vv zs.length zs k)) (B.map (fun zs => Vv zs.length zs k')) (List.zipWith (fun a b => IS (.bool (decide (ordZ a b = 0)))) A B)))] B6 a6 W6 := S6
    refine wp_stmt_seq [.val (Mv n B k'),
      .val (Is (.int .i64 k0)),
      .val (AtE 1 (Vv (b.length) b k')),
      .val (Vv (b.length) b k'),
      .val (Vv (b.length) b k')] [] [.inl 4, .inr 1, .inr 2, .inr 3, .inr 4, .inr 5, .inr 6, .inr 7] follows S6 rfl (by kernel_rfl) ?_ ?_
    · refine ⟨⟨⟨⟨⟨trivial, ?_⟩, ?_⟩, ?_⟩, ?_⟩, ?_⟩
      · exact owe_move rfl (wants_all rfl) (Or.inl rfl) (opnd_slot 6 1 rfl (by kernel_rfl)) rfl
      · exact owe_move rfl (wants_all rfl) (Or.inl rfl) (opnd_slot 0 7 rfl (by kernel_rfl)) rfl
      · exact owe_aindex rfl (wants_all rfl) rfl idx_rows (opnd_op 0 22 (by kernel_rfl) rfl) (opnd_op 1 23 (by kernel_rfl) rfl) (map_get' (fun zs : List Int => Vv zs.length zs k') hb) rfl
      · exact owe_aload rfl (wants_all rfl) rfl ldr_row1 (by decide) cel_vv (opnd_op 2 24 (by kernel_rfl) rfl) rfl
      · exact owe_move rfl (wants_all rfl) (Or.inr rfl) (opnd_op 3 25 (by kernel_rfl) rfl) rfl
    intro B7 a7 W7 S7
    replace S7 : Sta w 32 [] [(9, (Vv (b.length) b k')), (8, (Vv (a.length) a k)), (18, (Is (.bool true))), (15, (Mv n A k)), (16, (Is (.int .i64 (n : Nat)))), (17, (Is (.int .i64 k0))), (1, (Mv n B k')), (2, (Fn2 (A.map (fun zs => Vv zs.length zs k)) (B.map (fun zs => Vv zs.length zs k')) (List.zipWith (fun a b => IS (.bool (decide (ordZ a b = 0)))) A B)))] B7 a7 W7 := S7
    refine wp_stmt_seq [.val (Fn2 (A.map (fun zs => Vv zs.length zs k)) (B.map (fun zs => Vv zs.length zs k')) (List.zipWith (fun a b => IS (.bool (decide (ordZ a b = 0)))) A B)),
      .val (Vv (a.length) a k),
      .val (Vv (b.length) b k'),
      .val (Is (.bool false)),
      .val (Is (.bool true))] [] [.inl 4, .inr 2, .inr 3, .inr 4, .inr 5, .inr 6, .inr 7] follows S7 rfl (by kernel_rfl) ?_ ?_
    · refine ⟨⟨⟨⟨⟨trivial, ?_⟩, ?_⟩, ?_⟩, ?_⟩, ?_⟩
      · exact owe_move rfl (wants_all rfl) (Or.inl rfl) (opnd_slot 7 2 rfl (by kernel_rfl)) rfl
      · exact owe_move rfl (wants_all rfl) (Or.inl rfl) (opnd_slot 1 8 rfl (by kernel_rfl)) rfl
      · exact owe_move rfl (wants_all rfl) (Or.inl rfl) (opnd_slot 0 9 rfl (by kernel_rfl)) rfl
      · exact owe_callv2 k0 rfl (wants_all rfl) rfl (opnd_op 0 26 (by kernel_rfl) rfl) (map_get' (fun zs : List Int => Vv zs.length zs k) ha) (map_get' (fun zs : List Int => Vv zs.length zs k') hb) hz (opnd_op 1 27 (by kernel_rfl) rfl) (opnd_op 2 28 (by kernel_rfl) rfl) (fresh_is _) rfl
      · exact owe_un (x := .tmp 29) rfl (wants_all rfl) rfl (opnd_op 3 29 (by kernel_rfl) rfl) rfl (fun ρ w h1 => run_not ρ _ _ w _ h1)
    intro B8 a8 W8 S8
    replace S8 : Sta w 32 [] [(30, (Is (.bool true))), (18, (Is (.bool true))), (15, (Mv n A k)), (16, (Is (.int .i64 (n : Nat)))), (17, (Is (.int .i64 k0))), (1, (Mv n B k')), (2, (Fn2 (A.map (fun zs => Vv zs.length zs k)) (B.map (fun zs => Vv zs.length zs k')) (List.zipWith (fun a b => IS (.bool (decide (ordZ a b = 0)))) A B)))] B8 a8 W8 := S8
    refine wp_cond_true (S8.bool 0 30 rfl) ?_
    refine wp_stmt_seq [.val (Is (.bool false))] [] [.inl 0, .inr 0, .inr 1, .inr 2, .inr 3, .inr 4, .inr 5, .inr 6] follows S8 rfl (by kernel_rfl) ?_ ?_
    · refine ⟨trivial, ?_⟩
      · exact owe_move rfl (wants_all rfl) (Or.inr rfl) (opnd_const _) rfl
    intro B9 a9 W9 S9
    replace S9 : Sta w 32 [] [(6, (Is (.bool false))), (30, (Is (.bool true))), (18, (Is (.bool true))), (15, (Mv n A k)), (16, (Is (.int .i64 (n : Nat)))), (17, (Is (.int .i64 k0))), (1, (Mv n B k')), (2, (Fn2 (A.map (fun zs => Vv zs.length zs k)) (B.map (fun zs => Vv zs.length zs k')) (List.zipWith (fun a b => IS (.bool (decide (ordZ a b = 0)))) A B)))] B9 a9 W9 := S9
    refine wp_ret ?_
    refine inBlkR ?_
    refine thenR ?_
    refine thenR ?_
    refine inBlkR ?_
    refine thenR ?_
    exact end_one S9 rfl (res_tmp S9 0 6 rfl)
  · obtain ⟨a, ha⟩ : ∃ a, A[k0]? = some a := ⟨A[k0]'(by omega), List.getElem?_eq_getElem _⟩
    obtain ⟨b, hb⟩ : ∃ b, B[k0]? = some b := ⟨B[k0]'(by omega), List.getElem?_eq_getElem _⟩
    rw [List.getD_eq_getElem?_getD, ha, List.getD_eq_getElem?_getD, hb] at h3
    have h3 : ordZ a b = 0 := h3
    have hla := hL k0 a ha
    have hlb := hL' k0 b hb
    have hg := same_go ha hb h3
    have hz := zip_get' (fun a b => IS (.bool (decide (ordZ a b = 0)))) ha hb
    rw [show decide (ordZ a b = 0) = true from decide_eq_true h3] at hz
    refine wp_stmt_seq [.val (Is (.bool true))] [] [.inl 0, .inr 0, .inr 1, .inr 2, .inr 3, .inr 4] follows S4 rfl (by kernel_rfl) ?_ ?_
    · refine ⟨trivial, ?_⟩
      · exact owe_bin rfl (wants_all rfl) rfl (opnd_slot 2 17 rfl (by kernel_rfl)) (opnd_slot 1 16 rfl (by kernel_rfl)) rfl (fun ρ w h1 h2 => by exact run_lss_int_t ρ _ _ _ w _ _ (by omega) h1 h2)
    intro B5 a5 W5 S5
    replace S5 : Sta w 32 [] [(18, (Is (.bool true))), (15, (Mv n A k)), (16, (Is (.int .i64 (n : Nat)))), (17, (Is (.int .i64 k0))), (1, (Mv n B k')), (2, (Fn2 (A.map (fun zs => Vv zs.length zs k)) (B.map (fun zs => Vv zs.length zs k')) (List.zipWith (fun a b => IS (.bool (decide (ordZ a b = 0)))) A B)))] B5 a5 W5 := S5
    refine wp_seq ?_
    refine wp_cond_true (S5.bool 0 18 rfl) ?_
    refine wp_skip ?_
    refine thenN ?_
    refine wp_seq ?_
    refine wp_block ?_
    refine wp_stmt_seq [.val (Is (.int .i64 k0)),
      .val (AtE 1 (Vv (a.length) a k)),
      .val (Vv (a.length) a k),
      .val (Is (.int .i64 k0)),
      .val (Vv (a.length) a k)] [] [.inl 3, .inl 4, .inr 0, .inr 1, .inr 2, .inr 3, .inr 4, .inr 5] follows S5 rfl (by kernel_rfl) ?_ ?_
    · refine ⟨⟨⟨⟨⟨trivial, ?_⟩, ?_⟩, ?_⟩, ?_⟩, ?_⟩
      · exact owe_move rfl (wants_all rfl) (Or.inl rfl) (opnd_slot 3 17 rfl (by kernel_rfl)) rfl
      · exact owe_aindex rfl (wants_all rfl) rfl idx_rows (opnd_slot 1 15 rfl (by kernel_rfl)) (opnd_slot 3 17 rfl (by kernel_rfl)) (map_get' (fun zs : List Int => Vv zs.length zs k) ha) rfl
      · exact owe_aload rfl (wants_all rfl) rfl ldr_row1 (by decide) cel_vv (opnd_op 1 20 (by kernel_rfl) rfl) rfl
      · exact owe_move rfl (wants_all rfl) (Or.inr rfl) (opnd_op 0 19 (by kernel_rfl) rfl) rfl
      · exact owe_move rfl (wants_all rfl) (Or.inr rfl) (opnd_op 2 21 (by kernel_rfl) rfl) rfl
    intro B6 a6 W6 S6
    replace S6 : Sta w 32 [] [(7, (Is (.int .i64 k0))), (8, (Vv (a.length) a k)), (18, (Is (.bool true))), (15, (Mv n A k)), (16, (Is (.int .i64 (n : Nat)))), (17, (Is (.int .i64 k0))), (1, (Mv n B k')), (2, (Fn2 (A.map (fun zs => Vv zs.length zs k)) (B.map (fun zs => Vv zs.length zs k')) (List.zipWith (fun a b => IS (.bool (decide (ordZ a b = 0)))) A B)))] B6 a6 W6 := S6
    refine wp_stmt_seq [.val (Mv n B k'),
      .val (Is (.int .i64 k0)),
      .val (AtE 1 (Vv (b.length) b k')),
      .val (Vv (b.length) b k'),
      .val (Vv (b.length) b k')] [] [.inl 4, .inr 1, .inr 2, .inr 3, .inr 4, .inr 5, .inr 6, .inr 7] follows S6 rfl (by kernel_rfl) ?_ ?_
    · refine ⟨⟨⟨⟨⟨trivial, ?_⟩, ?_⟩, ?_⟩, ?_⟩, ?_⟩
      · exact owe_move rfl (wants_all rfl) (Or.inl rfl) (opnd_slot 6 1 rfl (by kernel_rfl)) rfl
      · exact owe_move rfl (wants_all rfl) (Or.inl rfl) (opnd_slot 0 7 rfl (by kernel_rfl)) rfl
      · exact owe_aindex rfl (wants_all rfl) rfl idx_rows (opnd_op 0 22 (by kernel_rfl) rfl) (opnd_op 1 23 (by kernel_rfl) rfl) (map_get' (fun zs : List Int => Vv zs.length zs k') hb) rfl
      · exact owe_aload rfl (wants_all rfl) rfl ldr_row1 (by decide) cel_vv (opnd_op 2 24 (by kernel_rfl) rfl) rfl
      · exact owe_move rfl (wants_all rfl) (Or.inr rfl) (opnd_op 3 25 (by kernel_rfl) rfl) rfl
    intro B7 a7 W7 S7
    replace S7 : Sta w 32 [] [(9, (Vv (b.length) b k')), (8, (Vv (a.length) a k)), (18, (Is (.bool true))), (15, (Mv n A k)), (16, (Is (.int .i64 (n : Nat)))), (17, (Is (.int .i64 k0))), (1, (Mv n B k')), (2, (Fn2 (A.map (fun zs => Vv zs.length zs k)) (B.map (fun zs => Vv zs.length zs k')) (List.zipWith (fun a b => IS (.bool (decide (ordZ a b = 0)))) A B)))] B7 a7 W7 := S7
    refine wp_stmt_seq [.val (Fn2 (A.map (fun zs => Vv zs.length zs k)) (B.map (fun zs => Vv zs.length zs k')) (List.zipWith (fun a b => IS (.bool (decide (ordZ a b = 0)))) A B)),
      .val (Vv (a.length) a k),
      .val (Vv (b.length) b k'),
      .val (Is (.bool true)),
      .val (Is (.bool false))] [] [.inl 4, .inr 2, .inr 3, .inr 4, .inr 5, .inr 6, .inr 7] follows S7 rfl (by kernel_rfl) ?_ ?_
    · refine ⟨⟨⟨⟨⟨trivial, ?_⟩, ?_⟩, ?_⟩, ?_⟩, ?_⟩
      · exact owe_move rfl (wants_all rfl) (Or.inl rfl) (opnd_slot 7 2 rfl (by kernel_rfl)) rfl
      · exact owe_move rfl (wants_all rfl) (Or.inl rfl) (opnd_slot 1 8 rfl (by kernel_rfl)) rfl
      · exact owe_move rfl (wants_all rfl) (Or.inl rfl) (opnd_slot 0 9 rfl (by kernel_rfl)) rfl
      · exact owe_callv2 k0 rfl (wants_all rfl) rfl (opnd_op 0 26 (by kernel_rfl) rfl) (map_get' (fun zs : List Int => Vv zs.length zs k) ha) (map_get' (fun zs : List Int => Vv zs.length zs k') hb) hz (opnd_op 1 27 (by kernel_rfl) rfl) (opnd_op 2 28 (by kernel_rfl) rfl) (fresh_is _) rfl
      · exact owe_un (x := .tmp 29) rfl (wants_all rfl) rfl (opnd_op 3 29 (by kernel_rfl) rfl) rfl (fun ρ w h1 => run_not ρ _ _ w _ h1)
    intro B8 a8 W8 S8
    replace S8 : Sta w 32 [] [(30, (Is (.bool false))), (18, (Is (.bool true))), (15, (Mv n A k)), (16, (Is (.int .i64 (n : Nat)))), (17, (Is (.int .i64 k0))), (1, (Mv n B k')), (2, (Fn2 (A.map (fun zs => Vv zs.length zs k)) (B.map (fun zs => Vv zs.length zs k')) (List.zipWith (fun a b => IS (.bool (decide (ordZ a b = 0)))) A B)))] B8 a8 W8 := S8
    refine wp_cond_false (S8.bool 0 30 rfl) ?_
    refine wp_skip ?_
    refine inBlkN ?_
    refine thenN ?_
    refine wp_stmt [.val (Is (.int .i64 (k0 + 1 : Nat))),
      .val (Is (.int .i64 (k0 + 1 : Nat)))] [] [.inl 1, .inr 0, .inr 1, .inr 2, .inr 3, .inr 5, .inr 6] follows S8 rfl (by kernel_rfl) ?_ ?_
    · refine ⟨⟨trivial, ?_⟩, ?_⟩
      · exact owe_bin rfl (wants_all rfl) rfl (opnd_slot 4 17 rfl (by kernel_rfl)) (opnd_const _) rfl (fun ρ w h1 h2 => by exact run_add_int ρ _ _ _ w _ _ _ ⟨by omega, by omega, by omega⟩ h1 h2)
      · exact owe_move rfl (wants_all rfl) (Or.inl rfl) (opnd_op 0 31 (by kernel_rfl) rfl) rfl
    intro B9 a9 W9 S9
    replace S9 : Sta w 32 [] [(17, (Is (.int .i64 (k0 + 1 : Nat)))), (30, (Is (.bool false))), (18, (Is (.bool true))), (15, (Mv n A k)), (16, (Is (.int .i64 (n : Nat)))), (1, (Mv n B k')), (2, (Fn2 (A.map (fun zs => Vv zs.length zs k)) (B.map (fun zs => Vv zs.length zs k')) (List.zipWith (fun a b => IS (.bool (decide (ordZ a b = 0)))) A B)))] B9 a9 W9 := S9
    refine thenN ?_
    exact ⟨k0 + 1, ⟨⟨by omega, hcond.2.trans hg⟩, B9, S9.sub [] [3, 4, 0, 5, 6]⟩, by omega⟩
  · rw [hcond.2, same_end hA hB (by omega)]
    refine wp_stmt_seq [.val (Is (.bool false))] [] [.inl 0, .inr 0, .inr 1, .inr 2, .inr 3, .inr 4] follows S4 rfl (by kernel_rfl) ?_ ?_
    · refine ⟨trivial, ?_⟩
      · exact owe_bin rfl (wants_all rfl) rfl (opnd_slot 2 17 rfl (by kernel_rfl)) (opnd_slot 1 16 rfl (by kernel_rfl)) rfl (fun ρ w h1 h2 => by exact run_lss_int_f ρ _ _ _ w _ _ (by omega) h1 h2)
    intro B5 a5 W5 S5
    replace S5 : Sta w 32 [] [(18, (Is (.bool false))), (15, (Mv n A k)), (16, (Is (.int .i64 (n : Nat)))), (17, (Is (.int .i64 k0))), (1, (Mv n B k')), (2, (Fn2 (A.map (fun zs => Vv zs.length zs k)) (B.map (fun zs => Vv zs.length zs k')) (List.zipWith (fun a b => IS (.bool (decide (ordZ a b = 0)))) A B)))] B5 a5 W5 := S5
    refine wp_seq ?_
    refine wp_cond_false (S5.bool 0 18 rfl) ?_
    refine wp_exit ?_
    refine thenX ?_
    refine thenX ?_
    refine inBlkE ?_
    refine thenN ?_
    refine wp_stmt_seq [.val (Is (.bool true))] [] [.inl 0, .inr 0, .inr 1, .inr 2, .inr 3, .inr 4, .inr 5] follows S5 rfl (by kernel_rfl) ?_ ?_
    · refine ⟨trivial, ?_⟩
      · exact owe_move rfl (wants_all rfl) (Or.inr rfl) (opnd_const _) rfl
    intro B6 a6 W6 S6
    replace S6 : Sta w 32 [] [(6, (Is (.bool true))), (18, (Is (.bool false))), (15, (Mv n A k)), (16, (Is (.int .i64 (n : Nat)))), (17, (Is (.int .i64 k0))), (1, (Mv n B k')), (2, (Fn2 (A.map (fun zs => Vv zs.length zs k)) (B.map (fun zs => Vv zs.length zs k')) (List.zipWith (fun a b => IS (.bool (decide (ordZ a b = 0)))) A B)))] B6 a6 W6 := S6
    refine wp_ret ?_
    exact end_one S6 rfl (res_tmp S6 0 6 rfl)

set_option maxHeartbeats 400000 in
theorem eqf_n (w : World) (u v f : Value) (n m k k' : Nat) (A B : List (List Int)) (h : Hs w (Mv n A k) u) (h' : Hs w (Mv m B k') v) (hn : n ≤ 1048576) (hm : m ≤ 1048576) (hs : k ≤ 1073741824) (hs' : k' ≤ 1073741824) (hL : Ml A 1048576) (hL' : Ml B 1048576) (hne : n ≠ m) (hf : Hs w (Fn2 (A.map (fun zs => Vv zs.length zs k)) (B.map (fun zs => Vv zs.length zs k')) (List.zipWith (fun a b => IS (.bool (decide (ordZ a b = 0)))) A B)) f) :
    Calls Tryd.prog 34 #[u, v, f] w (Gives (IS (.bool false)) w) := by
  refine calls_sta (sl := [(0, (Mv n A k)), (1, (Mv m B k')), (2, (Fn2 (A.map (fun zs => Vv zs.length zs k)) (B.map (fun zs => Vv zs.length zs k')) (List.zipWith (fun a b => IS (.bool (decide (ordZ a b = 0)))) A B)))]) Tryd.func34 rfl Tryd.ntmps34 (by simp) (args_cons rfl (h) (args_cons rfl (h') (args_cons rfl (hf) args_nil))) ?_
  intro a0 S0
  refine wp_stmt_seq [.val (Is (.bool false))] [] [.inl 0, .inr 0, .inr 1, .inr 2] follows S0 rfl (by kernel_rfl) ?_ ?_
  · refine ⟨trivial, ?_⟩
    · exact owe_move rfl (wants_all rfl) (Or.inr rfl) (opnd_const _) rfl
  intro B1 a1 W1 S1
  replace S1 : Sta w 32 [] [(6, (Is (.bool false))), (0, (Mv n A k)), (1, (Mv m B k')), (2, (Fn2 (A.map (fun zs => Vv zs.length zs k)) (B.map (fun zs => Vv zs.length zs k')) (List.zipWith (fun a b => IS (.bool (decide (ordZ a b = 0)))) A B)))] B1 a1 W1 := S1
  refine wp_seq ?_
  refine wp_stmt_seq [.val (Mv n A k),
      .val (Is (.int .i64 (n : Nat))),
      .val (Mv m B k'),
      .val (Is (.int .i64 (m : Nat))),
      .val (Is (.bool true))] [] [.inl 4, .inr 0, .inr 1, .inr 2, .inr 3] follows S1 rfl (by kernel_rfl) ?_ ?_
  · refine ⟨⟨⟨⟨⟨trivial, ?_⟩, ?_⟩, ?_⟩, ?_⟩, ?_⟩
    · exact owe_move rfl (wants_all rfl) (Or.inl rfl) (opnd_slot 1 0 rfl (by kernel_rfl)) rfl
    · exact owe_len rfl (wants_all rfl) rfl (opnd_op 0 10 (by kernel_rfl) rfl) ar_len Tryd.underlying22 rfl
    · exact owe_move rfl (wants_all rfl) (Or.inl rfl) (opnd_slot 2 1 rfl (by kernel_rfl)) rfl
    · exact owe_len rfl (wants_all rfl) rfl (opnd_op 2 12 (by kernel_rfl) rfl) ar_len Tryd.underlying22 rfl
    · exact owe_bin rfl (wants_all rfl) rfl (opnd_op 1 11 (by kernel_rfl) rfl) (opnd_op 3 13 (by kernel_rfl) rfl) rfl (fun ρ w h1 h2 => by exact run_neq_int_t ρ _ _ _ w _ _ (by omega) h1 h2)
  intro B2 a2 W2 S2
  replace S2 : Sta w 32 [] [(14, (Is (.bool true))), (6, (Is (.bool false))), (0, (Mv n A k)), (1, (Mv m B k')), (2, (Fn2 (A.map (fun zs => Vv zs.length zs k)) (B.map (fun zs => Vv zs.length zs k')) (List.zipWith (fun a b => IS (.bool (decide (ordZ a b = 0)))) A B)))] B2 a2 W2 := S2
  refine wp_cond_true (S2.bool 0 14 rfl) ?_
  refine wp_stmt_seq [.val (Is (.bool false))] [] [.inl 0, .inr 0, .inr 2, .inr 3, .inr 4] follows S2 rfl (by kernel_rfl) ?_ ?_
  · refine ⟨trivial, ?_⟩
    · exact owe_move rfl (wants_all rfl) (Or.inr rfl) (opnd_const _) rfl
  intro B3 a3 W3 S3
  replace S3 : Sta w 32 [] [(6, (Is (.bool false))), (14, (Is (.bool true))), (0, (Mv n A k)), (1, (Mv m B k')), (2, (Fn2 (A.map (fun zs => Vv zs.length zs k)) (B.map (fun zs => Vv zs.length zs k')) (List.zipWith (fun a b => IS (.bool (decide (ordZ a b = 0)))) A B)))] B3 a3 W3 := S3
  refine wp_ret ?_
  refine thenR ?_
  exact end_one S3 rfl (res_tmp S3 0 6 rfl)

theorem h_eqf (w : World) (u v f : Value) (n m k k' : Nat) (A B : List (List Int)) (h : Hs w (Mv n A k) u) (h' : Hs w (Mv m B k') v) (hn : n ≤ 1048576) (hm : m ≤ 1048576) (hs : k ≤ 1073741824) (hs' : k' ≤ 1073741824) (hL : Ml A 1048576) (hL' : Ml B 1048576) (hf : Hs w (Fn2 (A.map (fun zs => Vv zs.length zs k)) (B.map (fun zs => Vv zs.length zs k')) (List.zipWith (fun a b => IS (.bool (decide (ordZ a b = 0)))) A B)) f) : Calls Tryd.prog 34 #[u, v, f] w (Gives (IS (.bool (sameZ A B))) w) := by
  by_cases e : n = m
  · subst e
    exact eqf_w w u v f n k k' A B h h' hn hs hs' hL hL' hf
  · rw [same_len (by rw [mv_len h.now, mv_len h'.now]; exact e)]
    exact eqf_n w u v f n m k k' A B h h' hn hm hs hs' hL hL' e hf

set_option maxHeartbeats 400000 in
theorem same_w (w : World) (u v : Value) (n m k k' : Nat) (A B : List (List Int)) (h : Hs w (Mv n A k) u) (h' : Hs w (Mv m B k') v) (hn : n ≤ 1048576) (hm : m ≤ 1048576) (hs : k ≤ 1073741824) (hs' : k' ≤ 1073741824) (hL : Ml A 1048576) (hL' : Ml B 1048576) :
    Calls Tryd.prog 14 #[u, v] w (Gives (IS (.bool (sameZ A B))) w) := by
  refine calls_sta (sl := [(0, (Mv n A k)), (1, (Mv m B k'))]) Tryd.func14 rfl Tryd.ntmps14 (by simp) (args_cons rfl (h) (args_cons rfl (h') args_nil)) ?_
  intro a0 S0
  refine wp_stmt_seq [.val (Is (.bool false))] [] [.inl 0, .inr 0, .inr 1] follows S0 rfl (by kernel_rfl) ?_ ?_
  · refine ⟨trivial, ?_⟩
    · exact owe_move rfl (wants_all rfl) (Or.inr rfl) (opnd_const _) rfl
  intro B1 a1 W1 S1
  replace S1 : Sta w 8 [] [(4, (Is (.bool false))), (0, (Mv n A k)), (1, (Mv m B k'))] B1 a1 W1 := S1
  refine wp_stmt_seq [.val (Mv n A k),
      .val (Mv m B k'),
      .val (Is (.bool (sameZ A B))),
      .val (Is (.bool (sameZ A B)))] [] [.inl 3] follows S1 rfl (by kernel_rfl) ?_ ?_
  · refine ⟨⟨⟨⟨trivial, ?_⟩, ?_⟩, ?_⟩, ?_⟩
    · exact owe_move rfl (wants_all rfl) (Or.inl rfl) (opnd_slot 1 0 rfl (by kernel_rfl)) rfl
    · exact owe_move rfl (wants_all rfl) (Or.inl rfl) (opnd_slot 2 1 rfl (by kernel_rfl)) rfl
    · exact owe_callh3 rfl (wants_all rfl) rfl (opnd_op 0 5 (by kernel_rfl) rfl) (opnd_op 1 6 (by kernel_rfl) rfl) ((opnd_func _).imp (is_fn2 (fun args w => by go_simp) (fun i φ φ' ψ h1 h2 h3 w u v hu hv => by obtain ⟨a, ha, rfl⟩ := map_get h1; obtain ⟨b, hb, rfl⟩ := map_get h2; obtain ⟨a', b', ha', hb', rfl⟩ := zip_get h3; rw [ha] at ha'; rw [hb] at hb'; cases ha'; cases hb'; exact same1_w w u v k k' a b hu hv hs hs' (hL i a ha) (hL' i b hb)))) (fresh_is _) rfl (fun args w => by go_simp) (fun w u v f h h' hf => h_eqf w u v f n m k k' A B h h' hn hm hs hs' hL hL' hf)
    · exact owe_move rfl (wants_all rfl) (Or.inr rfl) (opnd_op 2 7 (by kernel_rfl) rfl) rfl
  intro B2 a2 W2 S2
  replace S2 : Sta w 8 [] [(4, (Is (.bool (sameZ A B))))] B2 a2 W2 := S2
  refine wp_ret ?_
  exact end_one S2 rfl (res_tmp S2 0 4 rfl)

end Go.Proofs.YtdhjgekbocnnkaaDoor
