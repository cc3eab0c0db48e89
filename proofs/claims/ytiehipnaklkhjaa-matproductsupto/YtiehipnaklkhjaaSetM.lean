import Derived.Test.YtiehipnaklkhjaaMProd
/-
  Turn, Gram: mat's and the document's.
-/
namespace Go.Proofs.Ytiehipnaklkhjaa
open Go Go.RowKit Nt
set_option linter.unusedSimpArgs false
set_option linter.unusedVariables false
set_option maxRecDepth 20000

set_option maxHeartbeats 400000 in
theorem turn1_w (w : World) (c : Value) (n k x i j : Nat) (A : List (List Int)) (r : List Int) (y : Int) (h : Hs w (AtE 1 (Mv n A k)) c) (hr : A[j]? = some r) (hR : Reg A x) (hy : r[i]? = some y) (hs : k ≤ 1073741824) :
    Calls Try.prog 80 #[.int .i64 (i : Nat), .int .i64 (j : Nat), c] w (Gives (ZN (y)) w) := by
  have hrow := row_at (k := k) hr hR
  refine calls_sta (sl := [(0, (Is (.int .i64 (i : Nat)))), (1, (Is (.int .i64 (j : Nat)))), (2, (AtE 1 (Mv n A k)))]) Try.func80 rfl Try.ntmps80 (by simp) (args_cons rfl (is_has _) (args_cons rfl (is_has _) (args_cons rfl (h) args_nil))) ?_
  intro a0 S0
  refine wp_stmt_seq [.new (.box 39 (Is (.agg #[.bool false, .slice none 0 0])))] [.inl 0] [.inr 0, .inr 1, .inr 2] follows S0 rfl (by kernel_rfl) ?_ ?_
  · refine ⟨trivial, ?_⟩
    · exact owe_new rfl (wants_all rfl) rfl rfl (fun ρ w => alloc_int ρ _ w)
  intro B1 a1 W1 S1
  replace S1 : Sta w 14 [(5, (.box 39 (Is (.agg #[.bool false, .slice none 0 0]))))] [(0, (Is (.int .i64 (i : Nat)))), (1, (Is (.int .i64 (j : Nat)))), (2, (AtE 1 (Mv n A k)))] B1 a1 W1 := S1
  refine wp_stmt_seq [.val (Mv n A k),
      .val (Is (.int .i64 (j : Nat))),
      .val (AtE 1 (Vv x r k)),
      .val (Vv x r k),
      .val (Is (.int .i64 (i : Nat))),
      .val (AtE 2 (Zv y k)),
      .val (Zv y k),
      .val ((ZN (y)) w.heap.size),
      .put (.inl 5) (.box 39 ((ZN (y)) w.heap.size))] [.inr 0] [] follows S1 rfl (by kernel_rfl) ?_ ?_
  · refine ⟨⟨⟨⟨⟨⟨⟨⟨⟨trivial, ?_⟩, ?_⟩, ?_⟩, ?_⟩, ?_⟩, ?_⟩, ?_⟩, ?_⟩, ?_⟩
    · exact owe_aload rfl (wants_all rfl) rfl ldr_mat1 (by decide) cel_ar (opnd_slot 2 2 rfl (by kernel_rfl)) rfl
    · exact owe_move rfl (wants_all rfl) (Or.inl rfl) (opnd_slot 1 1 rfl (by kernel_rfl)) rfl
    · exact owe_aindex rfl (wants_all rfl) rfl idx_rows (opnd_op 0 6 (by kernel_rfl) rfl) (opnd_op 1 7 (by kernel_rfl) rfl) hrow rfl
    · exact owe_aload rfl (wants_all rfl) rfl ldr_row1 (by decide) cel_vv (opnd_op 2 8 (by kernel_rfl) rfl) rfl
    · exact owe_move rfl (wants_all rfl) (Or.inl rfl) (opnd_slot 0 0 rfl (by kernel_rfl)) rfl
    · exact owe_aindex rfl (wants_all rfl) rfl idx_ints (opnd_op 3 9 (by kernel_rfl) rfl) (opnd_op 4 10 (by kernel_rfl) rfl) (map_get' _ hy) rfl
    · exact owe_aload rfl (wants_all rfl) rfl ldr_int (by decide) (cel_shp (by decide) shp_zv) (opnd_op 5 11 (by kernel_rfl) rfl) rfl
    · exact owe_callh1 rfl (wants_all rfl) rfl (opnd_op 6 12 (by kernel_rfl) rfl) (fresh_zn _) rfl (fun args w => by go_simp) (fun w u0 h0 => (h_zform (by omega)) w u0 ((fun _ _ h => h) _ _ h0.now))
    · exact owe_set rfl (wants_all rfl) rfl (k := 0) rfl (by kernel_rfl) (opnd_op 7 13 (by kernel_rfl) rfl) (stores_of strct_int shp_z0 shp_zn) rfl
  intro B2 a2 W2 S2
  replace S2 : Sta w 14 [(5, (.box 39 ((ZN (y)) w.heap.size)))] [] B2 a2 W2 := S2
  refine wp_ret ?_
  exact end_one S2 rfl (res_cell S2 0 5 rfl strct_int shp_zn)

set_option maxHeartbeats 400000 in
theorem turn_y (w : World) (u : Value) (n k : Nat) (A : List (List Int)) (h : Hs w (Mv n A k) u) (hn : n ≤ 1048576) (x : Nat) (hx : x ≤ 1048576) (hR : Reg A x) (h0A : n = 0 → x = 0) (hs : k ≤ 536870912) :
    Calls Try.prog 44 #[u] w (Gives (TWO (MN x (grid x n (turnF A))) (IS (.int .i64 0))) w) := by
  have hA := mv_len h.now
  refine calls_sta (sl := [(0, (Mv n A k))]) Try.func44 rfl Try.ntmps44 (by simp) (args_cons rfl (h) args_nil) ?_
  intro a0 S0
  refine wp_stmt_seq [.new (.box 22 (Mv n A k)),
      .val (Is (.slice none 0 0)),
      .val (Is (.int .i64 0))] [.inl 0] [.inl 1, .inl 2] follows S0 rfl (by kernel_rfl) ?_ ?_
  · refine ⟨⟨⟨trivial, ?_⟩, ?_⟩, ?_⟩
    · exact owe_box rfl (wants_all rfl) rfl (opnd_slot 0 0 rfl (by kernel_rfl)) rfl (fun ρ w h => bx1_mat ρ _ _ w (cel_ar _ _ h))
    · exact owe_move rfl (wants_all rfl) (Or.inr rfl) (opnd_const _) rfl
    · exact owe_move rfl (wants_all rfl) (Or.inr rfl) (opnd_const _) rfl
  intro B1 a1 W1 S1
  replace S1 : Sta w 20 [(1, (.box 22 (Mv n A k)))] [(2, (Is (.slice none 0 0))), (3, (Is (.int .i64 0)))] B1 a1 W1 := S1
  refine wp_stmt_seq [.val (Mv n A k),
      .val ((THREE (IS (.int .i64 (n : Nat))) (IS (.int .i64 (x : Nat))) (IS (.int .i64 0))) w.heap.size),
      .val ((THREE (IS (.int .i64 (n : Nat))) (IS (.int .i64 (x : Nat))) (IS (.int .i64 0))) w.heap.size),
      .val (Is (.int .i64 (n : Nat))),
      .val (Is (.int .i64 (x : Nat))),
      .val (Is (.int .i64 0)),
      .val (Is (.int .i64 (n : Nat))),
      .val (Is (.int .i64 (x : Nat))),
      .val (Is (.int .i64 0))] [.inr 0] [.inl 6, .inl 7, .inl 8, .inr 0, .inr 1] follows S1 rfl (by kernel_rfl) ?_ ?_
  · refine ⟨⟨⟨⟨⟨⟨⟨⟨⟨trivial, ?_⟩, ?_⟩, ?_⟩, ?_⟩, ?_⟩, ?_⟩, ?_⟩, ?_⟩, ?_⟩
    · exact owe_load rfl (wants_all rfl) rfl (k := 0) rfl (by kernel_rfl) (loads_ldr ldr_mat1 cel_ar) rfl
    · exact owe_callh1 rfl (wants_all rfl) rfl (opnd_op 0 8 (by kernel_rfl) rfl) (fresh_three (fresh_is _) (fresh_is _) (fresh_is _)) rfl (fun args w => by go_simp) (fun w u h => h_shape_y w u n _ x _ h (by omega) hR h0A)
    · exact owe_move rfl (wants_all rfl) (Or.inl rfl) (opnd_op 1 9 (by kernel_rfl) rfl) rfl
    · exact owe_ext3 rfl (wants_all rfl) rfl (opnd_op 2 7 (by kernel_rfl) rfl) (Or.inl ⟨rfl, rfl⟩) rfl
    · exact owe_ext3 rfl (wants_all rfl) rfl (opnd_op 2 7 (by kernel_rfl) rfl) (Or.inr (Or.inl ⟨rfl, rfl⟩)) rfl
    · exact owe_ext3 rfl (wants_all rfl) rfl (opnd_op 2 7 (by kernel_rfl) rfl) (Or.inr (Or.inr ⟨rfl, rfl⟩)) rfl
    · exact owe_move rfl (wants_all rfl) (Or.inr rfl) (opnd_op 3 10 (by kernel_rfl) rfl) rfl
    · exact owe_move rfl (wants_all rfl) (Or.inr rfl) (opnd_op 4 11 (by kernel_rfl) rfl) rfl
    · exact owe_move rfl (wants_all rfl) (Or.inr rfl) (opnd_op 5 12 (by kernel_rfl) rfl) rfl
  intro B2 a2 W2 S2
  replace S2 : Sta w 20 [(1, (.box 22 (Mv n A k)))] [(4, (Is (.int .i64 (n : Nat)))), (5, (Is (.int .i64 (x : Nat)))), (6, (Is (.int .i64 0))), (2, (Is (.slice none 0 0))), (3, (Is (.int .i64 0)))] B2 a2 W2 := S2
  refine wp_seq ?_
  refine wp_stmt_seq [.val (Is (.int .i64 0)),
      .val (Is (.bool false))] [.inr 0] [.inl 1, .inr 0, .inr 1, .inr 2, .inr 3, .inr 4] follows S2 rfl (by kernel_rfl) ?_ ?_
  · refine ⟨⟨trivial, ?_⟩, ?_⟩
    · exact owe_move rfl (wants_all rfl) (Or.inl rfl) (opnd_slot 2 6 rfl (by kernel_rfl)) rfl
    · exact owe_bin rfl (wants_all rfl) rfl (opnd_op 0 13 (by kernel_rfl) rfl) (opnd_const _) rfl (fun ρ w h1 h2 => by exact run_neq_errno_f ρ _ _ _ w _ _ (by omega) h1 h2)
  intro B3 a3 W3 S3
  replace S3 : Sta w 20 [(1, (.box 22 (Mv n A k)))] [(14, (Is (.bool false))), (4, (Is (.int .i64 (n : Nat)))), (5, (Is (.int .i64 (x : Nat)))), (6, (Is (.int .i64 0))), (2, (Is (.slice none 0 0))), (3, (Is (.int .i64 0)))] B3 a3 W3 := S3
  refine wp_cond_false (S3.bool 0 14 rfl) ?_
  refine wp_skip ?_
  refine thenN ?_
  obtain ⟨B4, S4⟩ : ∃ Bq, Sta w 20 [] [(1, (AtE 1 (Mv n A k))), (14, (Is (.bool false))), (4, (Is (.int .i64 (n : Nat)))), (5, (Is (.int .i64 (x : Nat)))), (6, (Is (.int .i64 0))), (2, (Is (.slice none 0 0))), (3, (Is (.int .i64 0)))] Bq a3 W3 := ⟨_, S3.freezeBox 0 rfl (by simp) cel_ar⟩
  obtain ⟨a4, W4, e1, e2⟩ : ∃ a W, a3 = a ∧ W3 = W := ⟨_, _, rfl, rfl⟩
  rw [e1, e2] at S4 ⊢
  clear e1 e2
  refine wp_stmt_seq [.val (Is (.int .i64 (x : Nat))),
      .val (Is (.int .i64 (n : Nat))),
      .val (Fn2 ((List.range (x * n)).map (fun p => Is (.int .i64 ((p / n : Nat) : Int)))) ((List.range (x * n)).map (fun p => Is (.int .i64 ((p % n : Nat) : Int)))) ((flat x n (turnF A)).map ZN)),
      .val ((MN x (grid x n (turnF A))) w.heap.size),
      .val ((MN x (grid x n (turnF A))) w.heap.size),
      .val (Is (.int .i64 0))] [] [.inl 4, .inl 5, .inr 0, .inr 1, .inr 4] follows S4 rfl (by kernel_rfl) ?_ ?_
  · refine ⟨⟨⟨⟨⟨⟨trivial, ?_⟩, ?_⟩, ?_⟩, ?_⟩, ?_⟩, ?_⟩
    · exact owe_move rfl (wants_all rfl) (Or.inl rfl) (opnd_slot 3 5 rfl (by kernel_rfl)) rfl
    · exact owe_move rfl (wants_all rfl) (Or.inl rfl) (opnd_slot 2 4 rfl (by kernel_rfl)) rfl
    · exact owe_mkfn2 rfl (wants_all rfl) rfl (opnd_slot 0 1 rfl (by kernel_rfl)) rfl (fun args w => by go_simp) (fun i φ φ' ψ h1 h2 h3 w u v c hu hv hc => by obtain ⟨a, b, ha, hb, rfl, rfl, rfl⟩ := fn_grid h1 h2 h3; obtain rfl : u = _ := hu.now; obtain rfl : v = _ := hv.now; obtain ⟨r, hr⟩ : ∃ r, A[b]? = some r := ⟨A[b]'(by omega), List.getElem?_eq_getElem _⟩; have hlt : a < r.length := (by rw [hR b r hr]; exact ha); rw [show turnF A a b = r[a]'hlt from (by show (A.getD b []).getD a 0 = _; rw [List.getD_eq_getElem?_getD (l := A), hr]; show r.getD a 0 = _; rw [List.getD_eq_getElem?_getD, List.getElem?_eq_getElem hlt]; rfl)]; exact turn1_w w c n k x a b A r _ hc hr hR (List.getElem?_eq_getElem hlt) (by omega))
    · exact owe_callh3 rfl (wants_all rfl) rfl (opnd_op 0 16 (by kernel_rfl) rfl) (opnd_op 1 17 (by kernel_rfl) rfl) (opnd_op 2 18 (by kernel_rfl) rfl) fresh_mn rfl (fun args w => by go_simp) (fun w u0 u1 u2 h0 h1 h2 => by obtain rfl : u0 = _ := h0.now; obtain rfl : u1 = _ := h1.now; exact filled_w w u2 x n (turnF A) h2 hx hn)
    · exact owe_move rfl (wants_all rfl) (Or.inr rfl) (opnd_op 3 19 (by kernel_rfl) rfl) rfl
    · exact owe_move rfl (wants_all rfl) (Or.inr rfl) (opnd_const _) rfl
  intro B5 a5 W5 S5
  replace S5 : Sta w 20 [] [(2, ((MN x (grid x n (turnF A))) w.heap.size)), (3, (Is (.int .i64 0))), (1, (AtE 1 (Mv n A k))), (14, (Is (.bool false))), (6, (Is (.int .i64 0)))] B5 a5 W5 := S5
  refine wp_ret ?_
  exact end_two S5 rfl (res_tmp S5 0 2 rfl) (res_tmp S5 1 3 rfl)

set_option maxHeartbeats 400000 in
theorem turn_n (w : World) (u : Value) (n k : Nat) (A : List (List Int)) (h : Hs w (Mv n A k) u) (hn : n ≤ 1048576) (hR : ¬ reg A = true) :
    Calls Try.prog 44 #[u] w (Gives (TWO (IS (.slice none 0 0)) (IS (.int .i64 8))) w) := by
  refine calls_sta (sl := [(0, (Mv n A k))]) Try.func44 rfl Try.ntmps44 (by simp) (args_cons rfl (h) args_nil) ?_
  intro a0 S0
  refine wp_stmt_seq [.new (.box 22 (Mv n A k)),
      .val (Is (.slice none 0 0)),
      .val (Is (.int .i64 0))] [.inl 0] [.inl 1, .inl 2] follows S0 rfl (by kernel_rfl) ?_ ?_
  · refine ⟨⟨⟨trivial, ?_⟩, ?_⟩, ?_⟩
    · exact owe_box rfl (wants_all rfl) rfl (opnd_slot 0 0 rfl (by kernel_rfl)) rfl (fun ρ w h => bx1_mat ρ _ _ w (cel_ar _ _ h))
    · exact owe_move rfl (wants_all rfl) (Or.inr rfl) (opnd_const _) rfl
    · exact owe_move rfl (wants_all rfl) (Or.inr rfl) (opnd_const _) rfl
  intro B1 a1 W1 S1
  replace S1 : Sta w 20 [(1, (.box 22 (Mv n A k)))] [(2, (Is (.slice none 0 0))), (3, (Is (.int .i64 0)))] B1 a1 W1 := S1
  refine wp_stmt_seq [.val (Mv n A k),
      .val ((THREE (IS (.int .i64 0)) (IS (.int .i64 0)) (IS (.int .i64 8))) w.heap.size),
      .val ((THREE (IS (.int .i64 0)) (IS (.int .i64 0)) (IS (.int .i64 8))) w.heap.size),
      .val (Is (.int .i64 0)),
      .val (Is (.int .i64 0)),
      .val (Is (.int .i64 8)),
      .val (Is (.int .i64 0)),
      .val (Is (.int .i64 0)),
      .val (Is (.int .i64 8))] [.inr 0] [.inl 6, .inl 7, .inl 8, .inr 0, .inr 1] follows S1 rfl (by kernel_rfl) ?_ ?_
  · refine ⟨⟨⟨⟨⟨⟨⟨⟨⟨trivial, ?_⟩, ?_⟩, ?_⟩, ?_⟩, ?_⟩, ?_⟩, ?_⟩, ?_⟩, ?_⟩
    · exact owe_load rfl (wants_all rfl) rfl (k := 0) rfl (by kernel_rfl) (loads_ldr ldr_mat1 cel_ar) rfl
    · exact owe_callh1 rfl (wants_all rfl) rfl (opnd_op 0 8 (by kernel_rfl) rfl) (fresh_three (fresh_is _) (fresh_is _) (fresh_is _)) rfl (fun args w => by go_simp) (fun w u h => h_shape_n w u n _ _ h (by omega) hR)
    · exact owe_move rfl (wants_all rfl) (Or.inl rfl) (opnd_op 1 9 (by kernel_rfl) rfl) rfl
    · exact owe_ext3 rfl (wants_all rfl) rfl (opnd_op 2 7 (by kernel_rfl) rfl) (Or.inl ⟨rfl, rfl⟩) rfl
    · exact owe_ext3 rfl (wants_all rfl) rfl (opnd_op 2 7 (by kernel_rfl) rfl) (Or.inr (Or.inl ⟨rfl, rfl⟩)) rfl
    · exact owe_ext3 rfl (wants_all rfl) rfl (opnd_op 2 7 (by kernel_rfl) rfl) (Or.inr (Or.inr ⟨rfl, rfl⟩)) rfl
    · exact owe_move rfl (wants_all rfl) (Or.inr rfl) (opnd_op 3 10 (by kernel_rfl) rfl) rfl
    · exact owe_move rfl (wants_all rfl) (Or.inr rfl) (opnd_op 4 11 (by kernel_rfl) rfl) rfl
    · exact owe_move rfl (wants_all rfl) (Or.inr rfl) (opnd_op 5 12 (by kernel_rfl) rfl) rfl
  intro B2 a2 W2 S2
  replace S2 : Sta w 20 [(1, (.box 22 (Mv n A k)))] [(4, (Is (.int .i64 0))), (5, (Is (.int .i64 0))), (6, (Is (.int .i64 8))), (2, (Is (.slice none 0 0))), (3, (Is (.int .i64 0)))] B2 a2 W2 := S2
  refine wp_seq ?_
  refine wp_stmt_seq [.val (Is (.int .i64 8)),
      .val (Is (.bool true))] [.inr 0] [.inl 1, .inr 0, .inr 1, .inr 2, .inr 3, .inr 4] follows S2 rfl (by kernel_rfl) ?_ ?_
  · refine ⟨⟨trivial, ?_⟩, ?_⟩
    · exact owe_move rfl (wants_all rfl) (Or.inl rfl) (opnd_slot 2 6 rfl (by kernel_rfl)) rfl
    · exact owe_bin rfl (wants_all rfl) rfl (opnd_op 0 13 (by kernel_rfl) rfl) (opnd_const _) rfl (fun ρ w h1 h2 => by exact run_neq_errno_t ρ _ _ _ w _ _ (by omega) h1 h2)
  intro B3 a3 W3 S3
  replace S3 : Sta w 20 [(1, (.box 22 (Mv n A k)))] [(14, (Is (.bool true))), (4, (Is (.int .i64 0))), (5, (Is (.int .i64 0))), (6, (Is (.int .i64 8))), (2, (Is (.slice none 0 0))), (3, (Is (.int .i64 0)))] B3 a3 W3 := S3
  refine wp_cond_true (S3.bool 0 14 rfl) ?_
  refine wp_stmt_seq [.val (Is (.int .i64 8)),
      .val (Is (.slice none 0 0)),
      .val (Is (.int .i64 8))] [.inr 0] [.inl 1, .inl 2, .inr 0, .inr 1, .inr 2, .inr 3] follows S3 rfl (by kernel_rfl) ?_ ?_
  · refine ⟨⟨⟨trivial, ?_⟩, ?_⟩, ?_⟩
    · exact owe_move rfl (wants_all rfl) (Or.inl rfl) (opnd_slot 3 6 rfl (by kernel_rfl)) rfl
    · exact owe_move rfl (wants_all rfl) (Or.inr rfl) (opnd_const _) rfl
    · exact owe_move rfl (wants_all rfl) (Or.inr rfl) (opnd_op 0 15 (by kernel_rfl) rfl) rfl
  intro B4 a4 W4 S4
  replace S4 : Sta w 20 [(1, (.box 22 (Mv n A k)))] [(2, (Is (.slice none 0 0))), (3, (Is (.int .i64 8))), (14, (Is (.bool true))), (4, (Is (.int .i64 0))), (5, (Is (.int .i64 0))), (6, (Is (.int .i64 8)))] B4 a4 W4 := S4
  refine wp_ret ?_
  refine thenR ?_
  exact end_two S4 rfl (res_tmp S4 0 2 rfl) (res_tmp S4 1 3 rfl)

set_option maxHeartbeats 400000 in
theorem rturn_y (w : World) (u : Value) (n k : Nat) (A : List (List Int)) (h : Hs w (Mv n A k) u) (hn : n ≤ 1048576) (x : Nat) (hx : x ≤ 1048576) (hR : Reg A x) (h0A : n = 0 → x = 0) (hs : k ≤ 536870912) :
    Calls Try.prog 45 #[u] w (Gives (TWO (MN x (turnZ A x)) (IS (.int .i64 0))) w) := by
  have hA := mv_len h.now
  have hol : (turnZ A x).length = x := by simp [turnZ]
  refine calls_sta (sl := [(0, (Mv n A k))]) Try.func45 rfl Try.ntmps45 (by simp) (args_cons rfl (h) args_nil) ?_
  intro a0 S0
  refine wp_stmt_seq [.val (Is (.slice none 0 0)),
      .val (Is (.int .i64 0))] [] [.inl 0, .inl 1, .inr 0] follows S0 rfl (by kernel_rfl) ?_ ?_
  · refine ⟨⟨trivial, ?_⟩, ?_⟩
    · exact owe_move rfl (wants_all rfl) (Or.inr rfl) (opnd_const _) rfl
    · exact owe_move rfl (wants_all rfl) (Or.inr rfl) (opnd_const _) rfl
  intro B1 a1 W1 S1
  replace S1 : Sta w 46 [] [(2, (Is (.slice none 0 0))), (3, (Is (.int .i64 0))), (0, (Mv n A k))] B1 a1 W1 := S1
  refine wp_stmt_seq [.val (Mv n A k),
      .val ((THREE (IS (.int .i64 (n : Nat))) (IS (.int .i64 (x : Nat))) (IS (.int .i64 0))) w.heap.size),
      .val ((THREE (IS (.int .i64 (n : Nat))) (IS (.int .i64 (x : Nat))) (IS (.int .i64 0))) w.heap.size),
      .val (Is (.int .i64 (n : Nat))),
      .val (Is (.int .i64 (x : Nat))),
      .val (Is (.int .i64 0)),
      .val (Is (.int .i64 (n : Nat))),
      .val (Is (.int .i64 (x : Nat))),
      .val (Is (.int .i64 0))] [] [.inl 7, .inl 8, .inr 0, .inr 1, .inr 2] follows S1 rfl (by kernel_rfl) ?_ ?_
  · refine ⟨⟨⟨⟨⟨⟨⟨⟨⟨trivial, ?_⟩, ?_⟩, ?_⟩, ?_⟩, ?_⟩, ?_⟩, ?_⟩, ?_⟩, ?_⟩
    · exact owe_move rfl (wants_all rfl) (Or.inl rfl) (opnd_slot 2 0 rfl (by kernel_rfl)) rfl
    · exact owe_callh1 rfl (wants_all rfl) rfl (opnd_op 0 12 (by kernel_rfl) rfl) (fresh_three (fresh_is _) (fresh_is _) (fresh_is _)) rfl (fun args w => by go_simp) (fun w u h => h_rshape_y w u n _ x _ h (by omega) hR h0A)
    · exact owe_move rfl (wants_all rfl) (Or.inl rfl) (opnd_op 1 13 (by kernel_rfl) rfl) rfl
    · exact owe_ext3 rfl (wants_all rfl) rfl (opnd_op 2 11 (by kernel_rfl) rfl) (Or.inl ⟨rfl, rfl⟩) rfl
    · exact owe_ext3 rfl (wants_all rfl) rfl (opnd_op 2 11 (by kernel_rfl) rfl) (Or.inr (Or.inl ⟨rfl, rfl⟩)) rfl
    · exact owe_ext3 rfl (wants_all rfl) rfl (opnd_op 2 11 (by kernel_rfl) rfl) (Or.inr (Or.inr ⟨rfl, rfl⟩)) rfl
    · exact owe_move rfl (wants_all rfl) (Or.inr rfl) (opnd_op 3 14 (by kernel_rfl) rfl) rfl
    · exact owe_move rfl (wants_all rfl) (Or.inr rfl) (opnd_op 4 15 (by kernel_rfl) rfl) rfl
    · exact owe_move rfl (wants_all rfl) (Or.inr rfl) (opnd_op 5 16 (by kernel_rfl) rfl) rfl
  intro B2 a2 W2 S2
  replace S2 : Sta w 46 [] [(5, (Is (.int .i64 (x : Nat)))), (6, (Is (.int .i64 0))), (2, (Is (.slice none 0 0))), (3, (Is (.int .i64 0))), (0, (Mv n A k))] B2 a2 W2 := S2
  refine wp_seq ?_
  refine wp_stmt_seq [.val (Is (.int .i64 0)),
      .val (Is (.bool false))] [] [.inl 1, .inr 0, .inr 2, .inr 3, .inr 4] follows S2 rfl (by kernel_rfl) ?_ ?_
  · refine ⟨⟨trivial, ?_⟩, ?_⟩
    · exact owe_move rfl (wants_all rfl) (Or.inl rfl) (opnd_slot 1 6 rfl (by kernel_rfl)) rfl
    · exact owe_bin rfl (wants_all rfl) rfl (opnd_op 0 17 (by kernel_rfl) rfl) (opnd_const _) rfl (fun ρ w h1 h2 => by exact run_neq_int_f ρ _ _ _ w _ _ (by omega) h1 h2)
  intro B3 a3 W3 S3
  replace S3 : Sta w 46 [] [(18, (Is (.bool false))), (5, (Is (.int .i64 (x : Nat)))), (2, (Is (.slice none 0 0))), (3, (Is (.int .i64 0))), (0, (Mv n A k))] B3 a3 W3 := S3
  refine wp_cond_false (S3.bool 0 18 rfl) ?_
  refine wp_skip ?_
  refine thenN ?_
  refine wp_stmt_seq [.new (.row 36 1 0 (CE 1 ((((turnZ A x).map (fun zs => VN zs.length zs)).map (· w.heap.size)).take 0)))] [.inl 0] [.inr 0, .inr 1, .inr 2, .inr 3, .inr 4] follows S3 rfl (by kernel_rfl) ?_ ?_
  · refine ⟨trivial, ?_⟩
    · exact owe_nilrow rfl (wants_all rfl) rfl rfl ce_nil
  intro B4 a4 W4 S4
  replace S4 : Sta w 46 [(7, (.row 36 1 0 (CE 1 ((((turnZ A x).map (fun zs => VN zs.length zs)).map (· w.heap.size)).take 0))))] [(18, (Is (.bool false))), (5, (Is (.int .i64 (x : Nat)))), (2, (Is (.slice none 0 0))), (3, (Is (.int .i64 0))), (0, (Mv n A k))] B4 a4 W4 := S4
  refine wp_seq ?_
  refine wp_stmt_seq [.val (Is (.int .i64 0))] [.inr 0] [.inl 0, .inr 0, .inr 1, .inr 2, .inr 3, .inr 4] follows S4 rfl (by kernel_rfl) ?_ ?_
  · refine ⟨trivial, ?_⟩
    · exact owe_move rfl (wants_all rfl) (Or.inr rfl) (opnd_const _) rfl
  intro B5 a5 W5 S5
  replace S5 : Sta w 46 [(7, (.row 36 1 0 (CE 1 ((((turnZ A x).map (fun zs => VN zs.length zs)).map (· w.heap.size)).take 0))))] [(8, (Is (.int .i64 0))), (18, (Is (.bool false))), (5, (Is (.int .i64 (x : Nat)))), (2, (Is (.slice none 0 0))), (3, (Is (.int .i64 0))), (0, (Mv n A k))] B5 a5 W5 := S5
  refine wp_block ?_
  refine wp_loop_ghost (fun (k0 : Nat) a W => (k0 ≤ x) ∧ ∃ Bq, Sta w 46 [(7, (.row 36 1 k0 (CE 1 ((((turnZ A x).map (fun zs => VN zs.length zs)).map (· w.heap.size)).take k0))))] [(8, (Is (.int .i64 k0))), (5, (Is (.int .i64 (x : Nat)))), (0, (Mv n A k))] Bq a W) (fun (k0 : Nat) => x - k0) ?_ 0 ⟨Nat.zero_le _, B5, S5.sub [0] [0, 2, 5]⟩
  rintro k0 a6 W6 ⟨hcond, B6, S6⟩
  by_cases hlt : k0 < x
  · have hzo : (turnZ A x)[k0]? = some (A.map (fun r => r.getD k0 0)) := map_get' (fun k : Nat => A.map (fun r : List Int => r.getD k 0)) (List.getElem?_range hlt)
    have htk : (((turnZ A x).map (fun zs => VN zs.length zs)).map (· w.heap.size)).take (k0 + 1) = (((turnZ A x).map (fun zs => VN zs.length zs)).map (· w.heap.size)).take k0 ++ [VN (A.map (fun r => r.getD k0 0)).length (A.map (fun r => r.getD k0 0)) w.heap.size] := by rw [List.take_add_one, map_get' _ (map_get' _ hzo)]; rfl
    refine wp_seq ?_
    refine wp_stmt_seq [.val (Is (.int .i64 k0)),
      .val (Is (.int .i64 (x : Nat))),
      .val (Is (.bool true))] [.inr 0] [.inl 2, .inr 0, .inr 1, .inr 2] follows S6 rfl (by kernel_rfl) ?_ ?_
    · refine ⟨⟨⟨trivial, ?_⟩, ?_⟩, ?_⟩
      · exact owe_move rfl (wants_all rfl) (Or.inl rfl) (opnd_slot 0 8 rfl (by kernel_rfl)) rfl
      · exact owe_move rfl (wants_all rfl) (Or.inl rfl) (opnd_slot 1 5 rfl (by kernel_rfl)) rfl
      · exact owe_bin rfl (wants_all rfl) rfl (opnd_op 0 19 (by kernel_rfl) rfl) (opnd_op 1 20 (by kernel_rfl) rfl) rfl (fun ρ w h1 h2 => by exact run_lss_int_t ρ _ _ _ w _ _ (by omega) h1 h2)
    intro B7 a7 W7 S7
    replace S7 : Sta w 46 [(7, (.row 36 1 k0 (CE 1 ((((turnZ A x).map (fun zs => VN zs.length zs)).map (· w.heap.size)).take k0))))] [(21, (Is (.bool true))), (8, (Is (.int .i64 k0))), (5, (Is (.int .i64 (x : Nat)))), (0, (Mv n A k))] B7 a7 W7 := S7
    refine wp_cond_true (S7.bool 0 21 rfl) ?_
    refine wp_skip ?_
    refine thenN ?_
    refine wp_seq ?_
    refine wp_block ?_
    refine wp_stmt_seq [.new (.row 39 2 0 (CE 2 ((((A.map (fun r => r.getD k0 0)).map ZN).map (· w.heap.size)).take 0)))] [.inr 0, .inl 0] [.inr 0, .inr 1, .inr 2, .inr 3] follows S7 rfl (by kernel_rfl) ?_ ?_
    · refine ⟨trivial, ?_⟩
      · exact owe_nilrow rfl (wants_all rfl) rfl rfl ce_nil
    intro B8 a8 W8 S8
    replace S8 : Sta w 46 [(7, (.row 36 1 k0 (CE 1 ((((turnZ A x).map (fun zs => VN zs.length zs)).map (· w.heap.size)).take k0)))), (9, (.row 39 2 0 (CE 2 ((((A.map (fun r => r.getD k0 0)).map ZN).map (· w.heap.size)).take 0))))] [(21, (Is (.bool true))), (8, (Is (.int .i64 k0))), (5, (Is (.int .i64 (x : Nat)))), (0, (Mv n A k))] B8 a8 W8 := S8
    refine wp_seq ?_
    refine wp_stmt_seq [.val (Is (.int .i64 0))] [.inr 0, .inr 1] [.inl 0, .inr 0, .inr 1, .inr 2, .inr 3] follows S8 rfl (by kernel_rfl) ?_ ?_
    · refine ⟨trivial, ?_⟩
      · exact owe_move rfl (wants_all rfl) (Or.inr rfl) (opnd_const _) rfl
    intro B9 a9 W9 S9
    replace S9 : Sta w 46 [(7, (.row 36 1 k0 (CE 1 ((((turnZ A x).map (fun zs => VN zs.length zs)).map (· w.heap.size)).take k0)))), (9, (.row 39 2 0 (CE 2 ((((A.map (fun r => r.getD k0 0)).map ZN).map (· w.heap.size)).take 0))))] [(10, (Is (.int .i64 0))), (21, (Is (.bool true))), (8, (Is (.int .i64 k0))), (5, (Is (.int .i64 (x : Nat)))), (0, (Mv n A k))] B9 a9 W9 := S9
    refine wp_block ?_
    refine wp_loop_ghost (fun (k1 : Nat) a W => (k1 ≤ n) ∧ ∃ Bq, Sta w 46 [(7, (.row 36 1 k0 (CE 1 ((((turnZ A x).map (fun zs => VN zs.length zs)).map (· w.heap.size)).take k0)))), (9, (.row 39 2 k1 (CE 2 ((((A.map (fun r => r.getD k0 0)).map ZN).map (· w.heap.size)).take k1))))] [(10, (Is (.int .i64 k1))), (8, (Is (.int .i64 k0))), (5, (Is (.int .i64 (x : Nat)))), (0, (Mv n A k))] Bq a W) (fun (k1 : Nat) => n - k1) ?_ 0 ⟨Nat.zero_le _, B9, S9.sub [0, 1] [0, 2, 3, 4]⟩
    rintro k1 a10 W10 ⟨hcond, B10, S10⟩
    by_cases hlt1 : k1 < n
    · obtain ⟨r, hr⟩ : ∃ r, A[k1]? = some r := ⟨A[k1]'(by omega), List.getElem?_eq_getElem _⟩
      have hrow := row_at (k := k) hr hR
      have hlt2 : k0 < r.length := by rw [hR k1 r hr]; omega
      obtain ⟨y, hy⟩ : ∃ y, r[k0]? = some y := ⟨r[k0]'hlt2, List.getElem?_eq_getElem _⟩
      have hgy : r.getD k0 0 = y := by rw [List.getD_eq_getElem?_getD, hy]; rfl
      have hz : (A.map (fun r => r.getD k0 0))[k1]? = some y := by rw [map_get' (fun r : List Int => r.getD k0 0) hr, hgy]
      have htk1 : (((A.map (fun r => r.getD k0 0)).map ZN).map (· w.heap.size)).take (k1 + 1) = (((A.map (fun r => r.getD k0 0)).map ZN).map (· w.heap.size)).take k1 ++ [ZN y w.heap.size] := by rw [List.take_add_one, map_get' _ (map_get' _ hz)]; rfl
      refine wp_seq ?_
      refine wp_stmt_seq [.val (Is (.int .i64 k1)),
      .val (Mv n A k),
      .val (Is (.int .i64 (n : Nat))),
      .val (Is (.bool true))] [.inr 0, .inr 1] [.inl 3, .inr 0, .inr 1, .inr 2, .inr 3] follows S10 rfl (by kernel_rfl) ?_ ?_
      · refine ⟨⟨⟨⟨trivial, ?_⟩, ?_⟩, ?_⟩, ?_⟩
        · exact owe_move rfl (wants_all rfl) (Or.inl rfl) (opnd_slot 0 10 rfl (by kernel_rfl)) rfl
        · exact owe_move rfl (wants_all rfl) (Or.inl rfl) (opnd_slot 3 0 rfl (by kernel_rfl)) rfl
        · exact owe_len rfl (wants_all rfl) rfl (opnd_op 1 25 (by kernel_rfl) rfl) ar_len Try.underlying22 rfl
        · exact owe_bin rfl (wants_all rfl) rfl (opnd_op 0 24 (by kernel_rfl) rfl) (opnd_op 2 26 (by kernel_rfl) rfl) rfl (fun ρ w h1 h2 => by exact run_lss_int_t ρ _ _ _ w _ _ (by omega) h1 h2)
      intro B11 a11 W11 S11
      replace S11 : Sta w 46 [(7, (.row 36 1 k0 (CE 1 ((((turnZ A x).map (fun zs => VN zs.length zs)).map (· w.heap.size)).take k0)))), (9, (.row 39 2 k1 (CE 2 ((((A.map (fun r => r.getD k0 0)).map ZN).map (· w.heap.size)).take k1))))] [(27, (Is (.bool true))), (10, (Is (.int .i64 k1))), (8, (Is (.int .i64 k0))), (5, (Is (.int .i64 (x : Nat)))), (0, (Mv n A k))] B11 a11 W11 := S11
      refine wp_cond_true (S11.bool 0 27 rfl) ?_
      refine wp_skip ?_
      refine thenN ?_
      refine wp_seq ?_
      refine wp_block ?_
      refine wp_stmt [.val (Is (a11.eval (.tmp 9))),
      .val (Mv n A k),
      .val (Is (.int .i64 k1)),
      .val (AtE 1 (Vv x r k)),
      .val (Vv x r k),
      .val (Is (.int .i64 k0)),
      .val (AtE 2 (Zv y k)),
      .val (Zv y k),
      .val ((ZN (y)) w.heap.size),
      .val (Sng 39 2 ((ZN (y)) w.heap.size) w.heap.size),
      .mov 9 (.row 39 2 (k1 + 1) (CE 2 ((((A.map (fun r => r.getD k0 0)).map ZN).map (· w.heap.size)).take (k1 + 1)))),
      .ref 10] [.inr 0, .inl 11] [.inr 0, .inr 1, .inr 2, .inr 3, .inr 4] follows S11 rfl (by kernel_rfl) ?_ ?_
      · refine ⟨⟨⟨⟨⟨⟨⟨⟨⟨⟨⟨⟨trivial, ?_⟩, ?_⟩, ?_⟩, ?_⟩, ?_⟩, ?_⟩, ?_⟩, ?_⟩, ?_⟩, ?_⟩, ?_⟩, ?_⟩
        · exact owe_same rfl (wants_all rfl) (Or.inl rfl) (by kernel_rfl) rfl
        · exact owe_move rfl (wants_all rfl) (Or.inl rfl) (opnd_slot 4 0 rfl (by kernel_rfl)) rfl
        · exact owe_move rfl (wants_all rfl) (Or.inl rfl) (opnd_slot 1 10 rfl (by kernel_rfl)) rfl
        · exact owe_aindex rfl (wants_all rfl) rfl idx_rows (opnd_op 1 31 (by kernel_rfl) rfl) (opnd_op 2 32 (by kernel_rfl) rfl) hrow rfl
        · exact owe_aload rfl (wants_all rfl) rfl ldr_row1 (by decide) cel_vv (opnd_op 3 33 (by kernel_rfl) rfl) rfl
        · exact owe_move rfl (wants_all rfl) (Or.inl rfl) (opnd_slot 2 8 rfl (by kernel_rfl)) rfl
        · exact owe_aindex rfl (wants_all rfl) rfl idx_ints (opnd_op 4 34 (by kernel_rfl) rfl) (opnd_op 5 35 (by kernel_rfl) rfl) (map_get' _ hy) rfl
        · exact owe_aload rfl (wants_all rfl) rfl ldr_int (by decide) (cel_shp (by decide) shp_zv) (opnd_op 6 36 (by kernel_rfl) rfl) rfl
        · exact owe_callh1 rfl (wants_all rfl) rfl (opnd_op 7 37 (by kernel_rfl) rfl) (fresh_zn _) rfl (fun args w => by go_simp) (fun w u0 h0 => (h_rnorm (by omega)) w u0 ((fun _ _ h => h) _ _ h0.now))
        · exact owe_b1 rfl (wants_all rfl) rfl bld_int (opnd_op 8 38 (by kernel_rfl) rfl) (cel_shp (by decide) shp_zn) rfl
        · exact owe_append rfl (wants_all rfl) rfl (opnd_op 0 30 (by kernel_rfl) rfl) (k := 1) rfl (by kernel_rfl) ((opnd_op 9 39 (by kernel_rfl) rfl).imp b1_src) einf_int Try.underlying36 (by decide) ⟨by unfold maxLen; omega, by omega⟩ rfl (fun xs ys w h1 h2 => by rw [htk1]; exact ce_append xs ys w h1 h2)
        · exact owe_ref 10 rfl (wants_all rfl) (Or.inr rfl) (by kernel_rfl) rfl rfl
      intro B12 a12 W12 S12
      replace S12 : Sta w 46 [(7, (.row 36 1 k0 (CE 1 ((((turnZ A x).map (fun zs => VN zs.length zs)).map (· w.heap.size)).take k0)))), (9, (.row 39 2 (k1 + 1) (CE 2 ((((A.map (fun r => r.getD k0 0)).map ZN).map (· w.heap.size)).take (k1 + 1)))))] [(27, (Is (.bool true))), (10, (Is (.int .i64 k1))), (8, (Is (.int .i64 k0))), (5, (Is (.int .i64 (x : Nat)))), (0, (Mv n A k))] B12 a12 W12 := S12
      refine inBlkN ?_
      refine thenN ?_
      refine wp_stmt [.val (Is (.int .i64 k1)),
      .val (Is (.int .i64 (k1 + 1 : Nat))),
      .val (Is (.int .i64 (k1 + 1 : Nat)))] [.inr 0, .inr 1] [.inl 2, .inr 0, .inr 2, .inr 3, .inr 4] follows S12 rfl (by kernel_rfl) ?_ ?_
      · refine ⟨⟨⟨trivial, ?_⟩, ?_⟩, ?_⟩
        · exact owe_move rfl (wants_all rfl) (Or.inl rfl) (opnd_slot 1 10 rfl (by kernel_rfl)) rfl
        · exact owe_bin rfl (wants_all rfl) rfl (opnd_op 0 28 (by kernel_rfl) rfl) (opnd_const _) rfl (fun ρ w h1 h2 => by exact run_add_int ρ _ _ _ w _ _ _ ⟨by omega, by omega, by omega⟩ h1 h2)
        · exact owe_move rfl (wants_all rfl) (Or.inr rfl) (opnd_op 1 29 (by kernel_rfl) rfl) rfl
      intro B13 a13 W13 S13
      replace S13 : Sta w 46 [(7, (.row 36 1 k0 (CE 1 ((((turnZ A x).map (fun zs => VN zs.length zs)).map (· w.heap.size)).take k0)))), (9, (.row 39 2 (k1 + 1) (CE 2 ((((A.map (fun r => r.getD k0 0)).map ZN).map (· w.heap.size)).take (k1 + 1)))))] [(10, (Is (.int .i64 (k1 + 1 : Nat)))), (27, (Is (.bool true))), (8, (Is (.int .i64 k0))), (5, (Is (.int .i64 (x : Nat)))), (0, (Mv n A k))] B13 a13 W13 := S13
      refine thenN ?_
      exact ⟨k1 + 1, ⟨by omega, B13, S13.sub [0, 1] [0, 2, 3, 4]⟩, by omega⟩
    · have ek1 : n = k1 := by omega
      have hend1 : (((A.map (fun r => r.getD k0 0)).map ZN).map (· w.heap.size)).take k1 = (((A.map (fun r => r.getD k0 0)).map ZN).map (· w.heap.size)) := List.take_of_length_le (by simp; omega)
      refine wp_seq ?_
      refine wp_stmt_seq [.val (Is (.int .i64 k1)),
      .val (Mv n A k),
      .val (Is (.int .i64 (n : Nat))),
      .val (Is (.bool false))] [.inr 0, .inr 1] [.inl 3, .inr 0, .inr 1, .inr 2, .inr 3] follows S10 rfl (by kernel_rfl) ?_ ?_
      · refine ⟨⟨⟨⟨trivial, ?_⟩, ?_⟩, ?_⟩, ?_⟩
        · exact owe_move rfl (wants_all rfl) (Or.inl rfl) (opnd_slot 0 10 rfl (by kernel_rfl)) rfl
        · exact owe_move rfl (wants_all rfl) (Or.inl rfl) (opnd_slot 3 0 rfl (by kernel_rfl)) rfl
        · exact owe_len rfl (wants_all rfl) rfl (opnd_op 1 25 (by kernel_rfl) rfl) ar_len Try.underlying22 rfl
        · exact owe_bin rfl (wants_all rfl) rfl (opnd_op 0 24 (by kernel_rfl) rfl) (opnd_op 2 26 (by kernel_rfl) rfl) rfl (fun ρ w h1 h2 => by exact run_lss_int_f ρ _ _ _ w _ _ (by omega) h1 h2)
      intro B11 a11 W11 S11
      replace S11 : Sta w 46 [(7, (.row 36 1 k0 (CE 1 ((((turnZ A x).map (fun zs => VN zs.length zs)).map (· w.heap.size)).take k0)))), (9, (.row 39 2 k1 (CE 2 ((((A.map (fun r => r.getD k0 0)).map ZN).map (· w.heap.size)).take k1))))] [(27, (Is (.bool false))), (10, (Is (.int .i64 k1))), (8, (Is (.int .i64 k0))), (5, (Is (.int .i64 (x : Nat)))), (0, (Mv n A k))] B11 a11 W11 := S11
      refine wp_cond_false (S11.bool 0 27 rfl) ?_
      refine wp_exit ?_
      refine thenX ?_
      refine thenX ?_
      refine inBlkE ?_
      refine thenN ?_
      obtain ⟨B12, S12⟩ : ∃ Bq, Sta w 46 [(7, (.row 36 1 k0 (CE 1 ((((turnZ A x).map (fun zs => VN zs.length zs)).map (· w.heap.size)).take k0))))] [(9, ((VN ((A.map (fun r => r.getD k0 0)).length) (A.map (fun r => r.getD k0 0))) w.heap.size)), (27, (Is (.bool false))), (10, (Is (.int .i64 k1))), (8, (Is (.int .i64 k0))), (5, (Is (.int .i64 (x : Nat)))), (0, (Mv n A k))] Bq a11 W11 := ⟨_, S11.freeze 1 rfl (by simp) (fun v w' xs ho hc => by rw [hend1] at hc; rw [← ek1] at ho; rw [show (A.map (fun r => r.getD k0 0)).length = n from (by rw [List.length_map]; exact hA)]; exact row_lf (by decide) v w' xs ho hc)⟩
      obtain ⟨a12, W12, e1, e2⟩ : ∃ a W, a11 = a ∧ W11 = W := ⟨_, _, rfl, rfl⟩
      rw [e1, e2] at S12 ⊢
      clear e1 e2
      refine wp_stmt [.val (Is (a12.eval (.tmp 7))),
      .val ((VN ((A.map (fun r => r.getD k0 0)).length) (A.map (fun r => r.getD k0 0))) w.heap.size),
      .val (Sng 36 1 ((VN ((A.map (fun r => r.getD k0 0)).length) (A.map (fun r => r.getD k0 0))) w.heap.size) w.heap.size),
      .mov 7 (.row 36 1 (k0 + 1) (CE 1 ((((turnZ A x).map (fun zs => VN zs.length zs)).map (· w.heap.size)).take (k0 + 1)))),
      .ref 3] [.inl 4] [.inr 0, .inr 1, .inr 2, .inr 3, .inr 4, .inr 5] follows S12 rfl (by kernel_rfl) ?_ ?_
      · refine ⟨⟨⟨⟨⟨trivial, ?_⟩, ?_⟩, ?_⟩, ?_⟩, ?_⟩
        · exact owe_same rfl (wants_all rfl) (Or.inl rfl) (by kernel_rfl) rfl
        · exact owe_move rfl (wants_all rfl) (Or.inl rfl) (opnd_slot 0 9 rfl (by kernel_rfl)) rfl
        · exact owe_b1 rfl (wants_all rfl) rfl bld_row1 (opnd_op 1 42 (by kernel_rfl) rfl) cel_vn rfl
        · exact owe_append rfl (wants_all rfl) rfl (opnd_op 0 41 (by kernel_rfl) rfl) (k := 0) rfl (by kernel_rfl) ((opnd_op 2 43 (by kernel_rfl) rfl).imp b1_src) einf_row1 Try.underlying22 (by decide) ⟨by unfold maxLen; omega, by omega⟩ rfl (fun xs ys w h1 h2 => by rw [htk]; exact ce_append xs ys w h1 h2)
        · exact owe_ref 3 rfl (wants_all rfl) (Or.inr rfl) (by kernel_rfl) rfl rfl
      intro B13 a13 W13 S13
      replace S13 : Sta w 46 [(7, (.row 36 1 (k0 + 1) (CE 1 ((((turnZ A x).map (fun zs => VN zs.length zs)).map (· w.heap.size)).take (k0 + 1)))))] [(9, ((VN ((A.map (fun r => r.getD k0 0)).length) (A.map (fun r => r.getD k0 0))) w.heap.size)), (27, (Is (.bool false))), (10, (Is (.int .i64 k1))), (8, (Is (.int .i64 k0))), (5, (Is (.int .i64 (x : Nat)))), (0, (Mv n A k))] B13 a13 W13 := S13
      refine inBlkN ?_
      refine thenN ?_
      refine wp_stmt [.val (Is (.int .i64 k0)),
      .val (Is (.int .i64 (k0 + 1 : Nat))),
      .val (Is (.int .i64 (k0 + 1 : Nat)))] [.inr 0] [.inl 2, .inr 0, .inr 1, .inr 2, .inr 4, .inr 5] follows S13 rfl (by kernel_rfl) ?_ ?_
      · refine ⟨⟨⟨trivial, ?_⟩, ?_⟩, ?_⟩
        · exact owe_move rfl (wants_all rfl) (Or.inl rfl) (opnd_slot 3 8 rfl (by kernel_rfl)) rfl
        · exact owe_bin rfl (wants_all rfl) rfl (opnd_op 0 22 (by kernel_rfl) rfl) (opnd_const _) rfl (fun ρ w h1 h2 => by exact run_add_int ρ _ _ _ w _ _ _ ⟨by omega, by omega, by omega⟩ h1 h2)
        · exact owe_move rfl (wants_all rfl) (Or.inr rfl) (opnd_op 1 23 (by kernel_rfl) rfl) rfl
      intro B14 a14 W14 S14
      replace S14 : Sta w 46 [(7, (.row 36 1 (k0 + 1) (CE 1 ((((turnZ A x).map (fun zs => VN zs.length zs)).map (· w.heap.size)).take (k0 + 1)))))] [(8, (Is (.int .i64 (k0 + 1 : Nat)))), (9, ((VN ((A.map (fun r => r.getD k0 0)).length) (A.map (fun r => r.getD k0 0))) w.heap.size)), (27, (Is (.bool false))), (10, (Is (.int .i64 k1))), (5, (Is (.int .i64 (x : Nat)))), (0, (Mv n A k))] B14 a14 W14 := S14
      refine thenN ?_
      exact ⟨k0 + 1, ⟨by omega, B14, S14.sub [0] [0, 4, 5]⟩, by omega⟩
  · have ek : x = k0 := by omega
    have hend : (((turnZ A x).map (fun zs => VN zs.length zs)).map (· w.heap.size)).take k0 = (((turnZ A x).map (fun zs => VN zs.length zs)).map (· w.heap.size)) := List.take_of_length_le (by simp [hol]; omega)
    refine wp_seq ?_
    refine wp_stmt_seq [.val (Is (.int .i64 k0)),
      .val (Is (.int .i64 (x : Nat))),
      .val (Is (.bool false))] [.inr 0] [.inl 2, .inr 0, .inr 1, .inr 2] follows S6 rfl (by kernel_rfl) ?_ ?_
    · refine ⟨⟨⟨trivial, ?_⟩, ?_⟩, ?_⟩
      · exact owe_move rfl (wants_all rfl) (Or.inl rfl) (opnd_slot 0 8 rfl (by kernel_rfl)) rfl
      · exact owe_move rfl (wants_all rfl) (Or.inl rfl) (opnd_slot 1 5 rfl (by kernel_rfl)) rfl
      · exact owe_bin rfl (wants_all rfl) rfl (opnd_op 0 19 (by kernel_rfl) rfl) (opnd_op 1 20 (by kernel_rfl) rfl) rfl (fun ρ w h1 h2 => by exact run_lss_int_f ρ _ _ _ w _ _ (by omega) h1 h2)
    intro B7 a7 W7 S7
    replace S7 : Sta w 46 [(7, (.row 36 1 k0 (CE 1 ((((turnZ A x).map (fun zs => VN zs.length zs)).map (· w.heap.size)).take k0))))] [(21, (Is (.bool false))), (8, (Is (.int .i64 k0))), (5, (Is (.int .i64 (x : Nat)))), (0, (Mv n A k))] B7 a7 W7 := S7
    refine wp_cond_false (S7.bool 0 21 rfl) ?_
    refine wp_exit ?_
    refine thenX ?_
    refine thenX ?_
    refine inBlkE ?_
    refine thenN ?_
    obtain ⟨B8, S8⟩ : ∃ Bq, Sta w 46 [] [(7, ((MN x (turnZ A x)) w.heap.size)), (21, (Is (.bool false))), (8, (Is (.int .i64 k0))), (5, (Is (.int .i64 (x : Nat)))), (0, (Mv n A k))] Bq a7 W7 := ⟨_, S7.freeze 0 rfl (by simp) (fun v w' xs ho hc => by rw [hend] at hc; rw [← ek] at ho; exact row_lf (by decide) v w' xs ho hc)⟩
    obtain ⟨a8, W8, e1, e2⟩ : ∃ a W, a7 = a ∧ W7 = W := ⟨_, _, rfl, rfl⟩
    rw [e1, e2] at S8 ⊢
    clear e1 e2
    refine wp_stmt_seq [.val ((MN x (turnZ A x)) w.heap.size),
      .val ((MN x (turnZ A x)) w.heap.size),
      .val (Is (.int .i64 0))] [] [.inl 1, .inl 2, .inr 0, .inr 1, .inr 2, .inr 3, .inr 4] follows S8 rfl (by kernel_rfl) ?_ ?_
    · refine ⟨⟨⟨trivial, ?_⟩, ?_⟩, ?_⟩
      · exact owe_move rfl (wants_all rfl) (Or.inl rfl) (opnd_slot 0 7 rfl (by kernel_rfl)) rfl
      · exact owe_move rfl (wants_all rfl) (Or.inr rfl) (opnd_op 0 45 (by kernel_rfl) rfl) rfl
      · exact owe_move rfl (wants_all rfl) (Or.inr rfl) (opnd_const _) rfl
    intro B9 a9 W9 S9
    replace S9 : Sta w 46 [] [(2, ((MN x (turnZ A x)) w.heap.size)), (3, (Is (.int .i64 0))), (7, ((MN x (turnZ A x)) w.heap.size)), (21, (Is (.bool false))), (8, (Is (.int .i64 k0))), (5, (Is (.int .i64 (x : Nat)))), (0, (Mv n A k))] B9 a9 W9 := S9
    refine wp_ret ?_
    exact end_two S9 rfl (res_tmp S9 0 2 rfl) (res_tmp S9 1 3 rfl)

set_option maxHeartbeats 400000 in
theorem rturn_n (w : World) (u : Value) (n k : Nat) (A : List (List Int)) (h : Hs w (Mv n A k) u) (hn : n ≤ 1048576) (hR : ¬ reg A = true) :
    Calls Try.prog 45 #[u] w (Gives (TWO (IS (.slice none 0 0)) (IS (.int .i64 8))) w) := by
  refine calls_sta (sl := [(0, (Mv n A k))]) Try.func45 rfl Try.ntmps45 (by simp) (args_cons rfl (h) args_nil) ?_
  intro a0 S0
  refine wp_stmt_seq [.val (Is (.slice none 0 0)),
      .val (Is (.int .i64 0))] [] [.inl 0, .inl 1, .inr 0] follows S0 rfl (by kernel_rfl) ?_ ?_
  · refine ⟨⟨trivial, ?_⟩, ?_⟩
    · exact owe_move rfl (wants_all rfl) (Or.inr rfl) (opnd_const _) rfl
    · exact owe_move rfl (wants_all rfl) (Or.inr rfl) (opnd_const _) rfl
  intro B1 a1 W1 S1
  replace S1 : Sta w 46 [] [(2, (Is (.slice none 0 0))), (3, (Is (.int .i64 0))), (0, (Mv n A k))] B1 a1 W1 := S1
  refine wp_stmt_seq [.val (Mv n A k),
      .val ((THREE (IS (.int .i64 0)) (IS (.int .i64 0)) (IS (.int .i64 8))) w.heap.size),
      .val ((THREE (IS (.int .i64 0)) (IS (.int .i64 0)) (IS (.int .i64 8))) w.heap.size),
      .val (Is (.int .i64 0)),
      .val (Is (.int .i64 0)),
      .val (Is (.int .i64 8)),
      .val (Is (.int .i64 0)),
      .val (Is (.int .i64 0)),
      .val (Is (.int .i64 8))] [] [.inl 7, .inl 8, .inr 0, .inr 1, .inr 2] follows S1 rfl (by kernel_rfl) ?_ ?_
  · refine ⟨⟨⟨⟨⟨⟨⟨⟨⟨trivial, ?_⟩, ?_⟩, ?_⟩, ?_⟩, ?_⟩, ?_⟩, ?_⟩, ?_⟩, ?_⟩
    · exact owe_move rfl (wants_all rfl) (Or.inl rfl) (opnd_slot 2 0 rfl (by kernel_rfl)) rfl
    · exact owe_callh1 rfl (wants_all rfl) rfl (opnd_op 0 12 (by kernel_rfl) rfl) (fresh_three (fresh_is _) (fresh_is _) (fresh_is _)) rfl (fun args w => by go_simp) (fun w u h => h_rshape_n w u n _ _ h (by omega) hR)
    · exact owe_move rfl (wants_all rfl) (Or.inl rfl) (opnd_op 1 13 (by kernel_rfl) rfl) rfl
    · exact owe_ext3 rfl (wants_all rfl) rfl (opnd_op 2 11 (by kernel_rfl) rfl) (Or.inl ⟨rfl, rfl⟩) rfl
    · exact owe_ext3 rfl (wants_all rfl) rfl (opnd_op 2 11 (by kernel_rfl) rfl) (Or.inr (Or.inl ⟨rfl, rfl⟩)) rfl
    · exact owe_ext3 rfl (wants_all rfl) rfl (opnd_op 2 11 (by kernel_rfl) rfl) (Or.inr (Or.inr ⟨rfl, rfl⟩)) rfl
    · exact owe_move rfl (wants_all rfl) (Or.inr rfl) (opnd_op 3 14 (by kernel_rfl) rfl) rfl
    · exact owe_move rfl (wants_all rfl) (Or.inr rfl) (opnd_op 4 15 (by kernel_rfl) rfl) rfl
    · exact owe_move rfl (wants_all rfl) (Or.inr rfl) (opnd_op 5 16 (by kernel_rfl) rfl) rfl
  intro B2 a2 W2 S2
  replace S2 : Sta w 46 [] [(5, (Is (.int .i64 0))), (6, (Is (.int .i64 8))), (2, (Is (.slice none 0 0))), (3, (Is (.int .i64 0))), (0, (Mv n A k))] B2 a2 W2 := S2
  refine wp_seq ?_
  refine wp_stmt_seq [.val (Is (.int .i64 8)),
      .val (Is (.bool true))] [] [.inl 1, .inr 0, .inr 2, .inr 3, .inr 4] follows S2 rfl (by kernel_rfl) ?_ ?_
  · refine ⟨⟨trivial, ?_⟩, ?_⟩
    · exact owe_move rfl (wants_all rfl) (Or.inl rfl) (opnd_slot 1 6 rfl (by kernel_rfl)) rfl
    · exact owe_bin rfl (wants_all rfl) rfl (opnd_op 0 17 (by kernel_rfl) rfl) (opnd_const _) rfl (fun ρ w h1 h2 => by exact run_neq_int_t ρ _ _ _ w _ _ (by omega) h1 h2)
  intro B3 a3 W3 S3
  replace S3 : Sta w 46 [] [(18, (Is (.bool true))), (5, (Is (.int .i64 0))), (2, (Is (.slice none 0 0))), (3, (Is (.int .i64 0))), (0, (Mv n A k))] B3 a3 W3 := S3
  refine wp_cond_true (S3.bool 0 18 rfl) ?_
  refine wp_stmt_seq [.val (Is (.slice none 0 0)),
      .val (Is (.int .i64 8))] [] [.inl 0, .inl 1, .inr 0, .inr 1, .inr 4] follows S3 rfl (by kernel_rfl) ?_ ?_
  · refine ⟨⟨trivial, ?_⟩, ?_⟩
    · exact owe_move rfl (wants_all rfl) (Or.inr rfl) (opnd_const _) rfl
    · exact owe_move rfl (wants_all rfl) (Or.inr rfl) (opnd_const _) rfl
  intro B4 a4 W4 S4
  replace S4 : Sta w 46 [] [(2, (Is (.slice none 0 0))), (3, (Is (.int .i64 8))), (18, (Is (.bool true))), (5, (Is (.int .i64 0))), (0, (Mv n A k))] B4 a4 W4 := S4
  refine wp_ret ?_
  refine thenR ?_
  exact end_two S4 rfl (res_tmp S4 0 2 rfl) (res_tmp S4 1 3 rfl)

set_option maxHeartbeats 400000 in
theorem rgram_y (w : World) (u : Value) (n k : Nat) (A : List (List Int)) (h : Hs w (Mv n A k) u) (hn : n ≤ 1048576) (x : Nat) (hx : x ≤ 1048576) (hR : Reg A x) (h0A : n = 0 → x = 0) (hs : k ≤ 536870912) :
    Calls Try.prog 47 #[u] w (Gives (TWO (MN n (gramZ A)) (IS (.int .i64 0))) w) := by
  have hA := mv_len h.now
  have hol : (gramZ A).length = n := by simp [gramZ, hA]
  refine calls_sta (sl := [(0, (Mv n A k))]) Try.func47 rfl Try.ntmps47 (by simp) (args_cons rfl (h) args_nil) ?_
  intro a0 S0
  refine wp_stmt_seq [.val (Is (.slice none 0 0)),
      .val (Is (.int .i64 0))] [] [.inl 0, .inl 1, .inr 0] follows S0 rfl (by kernel_rfl) ?_ ?_
  · refine ⟨⟨trivial, ?_⟩, ?_⟩
    · exact owe_move rfl (wants_all rfl) (Or.inr rfl) (opnd_const _) rfl
    · exact owe_move rfl (wants_all rfl) (Or.inr rfl) (opnd_const _) rfl
  intro B1 a1 W1 S1
  replace S1 : Sta w 54 [] [(2, (Is (.slice none 0 0))), (3, (Is (.int .i64 0))), (0, (Mv n A k))] B1 a1 W1 := S1
  refine wp_stmt_seq [.val (Mv n A k),
      .val ((THREE (IS (.int .i64 (n : Nat))) (IS (.int .i64 (x : Nat))) (IS (.int .i64 0))) w.heap.size),
      .val ((THREE (IS (.int .i64 (n : Nat))) (IS (.int .i64 (x : Nat))) (IS (.int .i64 0))) w.heap.size),
      .val (Is (.int .i64 (n : Nat))),
      .val (Is (.int .i64 (x : Nat))),
      .val (Is (.int .i64 0)),
      .val (Is (.int .i64 (n : Nat))),
      .val (Is (.int .i64 (x : Nat))),
      .val (Is (.int .i64 0))] [] [.inl 8, .inr 0, .inr 1, .inr 2] follows S1 rfl (by kernel_rfl) ?_ ?_
  · refine ⟨⟨⟨⟨⟨⟨⟨⟨⟨trivial, ?_⟩, ?_⟩, ?_⟩, ?_⟩, ?_⟩, ?_⟩, ?_⟩, ?_⟩, ?_⟩
    · exact owe_move rfl (wants_all rfl) (Or.inl rfl) (opnd_slot 2 0 rfl (by kernel_rfl)) rfl
    · exact owe_callh1 rfl (wants_all rfl) rfl (opnd_op 0 14 (by kernel_rfl) rfl) (fresh_three (fresh_is _) (fresh_is _) (fresh_is _)) rfl (fun args w => by go_simp) (fun w u h => h_rshape_y w u n _ x _ h (by omega) hR h0A)
    · exact owe_move rfl (wants_all rfl) (Or.inl rfl) (opnd_op 1 15 (by kernel_rfl) rfl) rfl
    · exact owe_ext3 rfl (wants_all rfl) rfl (opnd_op 2 13 (by kernel_rfl) rfl) (Or.inl ⟨rfl, rfl⟩) rfl
    · exact owe_ext3 rfl (wants_all rfl) rfl (opnd_op 2 13 (by kernel_rfl) rfl) (Or.inr (Or.inl ⟨rfl, rfl⟩)) rfl
    · exact owe_ext3 rfl (wants_all rfl) rfl (opnd_op 2 13 (by kernel_rfl) rfl) (Or.inr (Or.inr ⟨rfl, rfl⟩)) rfl
    · exact owe_move rfl (wants_all rfl) (Or.inr rfl) (opnd_op 3 16 (by kernel_rfl) rfl) rfl
    · exact owe_move rfl (wants_all rfl) (Or.inr rfl) (opnd_op 4 17 (by kernel_rfl) rfl) rfl
    · exact owe_move rfl (wants_all rfl) (Or.inr rfl) (opnd_op 5 18 (by kernel_rfl) rfl) rfl
  intro B2 a2 W2 S2
  replace S2 : Sta w 54 [] [(6, (Is (.int .i64 0))), (2, (Is (.slice none 0 0))), (3, (Is (.int .i64 0))), (0, (Mv n A k))] B2 a2 W2 := S2
  refine wp_seq ?_
  refine wp_stmt_seq [.val (Is (.int .i64 0)),
      .val (Is (.bool false))] [] [.inl 1, .inr 1, .inr 2, .inr 3] follows S2 rfl (by kernel_rfl) ?_ ?_
  · refine ⟨⟨trivial, ?_⟩, ?_⟩
    · exact owe_move rfl (wants_all rfl) (Or.inl rfl) (opnd_slot 0 6 rfl (by kernel_rfl)) rfl
    · exact owe_bin rfl (wants_all rfl) rfl (opnd_op 0 19 (by kernel_rfl) rfl) (opnd_const _) rfl (fun ρ w h1 h2 => by exact run_neq_int_f ρ _ _ _ w _ _ (by omega) h1 h2)
  intro B3 a3 W3 S3
  replace S3 : Sta w 54 [] [(20, (Is (.bool false))), (2, (Is (.slice none 0 0))), (3, (Is (.int .i64 0))), (0, (Mv n A k))] B3 a3 W3 := S3
  refine wp_cond_false (S3.bool 0 20 rfl) ?_
  refine wp_skip ?_
  refine thenN ?_
  refine wp_stmt_seq [.new (.row 36 1 0 (CE 1 ((((gramZ A).map (fun zs => VN zs.length zs)).map (· w.heap.size)).take 0)))] [.inl 0] [.inr 0, .inr 1, .inr 2, .inr 3] follows S3 rfl (by kernel_rfl) ?_ ?_
  · refine ⟨trivial, ?_⟩
    · exact owe_nilrow rfl (wants_all rfl) rfl rfl ce_nil
  intro B4 a4 W4 S4
  replace S4 : Sta w 54 [(7, (.row 36 1 0 (CE 1 ((((gramZ A).map (fun zs => VN zs.length zs)).map (· w.heap.size)).take 0))))] [(20, (Is (.bool false))), (2, (Is (.slice none 0 0))), (3, (Is (.int .i64 0))), (0, (Mv n A k))] B4 a4 W4 := S4
  refine wp_seq ?_
  refine wp_stmt_seq [.val (Is (.int .i64 0))] [.inr 0] [.inl 0, .inr 0, .inr 1, .inr 2, .inr 3] follows S4 rfl (by kernel_rfl) ?_ ?_
  · refine ⟨trivial, ?_⟩
    · exact owe_move rfl (wants_all rfl) (Or.inr rfl) (opnd_const _) rfl
  intro B5 a5 W5 S5
  replace S5 : Sta w 54 [(7, (.row 36 1 0 (CE 1 ((((gramZ A).map (fun zs => VN zs.length zs)).map (· w.heap.size)).take 0))))] [(8, (Is (.int .i64 0))), (20, (Is (.bool false))), (2, (Is (.slice none 0 0))), (3, (Is (.int .i64 0))), (0, (Mv n A k))] B5 a5 W5 := S5
  refine wp_block ?_
  refine wp_loop_ghost (fun (k0 : Nat) a W => (k0 ≤ n) ∧ ∃ Bq, Sta w 54 [(7, (.row 36 1 k0 (CE 1 ((((gramZ A).map (fun zs => VN zs.length zs)).map (· w.heap.size)).take k0))))] [(8, (Is (.int .i64 k0))), (0, (Mv n A k))] Bq a W) (fun (k0 : Nat) => n - k0) ?_ 0 ⟨Nat.zero_le _, B5, S5.sub [0] [0, 4]⟩
  rintro k0 a6 W6 ⟨hcond, B6, S6⟩
  by_cases hlt : k0 < n
  · obtain ⟨r, hr⟩ : ∃ r, A[k0]? = some r := ⟨A[k0]'(by omega), List.getElem?_eq_getElem _⟩
    have hrow := row_at (k := k) hr hR
    have hzo : (gramZ A)[k0]? = some (A.map (fun s => dz r s)) := map_get' (fun r => A.map (fun s => dz r s)) hr
    have htk : (((gramZ A).map (fun zs => VN zs.length zs)).map (· w.heap.size)).take (k0 + 1) = (((gramZ A).map (fun zs => VN zs.length zs)).map (· w.heap.size)).take k0 ++ [VN (A.map (fun s => dz r s)).length (A.map (fun s => dz r s)) w.heap.size] := by rw [List.take_add_one, map_get' _ (map_get' _ hzo)]; rfl
    refine wp_seq ?_
    refine wp_stmt_seq [.val (Is (.int .i64 k0)),
      .val (Mv n A k),
      .val (Is (.int .i64 (n : Nat))),
      .val (Is (.bool true))] [.inr 0] [.inl 3, .inr 0, .inr 1] follows S6 rfl (by kernel_rfl) ?_ ?_
    · refine ⟨⟨⟨⟨trivial, ?_⟩, ?_⟩, ?_⟩, ?_⟩
      · exact owe_move rfl (wants_all rfl) (Or.inl rfl) (opnd_slot 0 8 rfl (by kernel_rfl)) rfl
      · exact owe_move rfl (wants_all rfl) (Or.inl rfl) (opnd_slot 1 0 rfl (by kernel_rfl)) rfl
      · exact owe_len rfl (wants_all rfl) rfl (opnd_op 1 22 (by kernel_rfl) rfl) ar_len Try.underlying22 rfl
      · exact owe_bin rfl (wants_all rfl) rfl (opnd_op 0 21 (by kernel_rfl) rfl) (opnd_op 2 23 (by kernel_rfl) rfl) rfl (fun ρ w h1 h2 => by exact run_lss_int_t ρ _ _ _ w _ _ (by omega) h1 h2)
    intro B7 a7 W7 S7
    replace S7 : Sta w 54 [(7, (.row 36 1 k0 (CE 1 ((((gramZ A).map (fun zs => VN zs.length zs)).map (· w.heap.size)).take k0))))] [(24, (Is (.bool true))), (8, (Is (.int .i64 k0))), (0, (Mv n A k))] B7 a7 W7 := S7
    refine wp_cond_true (S7.bool 0 24 rfl) ?_
    refine wp_skip ?_
    refine thenN ?_
    refine wp_seq ?_
    refine wp_block ?_
    refine wp_stmt_seq [.new (.row 39 2 0 (CE 2 ((((A.map (fun s => dz r s)).map ZN).map (· w.heap.size)).take 0)))] [.inr 0, .inl 0] [.inr 0, .inr 1, .inr 2] follows S7 rfl (by kernel_rfl) ?_ ?_
    · refine ⟨trivial, ?_⟩
      · exact owe_nilrow rfl (wants_all rfl) rfl rfl ce_nil
    intro B8 a8 W8 S8
    replace S8 : Sta w 54 [(7, (.row 36 1 k0 (CE 1 ((((gramZ A).map (fun zs => VN zs.length zs)).map (· w.heap.size)).take k0)))), (9, (.row 39 2 0 (CE 2 ((((A.map (fun s => dz r s)).map ZN).map (· w.heap.size)).take 0))))] [(24, (Is (.bool true))), (8, (Is (.int .i64 k0))), (0, (Mv n A k))] B8 a8 W8 := S8
    refine wp_seq ?_
    refine wp_stmt_seq [.val (Is (.int .i64 0))] [.inr 0, .inr 1] [.inl 0, .inr 0, .inr 1, .inr 2] follows S8 rfl (by kernel_rfl) ?_ ?_
    · refine ⟨trivial, ?_⟩
      · exact owe_move rfl (wants_all rfl) (Or.inr rfl) (opnd_const _) rfl
    intro B9 a9 W9 S9
    replace S9 : Sta w 54 [(7, (.row 36 1 k0 (CE 1 ((((gramZ A).map (fun zs => VN zs.length zs)).map (· w.heap.size)).take k0)))), (9, (.row 39 2 0 (CE 2 ((((A.map (fun s => dz r s)).map ZN).map (· w.heap.size)).take 0))))] [(10, (Is (.int .i64 0))), (24, (Is (.bool true))), (8, (Is (.int .i64 k0))), (0, (Mv n A k))] B9 a9 W9 := S9
    refine wp_block ?_
    refine wp_loop_ghost (fun (k1 : Nat) a W => (k1 ≤ n) ∧ ∃ Bq, Sta w 54 [(7, (.row 36 1 k0 (CE 1 ((((gramZ A).map (fun zs => VN zs.length zs)).map (· w.heap.size)).take k0)))), (9, (.row 39 2 k1 (CE 2 ((((A.map (fun s => dz r s)).map ZN).map (· w.heap.size)).take k1))))] [(10, (Is (.int .i64 k1))), (8, (Is (.int .i64 k0))), (0, (Mv n A k))] Bq a W) (fun (k1 : Nat) => n - k1) ?_ 0 ⟨Nat.zero_le _, B9, S9.sub [0, 1] [0, 2, 3]⟩
    rintro k1 a10 W10 ⟨hcond, B10, S10⟩
    by_cases hlt1 : k1 < n
    · obtain ⟨s, hsr⟩ : ∃ s, A[k1]? = some s := ⟨A[k1]'(by omega), List.getElem?_eq_getElem _⟩
      have hrow2 := row_at (k := k) hsr hR
      have hz : (A.map (fun s => dz r s))[k1]? = some (dz r s) := map_get' (fun s => dz r s) hsr
      have htk1 : (((A.map (fun s => dz r s)).map ZN).map (· w.heap.size)).take (k1 + 1) = (((A.map (fun s => dz r s)).map ZN).map (· w.heap.size)).take k1 ++ [ZN (dz r s) w.heap.size] := by rw [List.take_add_one, map_get' _ (map_get' _ hz)]; rfl
      refine wp_seq ?_
      refine wp_stmt_seq [.val (Is (.int .i64 k1)),
      .val (Mv n A k),
      .val (Is (.int .i64 (n : Nat))),
      .val (Is (.bool true))] [.inr 0, .inr 1] [.inl 3, .inr 0, .inr 1, .inr 2] follows S10 rfl (by kernel_rfl) ?_ ?_
      · refine ⟨⟨⟨⟨trivial, ?_⟩, ?_⟩, ?_⟩, ?_⟩
        · exact owe_move rfl (wants_all rfl) (Or.inl rfl) (opnd_slot 0 10 rfl (by kernel_rfl)) rfl
        · exact owe_move rfl (wants_all rfl) (Or.inl rfl) (opnd_slot 2 0 rfl (by kernel_rfl)) rfl
        · exact owe_len rfl (wants_all rfl) rfl (opnd_op 1 28 (by kernel_rfl) rfl) ar_len Try.underlying22 rfl
        · exact owe_bin rfl (wants_all rfl) rfl (opnd_op 0 27 (by kernel_rfl) rfl) (opnd_op 2 29 (by kernel_rfl) rfl) rfl (fun ρ w h1 h2 => by exact run_lss_int_t ρ _ _ _ w _ _ (by omega) h1 h2)
      intro B11 a11 W11 S11
      replace S11 : Sta w 54 [(7, (.row 36 1 k0 (CE 1 ((((gramZ A).map (fun zs => VN zs.length zs)).map (· w.heap.size)).take k0)))), (9, (.row 39 2 k1 (CE 2 ((((A.map (fun s => dz r s)).map ZN).map (· w.heap.size)).take k1))))] [(30, (Is (.bool true))), (10, (Is (.int .i64 k1))), (8, (Is (.int .i64 k0))), (0, (Mv n A k))] B11 a11 W11 := S11
      refine wp_cond_true (S11.bool 0 30 rfl) ?_
      refine wp_skip ?_
      refine thenN ?_
      refine wp_seq ?_
      refine wp_block ?_
      refine wp_stmt_seq [.val (Mv n A k),
      .val (Is (.int .i64 k0)),
      .val (AtE 1 (Vv x r k)),
      .val (Vv x r k),
      .val (Mv n A k),
      .val (Is (.int .i64 k1)),
      .val (AtE 1 (Vv x s k)),
      .val (Vv x s k),
      .val ((TWO (ZN (dz r s)) (IS (.int .i64 0))) w.heap.size),
      .val ((TWO (ZN (dz r s)) (IS (.int .i64 0))) w.heap.size),
      .val ((ZN (dz r s)) w.heap.size),
      .val (Is (.int .i64 0)),
      .new (.box 39 (Is (.agg #[.bool false, .slice none 0 0]))),
      .put (.inr 12) (.box 39 ((ZN (dz r s)) w.heap.size)),
      .val (Is (.int .i64 0))] [.inr 0, .inr 1, .inl 12] [.inr 0, .inr 1, .inr 2, .inr 3] follows S11 rfl (by kernel_rfl) ?_ ?_
      · refine ⟨⟨⟨⟨⟨⟨⟨⟨⟨⟨⟨⟨⟨⟨⟨trivial, ?_⟩, ?_⟩, ?_⟩, ?_⟩, ?_⟩, ?_⟩, ?_⟩, ?_⟩, ?_⟩, ?_⟩, ?_⟩, ?_⟩, ?_⟩, ?_⟩, ?_⟩
        · exact owe_move rfl (wants_all rfl) (Or.inl rfl) (opnd_slot 3 0 rfl (by kernel_rfl)) rfl
        · exact owe_move rfl (wants_all rfl) (Or.inl rfl) (opnd_slot 2 8 rfl (by kernel_rfl)) rfl
        · exact owe_aindex rfl (wants_all rfl) rfl idx_rows (opnd_op 0 34 (by kernel_rfl) rfl) (opnd_op 1 35 (by kernel_rfl) rfl) hrow rfl
        · exact owe_aload rfl (wants_all rfl) rfl ldr_row1 (by decide) cel_vv (opnd_op 2 36 (by kernel_rfl) rfl) rfl
        · exact owe_move rfl (wants_all rfl) (Or.inl rfl) (opnd_slot 3 0 rfl (by kernel_rfl)) rfl
        · exact owe_move rfl (wants_all rfl) (Or.inl rfl) (opnd_slot 1 10 rfl (by kernel_rfl)) rfl
        · exact owe_aindex rfl (wants_all rfl) rfl idx_rows (opnd_op 4 38 (by kernel_rfl) rfl) (opnd_op 5 39 (by kernel_rfl) rfl) hrow2 rfl
        · exact owe_aload rfl (wants_all rfl) rfl ldr_row1 (by decide) cel_vv (opnd_op 6 40 (by kernel_rfl) rfl) rfl
        · exact owe_callh2 rfl (wants_all rfl) rfl (opnd_op 3 37 (by kernel_rfl) rfl) (opnd_op 7 41 (by kernel_rfl) rfl) (fresh_two (fresh_zn _) (fresh_is _)) rfl (fun args w => by go_simp) (fun w u0 u1 h0 h1 => rdot_y w u0 u1 x k k r s h0 h1 hx (by omega))
        · exact owe_move rfl (wants_all rfl) (Or.inl rfl) (opnd_op 8 42 (by kernel_rfl) rfl) rfl
        · exact owe_ext2 rfl (wants_all rfl) rfl (opnd_op 9 33 (by kernel_rfl) rfl) (Or.inl ⟨rfl, rfl⟩) rfl
        · exact owe_ext2 rfl (wants_all rfl) rfl (opnd_op 9 33 (by kernel_rfl) rfl) (Or.inr ⟨rfl, rfl⟩) rfl
        · exact owe_new rfl (wants_all rfl) rfl rfl (fun ρ w => alloc_int ρ _ w)
        · exact owe_put 12 rfl (wants_all rfl) rfl (by kernel_rfl) rfl (opnd_op 10 43 (by kernel_rfl) rfl) (stores_of strct_int shp_z0 shp_zn) rfl
        · exact owe_move rfl (wants_all rfl) (Or.inr rfl) (opnd_op 11 44 (by kernel_rfl) rfl) rfl
      intro B12 a12 W12 S12
      replace S12 : Sta w 54 [(7, (.row 36 1 k0 (CE 1 ((((gramZ A).map (fun zs => VN zs.length zs)).map (· w.heap.size)).take k0)))), (9, (.row 39 2 k1 (CE 2 ((((A.map (fun s => dz r s)).map ZN).map (· w.heap.size)).take k1)))), (11, (.box 39 ((ZN (dz r s)) w.heap.size)))] [(30, (Is (.bool true))), (10, (Is (.int .i64 k1))), (8, (Is (.int .i64 k0))), (0, (Mv n A k))] B12 a12 W12 := S12
      refine wp_stmt [.val (Is (a12.eval (.tmp 9))),
      .val ((ZN (dz r s)) w.heap.size),
      .val (Sng 39 2 ((ZN (dz r s)) w.heap.size) w.heap.size),
      .mov 9 (.row 39 2 (k1 + 1) (CE 2 ((((A.map (fun s => dz r s)).map ZN).map (· w.heap.size)).take (k1 + 1)))),
      .ref 3] [.inr 0, .inr 2, .inl 4] [.inr 0, .inr 1, .inr 2, .inr 3] follows S12 rfl (by kernel_rfl) ?_ ?_
      · refine ⟨⟨⟨⟨⟨trivial, ?_⟩, ?_⟩, ?_⟩, ?_⟩, ?_⟩
        · exact owe_same rfl (wants_all rfl) (Or.inl rfl) (by kernel_rfl) rfl
        · exact owe_load rfl (wants_all rfl) rfl (k := 2) rfl (by kernel_rfl) (loads_of strct_int shp_zn) rfl
        · exact owe_b1 rfl (wants_all rfl) rfl bld_int (opnd_op 1 46 (by kernel_rfl) rfl) (cel_shp (by decide) shp_zn) rfl
        · exact owe_append rfl (wants_all rfl) rfl (opnd_op 0 45 (by kernel_rfl) rfl) (k := 1) rfl (by kernel_rfl) ((opnd_op 2 47 (by kernel_rfl) rfl).imp b1_src) einf_int Try.underlying36 (by decide) ⟨by unfold maxLen; omega, by omega⟩ rfl (fun xs ys w h1 h2 => by rw [htk1]; exact ce_append xs ys w h1 h2)
        · exact owe_ref 3 rfl (wants_all rfl) (Or.inr rfl) (by kernel_rfl) rfl rfl
      intro B13 a13 W13 S13
      replace S13 : Sta w 54 [(7, (.row 36 1 k0 (CE 1 ((((gramZ A).map (fun zs => VN zs.length zs)).map (· w.heap.size)).take k0)))), (11, (.box 39 ((ZN (dz r s)) w.heap.size))), (9, (.row 39 2 (k1 + 1) (CE 2 ((((A.map (fun s => dz r s)).map ZN).map (· w.heap.size)).take (k1 + 1)))))] [(30, (Is (.bool true))), (10, (Is (.int .i64 k1))), (8, (Is (.int .i64 k0))), (0, (Mv n A k))] B13 a13 W13 := S13
      refine inBlkN ?_
      refine thenN ?_
      refine wp_stmt [.val (Is (.int .i64 k1)),
      .val (Is (.int .i64 (k1 + 1 : Nat))),
      .val (Is (.int .i64 (k1 + 1 : Nat)))] [.inr 0, .inr 1, .inr 2] [.inl 2, .inr 0, .inr 2, .inr 3] follows S13 rfl (by kernel_rfl) ?_ ?_
      · refine ⟨⟨⟨trivial, ?_⟩, ?_⟩, ?_⟩
        · exact owe_move rfl (wants_all rfl) (Or.inl rfl) (opnd_slot 1 10 rfl (by kernel_rfl)) rfl
        · exact owe_bin rfl (wants_all rfl) rfl (opnd_op 0 31 (by kernel_rfl) rfl) (opnd_const _) rfl (fun ρ w h1 h2 => by exact run_add_int ρ _ _ _ w _ _ _ ⟨by omega, by omega, by omega⟩ h1 h2)
        · exact owe_move rfl (wants_all rfl) (Or.inr rfl) (opnd_op 1 32 (by kernel_rfl) rfl) rfl
      intro B14 a14 W14 S14
      replace S14 : Sta w 54 [(7, (.row 36 1 k0 (CE 1 ((((gramZ A).map (fun zs => VN zs.length zs)).map (· w.heap.size)).take k0)))), (11, (.box 39 ((ZN (dz r s)) w.heap.size))), (9, (.row 39 2 (k1 + 1) (CE 2 ((((A.map (fun s => dz r s)).map ZN).map (· w.heap.size)).take (k1 + 1)))))] [(10, (Is (.int .i64 (k1 + 1 : Nat)))), (30, (Is (.bool true))), (8, (Is (.int .i64 k0))), (0, (Mv n A k))] B14 a14 W14 := S14
      refine thenN ?_
      exact ⟨k1 + 1, ⟨by omega, B14, S14.sub [0, 2] [0, 2, 3]⟩, by omega⟩
    · have ek1 : n = k1 := by omega
      have hend1 : (((A.map (fun s => dz r s)).map ZN).map (· w.heap.size)).take k1 = (((A.map (fun s => dz r s)).map ZN).map (· w.heap.size)) := List.take_of_length_le (by simp; omega)
      refine wp_seq ?_
      refine wp_stmt_seq [.val (Is (.int .i64 k1)),
      .val (Mv n A k),
      .val (Is (.int .i64 (n : Nat))),
      .val (Is (.bool false))] [.inr 0, .inr 1] [.inl 3, .inr 0, .inr 1, .inr 2] follows S10 rfl (by kernel_rfl) ?_ ?_
      · refine ⟨⟨⟨⟨trivial, ?_⟩, ?_⟩, ?_⟩, ?_⟩
        · exact owe_move rfl (wants_all rfl) (Or.inl rfl) (opnd_slot 0 10 rfl (by kernel_rfl)) rfl
        · exact owe_move rfl (wants_all rfl) (Or.inl rfl) (opnd_slot 2 0 rfl (by kernel_rfl)) rfl
        · exact owe_len rfl (wants_all rfl) rfl (opnd_op 1 28 (by kernel_rfl) rfl) ar_len Try.underlying22 rfl
        · exact owe_bin rfl (wants_all rfl) rfl (opnd_op 0 27 (by kernel_rfl) rfl) (opnd_op 2 29 (by kernel_rfl) rfl) rfl (fun ρ w h1 h2 => by exact run_lss_int_f ρ _ _ _ w _ _ (by omega) h1 h2)
      intro B11 a11 W11 S11
      replace S11 : Sta w 54 [(7, (.row 36 1 k0 (CE 1 ((((gramZ A).map (fun zs => VN zs.length zs)).map (· w.heap.size)).take k0)))), (9, (.row 39 2 k1 (CE 2 ((((A.map (fun s => dz r s)).map ZN).map (· w.heap.size)).take k1))))] [(30, (Is (.bool false))), (10, (Is (.int .i64 k1))), (8, (Is (.int .i64 k0))), (0, (Mv n A k))] B11 a11 W11 := S11
      refine wp_cond_false (S11.bool 0 30 rfl) ?_
      refine wp_exit ?_
      refine thenX ?_
      refine thenX ?_
      refine inBlkE ?_
      refine thenN ?_
      obtain ⟨B12, S12⟩ : ∃ Bq, Sta w 54 [(7, (.row 36 1 k0 (CE 1 ((((gramZ A).map (fun zs => VN zs.length zs)).map (· w.heap.size)).take k0))))] [(9, ((VN ((A.map (fun s => dz r s)).length) (A.map (fun s => dz r s))) w.heap.size)), (30, (Is (.bool false))), (10, (Is (.int .i64 k1))), (8, (Is (.int .i64 k0))), (0, (Mv n A k))] Bq a11 W11 := ⟨_, S11.freeze 1 rfl (by simp) (fun v w' xs ho hc => by rw [hend1] at hc; rw [← ek1] at ho; rw [show (A.map (fun s => dz r s)).length = n from (by rw [List.length_map]; exact hA)]; exact row_lf (by decide) v w' xs ho hc)⟩
      obtain ⟨a12, W12, e1, e2⟩ : ∃ a W, a11 = a ∧ W11 = W := ⟨_, _, rfl, rfl⟩
      rw [e1, e2] at S12 ⊢
      clear e1 e2
      refine wp_stmt [.val (Is (a12.eval (.tmp 7))),
      .val ((VN ((A.map (fun s => dz r s)).length) (A.map (fun s => dz r s))) w.heap.size),
      .val (Sng 36 1 ((VN ((A.map (fun s => dz r s)).length) (A.map (fun s => dz r s))) w.heap.size) w.heap.size),
      .mov 7 (.row 36 1 (k0 + 1) (CE 1 ((((gramZ A).map (fun zs => VN zs.length zs)).map (· w.heap.size)).take (k0 + 1)))),
      .ref 3] [.inl 4] [.inr 0, .inr 1, .inr 2, .inr 3, .inr 4] follows S12 rfl (by kernel_rfl) ?_ ?_
      · refine ⟨⟨⟨⟨⟨trivial, ?_⟩, ?_⟩, ?_⟩, ?_⟩, ?_⟩
        · exact owe_same rfl (wants_all rfl) (Or.inl rfl) (by kernel_rfl) rfl
        · exact owe_move rfl (wants_all rfl) (Or.inl rfl) (opnd_slot 0 9 rfl (by kernel_rfl)) rfl
        · exact owe_b1 rfl (wants_all rfl) rfl bld_row1 (opnd_op 1 50 (by kernel_rfl) rfl) cel_vn rfl
        · exact owe_append rfl (wants_all rfl) rfl (opnd_op 0 49 (by kernel_rfl) rfl) (k := 0) rfl (by kernel_rfl) ((opnd_op 2 51 (by kernel_rfl) rfl).imp b1_src) einf_row1 Try.underlying22 (by decide) ⟨by unfold maxLen; omega, by omega⟩ rfl (fun xs ys w h1 h2 => by rw [htk]; exact ce_append xs ys w h1 h2)
        · exact owe_ref 3 rfl (wants_all rfl) (Or.inr rfl) (by kernel_rfl) rfl rfl
      intro B13 a13 W13 S13
      replace S13 : Sta w 54 [(7, (.row 36 1 (k0 + 1) (CE 1 ((((gramZ A).map (fun zs => VN zs.length zs)).map (· w.heap.size)).take (k0 + 1)))))] [(9, ((VN ((A.map (fun s => dz r s)).length) (A.map (fun s => dz r s))) w.heap.size)), (30, (Is (.bool false))), (10, (Is (.int .i64 k1))), (8, (Is (.int .i64 k0))), (0, (Mv n A k))] B13 a13 W13 := S13
      refine inBlkN ?_
      refine thenN ?_
      refine wp_stmt [.val (Is (.int .i64 k0)),
      .val (Is (.int .i64 (k0 + 1 : Nat))),
      .val (Is (.int .i64 (k0 + 1 : Nat)))] [.inr 0] [.inl 2, .inr 0, .inr 1, .inr 2, .inr 4] follows S13 rfl (by kernel_rfl) ?_ ?_
      · refine ⟨⟨⟨trivial, ?_⟩, ?_⟩, ?_⟩
        · exact owe_move rfl (wants_all rfl) (Or.inl rfl) (opnd_slot 3 8 rfl (by kernel_rfl)) rfl
        · exact owe_bin rfl (wants_all rfl) rfl (opnd_op 0 25 (by kernel_rfl) rfl) (opnd_const _) rfl (fun ρ w h1 h2 => by exact run_add_int ρ _ _ _ w _ _ _ ⟨by omega, by omega, by omega⟩ h1 h2)
        · exact owe_move rfl (wants_all rfl) (Or.inr rfl) (opnd_op 1 26 (by kernel_rfl) rfl) rfl
      intro B14 a14 W14 S14
      replace S14 : Sta w 54 [(7, (.row 36 1 (k0 + 1) (CE 1 ((((gramZ A).map (fun zs => VN zs.length zs)).map (· w.heap.size)).take (k0 + 1)))))] [(8, (Is (.int .i64 (k0 + 1 : Nat)))), (9, ((VN ((A.map (fun s => dz r s)).length) (A.map (fun s => dz r s))) w.heap.size)), (30, (Is (.bool false))), (10, (Is (.int .i64 k1))), (0, (Mv n A k))] B14 a14 W14 := S14
      refine thenN ?_
      exact ⟨k0 + 1, ⟨by omega, B14, S14.sub [0] [0, 4]⟩, by omega⟩
  · have ek : n = k0 := by omega
    have hend : (((gramZ A).map (fun zs => VN zs.length zs)).map (· w.heap.size)).take k0 = (((gramZ A).map (fun zs => VN zs.length zs)).map (· w.heap.size)) := List.take_of_length_le (by simp [hol]; omega)
    refine wp_seq ?_
    refine wp_stmt_seq [.val (Is (.int .i64 k0)),
      .val (Mv n A k),
      .val (Is (.int .i64 (n : Nat))),
      .val (Is (.bool false))] [.inr 0] [.inl 3, .inr 0, .inr 1] follows S6 rfl (by kernel_rfl) ?_ ?_
    · refine ⟨⟨⟨⟨trivial, ?_⟩, ?_⟩, ?_⟩, ?_⟩
      · exact owe_move rfl (wants_all rfl) (Or.inl rfl) (opnd_slot 0 8 rfl (by kernel_rfl)) rfl
      · exact owe_move rfl (wants_all rfl) (Or.inl rfl) (opnd_slot 1 0 rfl (by kernel_rfl)) rfl
      · exact owe_len rfl (wants_all rfl) rfl (opnd_op 1 22 (by kernel_rfl) rfl) ar_len Try.underlying22 rfl
      · exact owe_bin rfl (wants_all rfl) rfl (opnd_op 0 21 (by kernel_rfl) rfl) (opnd_op 2 23 (by kernel_rfl) rfl) rfl (fun ρ w h1 h2 => by exact run_lss_int_f ρ _ _ _ w _ _ (by omega) h1 h2)
    intro B7 a7 W7 S7
    replace S7 : Sta w 54 [(7, (.row 36 1 k0 (CE 1 ((((gramZ A).map (fun zs => VN zs.length zs)).map (· w.heap.size)).take k0))))] [(24, (Is (.bool false))), (8, (Is (.int .i64 k0))), (0, (Mv n A k))] B7 a7 W7 := S7
    refine wp_cond_false (S7.bool 0 24 rfl) ?_
    refine wp_exit ?_
    refine thenX ?_
    refine thenX ?_
    refine inBlkE ?_
    refine thenN ?_
    obtain ⟨B8, S8⟩ : ∃ Bq, Sta w 54 [] [(7, ((MN n (gramZ A)) w.heap.size)), (24, (Is (.bool false))), (8, (Is (.int .i64 k0))), (0, (Mv n A k))] Bq a7 W7 := ⟨_, S7.freeze 0 rfl (by simp) (fun v w' xs ho hc => by rw [hend] at hc; rw [← ek] at ho; exact row_lf (by decide) v w' xs ho hc)⟩
    obtain ⟨a8, W8, e1, e2⟩ : ∃ a W, a7 = a ∧ W7 = W := ⟨_, _, rfl, rfl⟩
    rw [e1, e2] at S8 ⊢
    clear e1 e2
    refine wp_stmt_seq [.val ((MN n (gramZ A)) w.heap.size),
      .val ((MN n (gramZ A)) w.heap.size),
      .val (Is (.int .i64 0))] [] [.inl 1, .inl 2, .inr 0, .inr 1, .inr 2, .inr 3] follows S8 rfl (by kernel_rfl) ?_ ?_
    · refine ⟨⟨⟨trivial, ?_⟩, ?_⟩, ?_⟩
      · exact owe_move rfl (wants_all rfl) (Or.inl rfl) (opnd_slot 0 7 rfl (by kernel_rfl)) rfl
      · exact owe_move rfl (wants_all rfl) (Or.inr rfl) (opnd_op 0 53 (by kernel_rfl) rfl) rfl
      · exact owe_move rfl (wants_all rfl) (Or.inr rfl) (opnd_const _) rfl
    intro B9 a9 W9 S9
    replace S9 : Sta w 54 [] [(2, ((MN n (gramZ A)) w.heap.size)), (3, (Is (.int .i64 0))), (7, ((MN n (gramZ A)) w.heap.size)), (24, (Is (.bool false))), (8, (Is (.int .i64 k0))), (0, (Mv n A k))] B9 a9 W9 := S9
    refine wp_ret ?_
    exact end_two S9 rfl (res_tmp S9 0 2 rfl) (res_tmp S9 1 3 rfl)

set_option maxHeartbeats 400000 in
theorem rgram_n (w : World) (u : Value) (n k : Nat) (A : List (List Int)) (h : Hs w (Mv n A k) u) (hn : n ≤ 1048576) (hR : ¬ reg A = true) :
    Calls Try.prog 47 #[u] w (Gives (TWO (IS (.slice none 0 0)) (IS (.int .i64 8))) w) := by
  refine calls_sta (sl := [(0, (Mv n A k))]) Try.func47 rfl Try.ntmps47 (by simp) (args_cons rfl (h) args_nil) ?_
  intro a0 S0
  refine wp_stmt_seq [.val (Is (.slice none 0 0)),
      .val (Is (.int .i64 0))] [] [.inl 0, .inl 1, .inr 0] follows S0 rfl (by kernel_rfl) ?_ ?_
  · refine ⟨⟨trivial, ?_⟩, ?_⟩
    · exact owe_move rfl (wants_all rfl) (Or.inr rfl) (opnd_const _) rfl
    · exact owe_move rfl (wants_all rfl) (Or.inr rfl) (opnd_const _) rfl
  intro B1 a1 W1 S1
  replace S1 : Sta w 54 [] [(2, (Is (.slice none 0 0))), (3, (Is (.int .i64 0))), (0, (Mv n A k))] B1 a1 W1 := S1
  refine wp_stmt_seq [.val (Mv n A k),
      .val ((THREE (IS (.int .i64 0)) (IS (.int .i64 0)) (IS (.int .i64 8))) w.heap.size),
      .val ((THREE (IS (.int .i64 0)) (IS (.int .i64 0)) (IS (.int .i64 8))) w.heap.size),
      .val (Is (.int .i64 0)),
      .val (Is (.int .i64 0)),
      .val (Is (.int .i64 8)),
      .val (Is (.int .i64 0)),
      .val (Is (.int .i64 0)),
      .val (Is (.int .i64 8))] [] [.inl 8, .inr 0, .inr 1, .inr 2] follows S1 rfl (by kernel_rfl) ?_ ?_
  · refine ⟨⟨⟨⟨⟨⟨⟨⟨⟨trivial, ?_⟩, ?_⟩, ?_⟩, ?_⟩, ?_⟩, ?_⟩, ?_⟩, ?_⟩, ?_⟩
    · exact owe_move rfl (wants_all rfl) (Or.inl rfl) (opnd_slot 2 0 rfl (by kernel_rfl)) rfl
    · exact owe_callh1 rfl (wants_all rfl) rfl (opnd_op 0 14 (by kernel_rfl) rfl) (fresh_three (fresh_is _) (fresh_is _) (fresh_is _)) rfl (fun args w => by go_simp) (fun w u h => h_rshape_n w u n _ _ h (by omega) hR)
    · exact owe_move rfl (wants_all rfl) (Or.inl rfl) (opnd_op 1 15 (by kernel_rfl) rfl) rfl
    · exact owe_ext3 rfl (wants_all rfl) rfl (opnd_op 2 13 (by kernel_rfl) rfl) (Or.inl ⟨rfl, rfl⟩) rfl
    · exact owe_ext3 rfl (wants_all rfl) rfl (opnd_op 2 13 (by kernel_rfl) rfl) (Or.inr (Or.inl ⟨rfl, rfl⟩)) rfl
    · exact owe_ext3 rfl (wants_all rfl) rfl (opnd_op 2 13 (by kernel_rfl) rfl) (Or.inr (Or.inr ⟨rfl, rfl⟩)) rfl
    · exact owe_move rfl (wants_all rfl) (Or.inr rfl) (opnd_op 3 16 (by kernel_rfl) rfl) rfl
    · exact owe_move rfl (wants_all rfl) (Or.inr rfl) (opnd_op 4 17 (by kernel_rfl) rfl) rfl
    · exact owe_move rfl (wants_all rfl) (Or.inr rfl) (opnd_op 5 18 (by kernel_rfl) rfl) rfl
  intro B2 a2 W2 S2
  replace S2 : Sta w 54 [] [(6, (Is (.int .i64 8))), (2, (Is (.slice none 0 0))), (3, (Is (.int .i64 0))), (0, (Mv n A k))] B2 a2 W2 := S2
  refine wp_seq ?_
  refine wp_stmt_seq [.val (Is (.int .i64 8)),
      .val (Is (.bool true))] [] [.inl 1, .inr 1, .inr 2, .inr 3] follows S2 rfl (by kernel_rfl) ?_ ?_
  · refine ⟨⟨trivial, ?_⟩, ?_⟩
    · exact owe_move rfl (wants_all rfl) (Or.inl rfl) (opnd_slot 0 6 rfl (by kernel_rfl)) rfl
    · exact owe_bin rfl (wants_all rfl) rfl (opnd_op 0 19 (by kernel_rfl) rfl) (opnd_const _) rfl (fun ρ w h1 h2 => by exact run_neq_int_t ρ _ _ _ w _ _ (by omega) h1 h2)
  intro B3 a3 W3 S3
  replace S3 : Sta w 54 [] [(20, (Is (.bool true))), (2, (Is (.slice none 0 0))), (3, (Is (.int .i64 0))), (0, (Mv n A k))] B3 a3 W3 := S3
  refine wp_cond_true (S3.bool 0 20 rfl) ?_
  refine wp_stmt_seq [.val (Is (.slice none 0 0)),
      .val (Is (.int .i64 8))] [] [.inl 0, .inl 1, .inr 0, .inr 3] follows S3 rfl (by kernel_rfl) ?_ ?_
  · refine ⟨⟨trivial, ?_⟩, ?_⟩
    · exact owe_move rfl (wants_all rfl) (Or.inr rfl) (opnd_const _) rfl
    · exact owe_move rfl (wants_all rfl) (Or.inr rfl) (opnd_const _) rfl
  intro B4 a4 W4 S4
  replace S4 : Sta w 54 [] [(2, (Is (.slice none 0 0))), (3, (Is (.int .i64 8))), (20, (Is (.bool true))), (0, (Mv n A k))] B4 a4 W4 := S4
  refine wp_ret ?_
  refine thenR ?_
  exact end_two S4 rfl (res_tmp S4 0 2 rfl) (res_tmp S4 1 3 rfl)

end Go.Proofs.Ytiehipnaklkhjaa

/-
  Gram: mat's.
-/
namespace Go.Proofs.Ytiehipnaklkhjaa
open Go Go.RowKit Nt
set_option linter.unusedSimpArgs false
set_option linter.unusedVariables false
set_option maxRecDepth 20000

set_option maxHeartbeats 4000000 in
theorem gram_y (w : World) (u : Value) (n k : Nat) (A : List (List Int)) (h : Hs w (Mv n A k) u) (hn : n ≤ 1048576) (x : Nat) (hx : x ≤ 1048576) (hR : Reg A x) (h0A : n = 0 → x = 0) (hs : k ≤ 536870912) :
    Calls Try.prog 46 #[u] w (Gives (TWO (MN n (grid n n (gramF A))) (IS (.int .i64 0))) w) := by
  have hA := mv_len h.now
  have hb : 32 * (n * n) ≤ 281474976710656 := by have : n * n ≤ 1048576 * 1048576 := Nat.mul_le_mul hn hn; omega
  have hxm : n ≤ maxLen := by unfold maxLen; omega
  have dD : ∀ r s : List Int, Dl r k → Dl s k → r.length = x → (digs (dz r s).natAbs).length ≤ k + k + x := fun r s h1 h2 h3 => by have := dotE_len (n := x) (m := x) h1 h2 h3; rwa [dotE, if_pos rfl] at this
  refine calls_sta (sl := [(0, (Mv n A k))]) Try.func46 rfl Try.ntmps46 (by simp) (args_cons rfl (h) args_nil) ?_
  intro a0 S0
  refine wp_stmt_seq [.val (Is (.slice none 0 0)),
      .val (Is (.int .i64 0))] [] [.inl 0, .inl 1, .inr 0] follows S0 rfl (by kernel_rfl) ?_ ?_
  · refine ⟨⟨trivial, ?_⟩, ?_⟩
    · exact owe_move rfl (wants_all rfl) (Or.inr rfl) (opnd_const _) rfl
    · exact owe_move rfl (wants_all rfl) (Or.inr rfl) (opnd_const _) rfl
  intro B1 a1 W1 S1
  replace S1 : Sta w 73 [] [(2, (Is (.slice none 0 0))), (3, (Is (.int .i64 0))), (0, (Mv n A k))] B1 a1 W1 := S1
  refine wp_stmt_seq [.val (Mv n A k),
      .val ((THREE (IS (.int .i64 (n : Nat))) (IS (.int .i64 (x : Nat))) (IS (.int .i64 0))) w.heap.size),
      .val ((THREE (IS (.int .i64 (n : Nat))) (IS (.int .i64 (x : Nat))) (IS (.int .i64 0))) w.heap.size),
      .val (Is (.int .i64 (n : Nat))),
      .val (Is (.int .i64 (x : Nat))),
      .val (Is (.int .i64 0)),
      .val (Is (.int .i64 (n : Nat))),
      .val (Is (.int .i64 (x : Nat))),
      .val (Is (.int .i64 0))] [] [.inl 6, .inl 8, .inr 0, .inr 1, .inr 2] follows S1 rfl (by kernel_rfl) ?_ ?_
  · refine ⟨⟨⟨⟨⟨⟨⟨⟨⟨trivial, ?_⟩, ?_⟩, ?_⟩, ?_⟩, ?_⟩, ?_⟩, ?_⟩, ?_⟩, ?_⟩
    · exact owe_move rfl (wants_all rfl) (Or.inl rfl) (opnd_slot 2 0 rfl (by kernel_rfl)) rfl
    · exact owe_callh1 rfl (wants_all rfl) rfl (opnd_op 0 11 (by kernel_rfl) rfl) (fresh_three (fresh_is _) (fresh_is _) (fresh_is _)) rfl (fun args w => by go_simp) (fun w u h => h_shape_y w u n _ x _ h (by omega) hR h0A)
    · exact owe_move rfl (wants_all rfl) (Or.inl rfl) (opnd_op 1 12 (by kernel_rfl) rfl) rfl
    · exact owe_ext3 rfl (wants_all rfl) rfl (opnd_op 2 10 (by kernel_rfl) rfl) (Or.inl ⟨rfl, rfl⟩) rfl
    · exact owe_ext3 rfl (wants_all rfl) rfl (opnd_op 2 10 (by kernel_rfl) rfl) (Or.inr (Or.inl ⟨rfl, rfl⟩)) rfl
    · exact owe_ext3 rfl (wants_all rfl) rfl (opnd_op 2 10 (by kernel_rfl) rfl) (Or.inr (Or.inr ⟨rfl, rfl⟩)) rfl
    · exact owe_move rfl (wants_all rfl) (Or.inr rfl) (opnd_op 3 13 (by kernel_rfl) rfl) rfl
    · exact owe_move rfl (wants_all rfl) (Or.inr rfl) (opnd_op 4 14 (by kernel_rfl) rfl) rfl
    · exact owe_move rfl (wants_all rfl) (Or.inr rfl) (opnd_op 5 15 (by kernel_rfl) rfl) rfl
  intro B2 a2 W2 S2
  replace S2 : Sta w 73 [] [(4, (Is (.int .i64 (n : Nat)))), (6, (Is (.int .i64 0))), (2, (Is (.slice none 0 0))), (3, (Is (.int .i64 0))), (0, (Mv n A k))] B2 a2 W2 := S2
  refine wp_seq ?_
  refine wp_stmt_seq [.val (Is (.int .i64 0)),
      .val (Is (.bool false))] [] [.inl 1, .inr 0, .inr 1, .inr 2, .inr 3, .inr 4] follows S2 rfl (by kernel_rfl) ?_ ?_
  · refine ⟨⟨trivial, ?_⟩, ?_⟩
    · exact owe_move rfl (wants_all rfl) (Or.inl rfl) (opnd_slot 1 6 rfl (by kernel_rfl)) rfl
    · exact owe_bin rfl (wants_all rfl) rfl (opnd_op 0 16 (by kernel_rfl) rfl) (opnd_const _) rfl (fun ρ w h1 h2 => by exact run_neq_errno_f ρ _ _ _ w _ _ (by omega) h1 h2)
  intro B3 a3 W3 S3
  replace S3 : Sta w 73 [] [(17, (Is (.bool false))), (4, (Is (.int .i64 (n : Nat)))), (6, (Is (.int .i64 0))), (2, (Is (.slice none 0 0))), (3, (Is (.int .i64 0))), (0, (Mv n A k))] B3 a3 W3 := S3
  refine wp_cond_false (S3.bool 0 17 rfl) ?_
  refine wp_skip ?_
  refine thenN ?_
  refine wp_seq (wp_blank (h := n) (x := n) (t := 1000000) (ta := 19) (tb := 20) (tc := 21) (td := 7) (tx := 4) (ty := 4) rfl S3 (fun w => blank_w w (n) (n) (hn) (hb)) rfl ⟨rfl, rfl, rfl⟩ ⟨rfl, rfl, rfl⟩ ⟨rfl, rfl, rfl⟩ ⟨rfl, rfl, rfl⟩ (S3.slot 1 4 rfl) (S3.slot 1 4 rfl) (by decide) [(17, (Is (.bool false))), (4, (Is (.int .i64 (n : Nat)))), (6, (Is (.int .i64 0))), (2, (Is (.slice none 0 0))), (3, (Is (.int .i64 0))), (0, (Mv n A k))] (by simp) (by simp) ?_)
  intro g B4 a4 W4 S4
  refine thenN ?_
  replace S4 : Sta w 73 [(1000000, (Gr g 39 2 (List.replicate (n * n) (Is (.agg #[.bool false, .slice none 0 0])))))] [(7, ((Tbl n n g) w.heap.size)), (17, (Is (.bool false))), (4, (Is (.int .i64 (n : Nat)))), (6, (Is (.int .i64 0))), (2, (Is (.slice none 0 0))), (3, (Is (.int .i64 0))), (0, (Mv n A k))] B4 a4 W4 := S4
  refine wp_seq ?_
  refine wp_stmt_seq [.val (Is (.int .i64 (n : Nat))),
      .val (Is (.int .i64 0))] [.inr 0] [.inl 0, .inl 1, .inr 0, .inr 1, .inr 2, .inr 3, .inr 4, .inr 5, .inr 6] follows S4 rfl (by kernel_rfl) ?_ ?_
  · refine ⟨⟨trivial, ?_⟩, ?_⟩
    · exact owe_move rfl (wants_all rfl) (Or.inl rfl) (opnd_slot 2 4 rfl (by kernel_rfl)) rfl
    · exact owe_move rfl (wants_all rfl) (Or.inl rfl) (opnd_const _) rfl
  intro B5 a5 W5 S5
  replace S5 : Sta w 73 [(1000000, (Gr g 39 2 (List.replicate (n * n) (Is (.agg #[.bool false, .slice none 0 0])))))] [(22, (Is (.int .i64 (n : Nat)))), (23, (Is (.int .i64 0))), (7, ((Tbl n n g) w.heap.size)), (17, (Is (.bool false))), (4, (Is (.int .i64 (n : Nat)))), (6, (Is (.int .i64 0))), (2, (Is (.slice none 0 0))), (3, (Is (.int .i64 0))), (0, (Mv n A k))] B5 a5 W5 := S5
  refine wp_block ?_
  have hz0 : List.replicate (n * n) (Is (.agg #[.bool false, .slice none 0 0])) = gl w.heap.size n (gramF A) (dO 0) := gl_none (fun a b => decide_eq_false (by omega))
  rw [hz0] at S5
  refine wp_loop_ghost (fun (i : Nat) a W => (i ≤ n) ∧ ∃ Bq, Sta w 73 [(1000000, (Gr g 39 2 (gl w.heap.size n (gramF A) (dO i))))] [(22, (Is (.int .i64 (n : Nat)))), (23, (Is (.int .i64 (i : Nat)))), (7, ((Tbl n n g) w.heap.size)), (0, (Mv n A k))] Bq a W) (fun (i : Nat) => n - i) ?_ 0 ⟨Nat.zero_le _, B5, S5.sub [0] [0, 1, 2, 8]⟩
  rintro i a6 W6 ⟨hcond, B6, S6⟩
  by_cases hlt : i < n
  · obtain ⟨r, hr⟩ : ∃ r, A[i]? = some r := ⟨A[i]'(by omega), List.getElem?_eq_getElem _⟩
    have hrow := row_at (k := k) hr hR
    have hgi : A.getD i [] = r := by rw [List.getD_eq_getElem?_getD, hr]; rfl
    obtain ⟨off, hrw, hoff⟩ := rowV_at (g := g) (x := n) hlt
    have ho := hoff (by omega)
    have hget : ((List.range n).map (fun i => Is (rowV g 0 (n * n) (List.replicate n n) i)))[i]? = some (Is (.slice (some ⟨g, off, none⟩) n n)) := by rw [List.getElem?_map, List.getElem?_range hlt]; simp only [Option.map_some, hrw]
    have hset0 := gl_set (lo := w.heap.size) (F := gramF A) (D := dO i) (D' := dI i 0) (x := dz r r) hlt hlt (fun a b ha hb hne => decide_eq_decide.2 (by omega)) (decide_eq_true (by omega)) (by show dz (A.getD i []) (A.getD i []) = _; rw [hgi])
    have hl0 := at_lt hlt hlt
    refine wp_stmt_seq [.val (Is (.bool true))] [.inr 0] [.inl 0, .inr 0, .inr 1, .inr 2, .inr 3] follows S6 rfl (by kernel_rfl) ?_ ?_
    · refine ⟨trivial, ?_⟩
      · exact owe_bin rfl (wants_all rfl) rfl (opnd_slot 1 23 rfl (by kernel_rfl)) (opnd_slot 0 22 rfl (by kernel_rfl)) rfl (fun ρ w h1 h2 => by exact run_lss_int_t ρ _ _ _ w _ _ (by omega) h1 h2)
    intro B7 a7 W7 S7
    replace S7 : Sta w 73 [(1000000, (Gr g 39 2 (gl w.heap.size n (gramF A) (dO i))))] [(24, (Is (.bool true))), (22, (Is (.int .i64 (n : Nat)))), (23, (Is (.int .i64 (i : Nat)))), (7, ((Tbl n n g) w.heap.size)), (0, (Mv n A k))] B7 a7 W7 := S7
    refine wp_seq ?_
    refine wp_cond_true (S7.bool 0 24 rfl) ?_
    refine wp_skip ?_
    refine thenN ?_
    refine wp_seq ?_
    refine wp_block ?_
    refine wp_stmt_seq [.val (Is (.int .i64 (i : Nat))),
      .val (Is (.int .i64 (i : Nat)))] [.inr 0] [.inl 1, .inr 0, .inr 1, .inr 2, .inr 3, .inr 4] follows S7 rfl (by kernel_rfl) ?_ ?_
    · refine ⟨⟨trivial, ?_⟩, ?_⟩
      · exact owe_move rfl (wants_all rfl) (Or.inl rfl) (opnd_slot 2 23 rfl (by kernel_rfl)) rfl
      · exact owe_move rfl (wants_all rfl) (Or.inr rfl) (opnd_op 0 25 (by kernel_rfl) rfl) rfl
    intro B8 a8 W8 S8
    replace S8 : Sta w 73 [(1000000, (Gr g 39 2 (gl w.heap.size n (gramF A) (dO i))))] [(8, (Is (.int .i64 (i : Nat)))), (24, (Is (.bool true))), (22, (Is (.int .i64 (n : Nat)))), (23, (Is (.int .i64 (i : Nat)))), (7, ((Tbl n n g) w.heap.size)), (0, (Mv n A k))] B8 a8 W8 := S8
    refine wp_stmt_seq [.val ((Tbl n n g) w.heap.size),
      .val (Is (.int .i64 (i : Nat))),
      .val (AtE 1 (Is (.slice (some ⟨g, off, none⟩) n n))),
      .val (Is (.slice (some ⟨g, off, none⟩) n n)),
      .val (Is (.int .i64 (i : Nat))),
      .val (Mv n A k),
      .val (Is (.int .i64 (i : Nat))),
      .val (AtE 1 (Vv x r k)),
      .val (Vv x r k),
      .val ((ZN (dz r r)) w.heap.size),
      .val (Is (.pointer (some ⟨g, 2 * (i * n + i), none⟩))),
      .put (.inl 1000000) (Gr g 39 2 (gl w.heap.size n (gramF A) (dI i 0)))] [.inr 0] [.inr 0, .inr 1, .inr 2, .inr 3, .inr 4, .inr 5] follows S8 rfl (by kernel_rfl) ?_ ?_
    · refine ⟨⟨⟨⟨⟨⟨⟨⟨⟨⟨⟨⟨trivial, ?_⟩, ?_⟩, ?_⟩, ?_⟩, ?_⟩, ?_⟩, ?_⟩, ?_⟩, ?_⟩, ?_⟩, ?_⟩, ?_⟩
      · exact owe_move rfl (wants_all rfl) (Or.inl rfl) (opnd_slot 4 7 rfl (by kernel_rfl)) rfl
      · exact owe_move rfl (wants_all rfl) (Or.inl rfl) (opnd_slot 0 8 rfl (by kernel_rfl)) rfl
      · exact owe_aindex rfl (wants_all rfl) rfl idx_rows ((opnd_op 0 26 (by kernel_rfl) rfl).imp tbl_ar) (opnd_op 1 27 (by kernel_rfl) rfl) hget rfl
      · exact owe_aload rfl (wants_all rfl) rfl ldr_row1 (by decide) (cel_is rfl) (opnd_op 2 28 (by kernel_rfl) rfl) rfl
      · exact owe_move rfl (wants_all rfl) (Or.inl rfl) (opnd_slot 0 8 rfl (by kernel_rfl)) rfl
      · exact owe_move rfl (wants_all rfl) (Or.inl rfl) (opnd_slot 5 0 rfl (by kernel_rfl)) rfl
      · exact owe_move rfl (wants_all rfl) (Or.inl rfl) (opnd_slot 0 8 rfl (by kernel_rfl)) rfl
      · exact owe_aindex rfl (wants_all rfl) rfl idx_rows (opnd_op 5 31 (by kernel_rfl) rfl) (opnd_op 6 32 (by kernel_rfl) rfl) hrow rfl
      · exact owe_aload rfl (wants_all rfl) rfl ldr_row1 (by decide) cel_vv (opnd_op 7 33 (by kernel_rfl) rfl) rfl
      · exact owe_callh1 rfl (wants_all rfl) rfl (opnd_op 8 34 (by kernel_rfl) rfl) (fresh_zn _) rfl (fun args w => by go_simp) (fun w u0 h0 => norm_w w u0 x k r h0 hx (by omega))
      · exact owe_kindex rfl (wants_all rfl) rfl idx_ints (opnd_op 3 29 (by kernel_rfl) rfl) (opnd_op 4 30 (by kernel_rfl) rfl) hlt (by omega) rfl
      · exact owe_gstore rfl (wants_all rfl) rfl sto_int (by decide) (opnd_op 10 36 (by kernel_rfl) rfl) (k := 0) rfl (by kernel_rfl) (opnd_op 9 35 (by kernel_rfl) rfl) (cel_shp (by decide) shp_zn) (by rw [gl_len]; omega) (by rw [hset0]; rfl)
    intro B9 a9 W9 S9
    replace S9 : Sta w 73 [(1000000, (Gr g 39 2 (gl w.heap.size n (gramF A) (dI i 0))))] [(8, (Is (.int .i64 (i : Nat)))), (24, (Is (.bool true))), (22, (Is (.int .i64 (n : Nat)))), (23, (Is (.int .i64 (i : Nat)))), (7, ((Tbl n n g) w.heap.size)), (0, (Mv n A k))] B9 a9 W9 := S9
    refine wp_stmt_seq [.val (Is (.int .i64 (i : Nat))),
      .val (Is (.int .i64 0))] [.inr 0] [.inl 0, .inl 1, .inr 0, .inr 1, .inr 2, .inr 3, .inr 4, .inr 5] follows S9 rfl (by kernel_rfl) ?_ ?_
    · refine ⟨⟨trivial, ?_⟩, ?_⟩
      · exact owe_move rfl (wants_all rfl) (Or.inl rfl) (opnd_slot 0 8 rfl (by kernel_rfl)) rfl
      · exact owe_move rfl (wants_all rfl) (Or.inl rfl) (opnd_const _) rfl
    intro B10 a10 W10 S10
    replace S10 : Sta w 73 [(1000000, (Gr g 39 2 (gl w.heap.size n (gramF A) (dI i 0))))] [(37, (Is (.int .i64 (i : Nat)))), (38, (Is (.int .i64 0))), (8, (Is (.int .i64 (i : Nat)))), (24, (Is (.bool true))), (22, (Is (.int .i64 (n : Nat)))), (23, (Is (.int .i64 (i : Nat)))), (7, ((Tbl n n g) w.heap.size)), (0, (Mv n A k))] B10 a10 W10 := S10
    refine wp_block ?_
    refine wp_loop_ghost (fun (j : Nat) a W => (j ≤ i) ∧ ∃ Bq, Sta w 73 [(1000000, (Gr g 39 2 (gl w.heap.size n (gramF A) (dI i j))))] [(37, (Is (.int .i64 (i : Nat)))), (38, (Is (.int .i64 (j : Nat)))), (8, (Is (.int .i64 (i : Nat)))), (22, (Is (.int .i64 (n : Nat)))), (23, (Is (.int .i64 (i : Nat)))), (7, ((Tbl n n g) w.heap.size)), (0, (Mv n A k))] Bq a W) (fun (j : Nat) => i - j) ?_ 0 ⟨Nat.zero_le _, B10, S10.sub [0] [0, 1, 2, 4, 5, 6, 7]⟩
    rintro j a11 W11 ⟨hcond, B11, S11⟩
    by_cases hji : j < i
    · obtain ⟨s, hsr⟩ : ∃ s, A[j]? = some s := ⟨A[j]'(by omega), List.getElem?_eq_getElem _⟩
      have hrow2 := row_at (k := k) hsr hR
      have hjn : j < n := by omega
      have hgj : A.getD j [] = s := by rw [List.getD_eq_getElem?_getD, hsr]; rfl
      obtain ⟨off2, hrw2, hoff2⟩ := rowV_at (g := g) (x := n) hjn
      have ho2 := hoff2 (by omega)
      have hget2 : ((List.range n).map (fun i => Is (rowV g 0 (n * n) (List.replicate n n) i)))[j]? = some (Is (.slice (some ⟨g, off2, none⟩) n n)) := by rw [List.getElem?_map, List.getElem?_range hjn]; simp only [Option.map_some, hrw2]
      have hset1 := gl_set (lo := w.heap.size) (F := gramF A) (D := dI i j) (D' := dJ i j) (x := dz r s) hlt hjn (fun a b ha hb hne => decide_eq_decide.2 (by omega)) (decide_eq_true (by omega)) (by show dz (A.getD i []) (A.getD j []) = _; rw [hgi, hgj])
      have hget3 : (gl w.heap.size n (gramF A) (dJ i j))[i * n + j]? = some (ZN (dz r s) w.heap.size) := by rw [gl_get hlt hjn (decide_eq_true (by omega))]; show some (ZN (dz (A.getD i []) (A.getD j [])) w.heap.size) = _; rw [hgi, hgj]
      have hset2 := gl_set (lo := w.heap.size) (F := gramF A) (D := dJ i j) (D' := dI i (j + 1)) (x := dz r s) hjn hlt (fun a b ha hb hne => decide_eq_decide.2 (by omega)) (decide_eq_true (by omega)) (by show dz (A.getD j []) (A.getD i []) = _; rw [hgi, hgj, dz_comm])
      have hl1 := at_lt hlt hjn
      have hl2 := at_lt hjn hlt
      refine wp_stmt_seq [.val (Is (.bool true))] [.inr 0] [.inl 0, .inr 0, .inr 1, .inr 2, .inr 3, .inr 4, .inr 5, .inr 6] follows S11 rfl (by kernel_rfl) ?_ ?_
      · refine ⟨trivial, ?_⟩
        · exact owe_bin rfl (wants_all rfl) rfl (opnd_slot 1 38 rfl (by kernel_rfl)) (opnd_slot 0 37 rfl (by kernel_rfl)) rfl (fun ρ w h1 h2 => by exact run_lss_int_t ρ _ _ _ w _ _ (by omega) h1 h2)
      intro B12 a12 W12 S12
      replace S12 : Sta w 73 [(1000000, (Gr g 39 2 (gl w.heap.size n (gramF A) (dI i j))))] [(39, (Is (.bool true))), (37, (Is (.int .i64 (i : Nat)))), (38, (Is (.int .i64 (j : Nat)))), (8, (Is (.int .i64 (i : Nat)))), (22, (Is (.int .i64 (n : Nat)))), (23, (Is (.int .i64 (i : Nat)))), (7, ((Tbl n n g) w.heap.size)), (0, (Mv n A k))] B12 a12 W12 := S12
      refine wp_seq ?_
      refine wp_cond_true (S12.bool 0 39 rfl) ?_
      refine wp_skip ?_
      refine thenN ?_
      refine wp_seq ?_
      refine wp_block ?_
      refine wp_stmt_seq [.val (Is (.int .i64 (j : Nat))),
      .val (Is (.int .i64 (j : Nat)))] [.inr 0] [.inl 1, .inr 0, .inr 1, .inr 2, .inr 3, .inr 4, .inr 5, .inr 6, .inr 7] follows S12 rfl (by kernel_rfl) ?_ ?_
      · refine ⟨⟨trivial, ?_⟩, ?_⟩
        · exact owe_move rfl (wants_all rfl) (Or.inl rfl) (opnd_slot 2 38 rfl (by kernel_rfl)) rfl
        · exact owe_move rfl (wants_all rfl) (Or.inr rfl) (opnd_op 0 40 (by kernel_rfl) rfl) rfl
      intro B13 a13 W13 S13
      replace S13 : Sta w 73 [(1000000, (Gr g 39 2 (gl w.heap.size n (gramF A) (dI i j))))] [(9, (Is (.int .i64 (j : Nat)))), (39, (Is (.bool true))), (37, (Is (.int .i64 (i : Nat)))), (38, (Is (.int .i64 (j : Nat)))), (8, (Is (.int .i64 (i : Nat)))), (22, (Is (.int .i64 (n : Nat)))), (23, (Is (.int .i64 (i : Nat)))), (7, ((Tbl n n g) w.heap.size)), (0, (Mv n A k))] B13 a13 W13 := S13
      refine wp_stmt_seq [.val ((Tbl n n g) w.heap.size),
      .val (Is (.int .i64 (i : Nat))),
      .val (AtE 1 (Is (.slice (some ⟨g, off, none⟩) n n))),
      .val (Is (.slice (some ⟨g, off, none⟩) n n)),
      .val (Is (.int .i64 (j : Nat))),
      .val (Mv n A k),
      .val (Is (.int .i64 (i : Nat))),
      .val (AtE 1 (Vv x r k)),
      .val (Vv x r k),
      .val (Mv n A k),
      .val (Is (.int .i64 (j : Nat))),
      .val (AtE 1 (Vv x s k)),
      .val (Vv x s k),
      .val ((ZN (dz r s)) w.heap.size),
      .val (Is (.pointer (some ⟨g, 2 * (i * n + j), none⟩))),
      .put (.inl 1000000) (Gr g 39 2 (gl w.heap.size n (gramF A) (dJ i j)))] [.inr 0] [.inr 0, .inr 1, .inr 2, .inr 3, .inr 4, .inr 5, .inr 6, .inr 7, .inr 8] follows S13 rfl (by kernel_rfl) ?_ ?_
      · refine ⟨⟨⟨⟨⟨⟨⟨⟨⟨⟨⟨⟨⟨⟨⟨⟨trivial, ?_⟩, ?_⟩, ?_⟩, ?_⟩, ?_⟩, ?_⟩, ?_⟩, ?_⟩, ?_⟩, ?_⟩, ?_⟩, ?_⟩, ?_⟩, ?_⟩, ?_⟩, ?_⟩
        · exact owe_move rfl (wants_all rfl) (Or.inl rfl) (opnd_slot 7 7 rfl (by kernel_rfl)) rfl
        · exact owe_move rfl (wants_all rfl) (Or.inl rfl) (opnd_slot 4 8 rfl (by kernel_rfl)) rfl
        · exact owe_aindex rfl (wants_all rfl) rfl idx_rows ((opnd_op 0 41 (by kernel_rfl) rfl).imp tbl_ar) (opnd_op 1 42 (by kernel_rfl) rfl) hget rfl
        · exact owe_aload rfl (wants_all rfl) rfl ldr_row1 (by decide) (cel_is rfl) (opnd_op 2 43 (by kernel_rfl) rfl) rfl
        · exact owe_move rfl (wants_all rfl) (Or.inl rfl) (opnd_slot 0 9 rfl (by kernel_rfl)) rfl
        · exact owe_move rfl (wants_all rfl) (Or.inl rfl) (opnd_slot 8 0 rfl (by kernel_rfl)) rfl
        · exact owe_move rfl (wants_all rfl) (Or.inl rfl) (opnd_slot 4 8 rfl (by kernel_rfl)) rfl
        · exact owe_aindex rfl (wants_all rfl) rfl idx_rows (opnd_op 5 46 (by kernel_rfl) rfl) (opnd_op 6 47 (by kernel_rfl) rfl) hrow rfl
        · exact owe_aload rfl (wants_all rfl) rfl ldr_row1 (by decide) cel_vv (opnd_op 7 48 (by kernel_rfl) rfl) rfl
        · exact owe_move rfl (wants_all rfl) (Or.inl rfl) (opnd_slot 8 0 rfl (by kernel_rfl)) rfl
        · exact owe_move rfl (wants_all rfl) (Or.inl rfl) (opnd_slot 0 9 rfl (by kernel_rfl)) rfl
        · exact owe_aindex rfl (wants_all rfl) rfl idx_rows (opnd_op 9 50 (by kernel_rfl) rfl) (opnd_op 10 51 (by kernel_rfl) rfl) hrow2 rfl
        · exact owe_aload rfl (wants_all rfl) rfl ldr_row1 (by decide) cel_vv (opnd_op 11 52 (by kernel_rfl) rfl) rfl
        · exact owe_callh2 rfl (wants_all rfl) rfl (opnd_op 8 49 (by kernel_rfl) rfl) (opnd_op 12 53 (by kernel_rfl) rfl) (fresh_zn _) rfl (fun args w => by go_simp) (fun w u0 u1 h0 h1 => dot_w w u0 u1 x k k r s h0 h1 hx (by omega))
        · exact owe_kindex rfl (wants_all rfl) rfl idx_ints (opnd_op 3 44 (by kernel_rfl) rfl) (opnd_op 4 45 (by kernel_rfl) rfl) hjn (by omega) rfl
        · exact owe_gstore rfl (wants_all rfl) rfl sto_int (by decide) (opnd_op 14 55 (by kernel_rfl) rfl) (k := 0) rfl (by kernel_rfl) (opnd_op 13 54 (by kernel_rfl) rfl) (cel_shp (by decide) shp_zn) (by rw [gl_len]; omega) (by rw [hset1]; rfl)
      intro B14 a14 W14 S14
      replace S14 : Sta w 73 [(1000000, (Gr g 39 2 (gl w.heap.size n (gramF A) (dJ i j))))] [(9, (Is (.int .i64 (j : Nat)))), (39, (Is (.bool true))), (37, (Is (.int .i64 (i : Nat)))), (38, (Is (.int .i64 (j : Nat)))), (8, (Is (.int .i64 (i : Nat)))), (22, (Is (.int .i64 (n : Nat)))), (23, (Is (.int .i64 (i : Nat)))), (7, ((Tbl n n g) w.heap.size)), (0, (Mv n A k))] B14 a14 W14 := S14
      refine wp_stmt [.val ((Tbl n n g) w.heap.size),
      .val (Is (.int .i64 (j : Nat))),
      .val (AtE 1 (Is (.slice (some ⟨g, off2, none⟩) n n))),
      .val (Is (.slice (some ⟨g, off2, none⟩) n n)),
      .val (Is (.int .i64 (i : Nat))),
      .val ((Tbl n n g) w.heap.size),
      .val (Is (.int .i64 (i : Nat))),
      .val (AtE 1 (Is (.slice (some ⟨g, off, none⟩) n n))),
      .val (Is (.slice (some ⟨g, off, none⟩) n n)),
      .val (Is (.int .i64 (j : Nat))),
      .val (Is (.pointer (some ⟨g, 2 * (i * n + j), none⟩))),
      .val ((ZN (dz r s)) w.heap.size),
      .val ((ZN (dz r s)) w.heap.size),
      .val (Is (.pointer (some ⟨g, 2 * (j * n + i), none⟩))),
      .put (.inl 1000000) (Gr g 39 2 (gl w.heap.size n (gramF A) (dI i (j + 1))))] [.inr 0] [.inr 0, .inr 1, .inr 2, .inr 3, .inr 4, .inr 5, .inr 6, .inr 7, .inr 8] follows S14 rfl (by kernel_rfl) ?_ ?_
      · refine ⟨⟨⟨⟨⟨⟨⟨⟨⟨⟨⟨⟨⟨⟨⟨trivial, ?_⟩, ?_⟩, ?_⟩, ?_⟩, ?_⟩, ?_⟩, ?_⟩, ?_⟩, ?_⟩, ?_⟩, ?_⟩, ?_⟩, ?_⟩, ?_⟩, ?_⟩
        · exact owe_move rfl (wants_all rfl) (Or.inl rfl) (opnd_slot 7 7 rfl (by kernel_rfl)) rfl
        · exact owe_move rfl (wants_all rfl) (Or.inl rfl) (opnd_slot 0 9 rfl (by kernel_rfl)) rfl
        · exact owe_aindex rfl (wants_all rfl) rfl idx_rows ((opnd_op 0 56 (by kernel_rfl) rfl).imp tbl_ar) (opnd_op 1 57 (by kernel_rfl) rfl) hget2 rfl
        · exact owe_aload rfl (wants_all rfl) rfl ldr_row1 (by decide) (cel_is rfl) (opnd_op 2 58 (by kernel_rfl) rfl) rfl
        · exact owe_move rfl (wants_all rfl) (Or.inl rfl) (opnd_slot 4 8 rfl (by kernel_rfl)) rfl
        · exact owe_move rfl (wants_all rfl) (Or.inl rfl) (opnd_slot 7 7 rfl (by kernel_rfl)) rfl
        · exact owe_move rfl (wants_all rfl) (Or.inl rfl) (opnd_slot 4 8 rfl (by kernel_rfl)) rfl
        · exact owe_aindex rfl (wants_all rfl) rfl idx_rows ((opnd_op 5 61 (by kernel_rfl) rfl).imp tbl_ar) (opnd_op 6 62 (by kernel_rfl) rfl) hget rfl
        · exact owe_aload rfl (wants_all rfl) rfl ldr_row1 (by decide) (cel_is rfl) (opnd_op 7 63 (by kernel_rfl) rfl) rfl
        · exact owe_move rfl (wants_all rfl) (Or.inl rfl) (opnd_slot 0 9 rfl (by kernel_rfl)) rfl
        · exact owe_kindex rfl (wants_all rfl) rfl idx_ints (opnd_op 8 64 (by kernel_rfl) rfl) (opnd_op 9 65 (by kernel_rfl) rfl) hjn (by omega) rfl
        · exact owe_gload rfl (wants_all rfl) rfl ldr_int (by decide) (opnd_op 10 66 (by kernel_rfl) rfl) (k := 0) rfl (by kernel_rfl) hget3 rfl
        · exact owe_callh1 rfl (wants_all rfl) rfl (opnd_op 11 67 (by kernel_rfl) rfl) (fresh_zn _) rfl (fun args w => by go_simp) (fun w u0 h0 => (h_zform (by omega)) w u0 ((zn_zv (dD r s (mv_mdl' h.now i r hr) (mv_mdl' h.now j s hsr) (hR i r hr))) _ _ h0.now))
        · exact owe_kindex rfl (wants_all rfl) rfl idx_ints (opnd_op 3 59 (by kernel_rfl) rfl) (opnd_op 4 60 (by kernel_rfl) rfl) hlt (by omega) rfl
        · exact owe_gstore rfl (wants_all rfl) rfl sto_int (by decide) (opnd_op 13 69 (by kernel_rfl) rfl) (k := 0) rfl (by kernel_rfl) (opnd_op 12 68 (by kernel_rfl) rfl) (cel_shp (by decide) shp_zn) (by rw [gl_len]; omega) (by rw [hset2]; rfl)
      intro B15 a15 W15 S15
      replace S15 : Sta w 73 [(1000000, (Gr g 39 2 (gl w.heap.size n (gramF A) (dI i (j + 1)))))] [(9, (Is (.int .i64 (j : Nat)))), (39, (Is (.bool true))), (37, (Is (.int .i64 (i : Nat)))), (38, (Is (.int .i64 (j : Nat)))), (8, (Is (.int .i64 (i : Nat)))), (22, (Is (.int .i64 (n : Nat)))), (23, (Is (.int .i64 (i : Nat)))), (7, ((Tbl n n g) w.heap.size)), (0, (Mv n A k))] B15 a15 W15 := S15
      refine inBlkN ?_
      refine thenN ?_
      refine wp_stmt [.val (Is (.int .i64 (j + 1 : Nat))),
      .val (Is (.int .i64 (j + 1 : Nat)))] [.inr 0] [.inl 1, .inr 0, .inr 1, .inr 2, .inr 4, .inr 5, .inr 6, .inr 7, .inr 8] follows S15 rfl (by kernel_rfl) ?_ ?_
      · refine ⟨⟨trivial, ?_⟩, ?_⟩
        · exact owe_bin rfl (wants_all rfl) rfl (opnd_slot 3 38 rfl (by kernel_rfl)) (opnd_const _) rfl (fun ρ w h1 h2 => by exact run_add_int ρ _ _ _ w _ _ _ ⟨by omega, by omega, by omega⟩ h1 h2)
        · exact owe_move rfl (wants_all rfl) (Or.inl rfl) (opnd_op 0 70 (by kernel_rfl) rfl) rfl
      intro B16 a16 W16 S16
      replace S16 : Sta w 73 [(1000000, (Gr g 39 2 (gl w.heap.size n (gramF A) (dI i (j + 1)))))] [(38, (Is (.int .i64 (j + 1 : Nat)))), (9, (Is (.int .i64 (j : Nat)))), (39, (Is (.bool true))), (37, (Is (.int .i64 (i : Nat)))), (8, (Is (.int .i64 (i : Nat)))), (22, (Is (.int .i64 (n : Nat)))), (23, (Is (.int .i64 (i : Nat)))), (7, ((Tbl n n g) w.heap.size)), (0, (Mv n A k))] B16 a16 W16 := S16
      refine thenN ?_
      exact ⟨j + 1, ⟨by omega, B16, S16.sub [0] [3, 0, 4, 5, 6, 7, 8]⟩, by omega⟩
    · have ej : j = i := by omega
      have hex : gl w.heap.size n (gramF A) (dI i j) = gl w.heap.size n (gramF A) (dO (i + 1)) := gl_ext (fun a b ha hb => decide_eq_decide.2 (by omega))
      rw [hex] at S11
      refine wp_stmt_seq [.val (Is (.bool false))] [.inr 0] [.inl 0, .inr 0, .inr 1, .inr 2, .inr 3, .inr 4, .inr 5, .inr 6] follows S11 rfl (by kernel_rfl) ?_ ?_
      · refine ⟨trivial, ?_⟩
        · exact owe_bin rfl (wants_all rfl) rfl (opnd_slot 1 38 rfl (by kernel_rfl)) (opnd_slot 0 37 rfl (by kernel_rfl)) rfl (fun ρ w h1 h2 => by exact run_lss_int_f ρ _ _ _ w _ _ (by omega) h1 h2)
      intro B12 a12 W12 S12
      replace S12 : Sta w 73 [(1000000, (Gr g 39 2 (gl w.heap.size n (gramF A) (dO (i + 1)))))] [(39, (Is (.bool false))), (37, (Is (.int .i64 (i : Nat)))), (38, (Is (.int .i64 (j : Nat)))), (8, (Is (.int .i64 (i : Nat)))), (22, (Is (.int .i64 (n : Nat)))), (23, (Is (.int .i64 (i : Nat)))), (7, ((Tbl n n g) w.heap.size)), (0, (Mv n A k))] B12 a12 W12 := S12
      refine wp_seq ?_
      refine wp_cond_false (S12.bool 0 39 rfl) ?_
      refine wp_exit ?_
      refine thenX ?_
      refine thenX ?_
      refine inBlkE ?_
      refine inBlkN ?_
      refine thenN ?_
      refine wp_stmt [.val (Is (.int .i64 (i + 1 : Nat))),
      .val (Is (.int .i64 (i + 1 : Nat)))] [.inr 0] [.inl 1, .inr 0, .inr 1, .inr 2, .inr 3, .inr 4, .inr 6, .inr 7] follows S12 rfl (by kernel_rfl) ?_ ?_
      · refine ⟨⟨trivial, ?_⟩, ?_⟩
        · exact owe_bin rfl (wants_all rfl) rfl (opnd_slot 5 23 rfl (by kernel_rfl)) (opnd_const _) rfl (fun ρ w h1 h2 => by exact run_add_int ρ _ _ _ w _ _ _ ⟨by omega, by omega, by omega⟩ h1 h2)
        · exact owe_move rfl (wants_all rfl) (Or.inl rfl) (opnd_op 0 71 (by kernel_rfl) rfl) rfl
      intro B13 a13 W13 S13
      replace S13 : Sta w 73 [(1000000, (Gr g 39 2 (gl w.heap.size n (gramF A) (dO (i + 1)))))] [(23, (Is (.int .i64 (i + 1 : Nat)))), (39, (Is (.bool false))), (37, (Is (.int .i64 (i : Nat)))), (38, (Is (.int .i64 (j : Nat)))), (8, (Is (.int .i64 (i : Nat)))), (22, (Is (.int .i64 (n : Nat)))), (7, ((Tbl n n g) w.heap.size)), (0, (Mv n A k))] B13 a13 W13 := S13
      refine thenN ?_
      exact ⟨i + 1, ⟨by omega, B13, S13.sub [0] [5, 0, 6, 7]⟩, by omega⟩
  · have ei : i = n := by omega
    have hend : gl w.heap.size n (gramF A) (dO i) = (((flat n n (gramF A)).map ZN).map (· w.heap.size)) := gl_all (fun a b ha hb => decide_eq_true (by omega))
    rw [hend] at S6
    refine wp_stmt_seq [.val (Is (.bool false))] [.inr 0] [.inl 0, .inr 0, .inr 1, .inr 2, .inr 3] follows S6 rfl (by kernel_rfl) ?_ ?_
    · refine ⟨trivial, ?_⟩
      · exact owe_bin rfl (wants_all rfl) rfl (opnd_slot 1 23 rfl (by kernel_rfl)) (opnd_slot 0 22 rfl (by kernel_rfl)) rfl (fun ρ w h1 h2 => by exact run_lss_int_f ρ _ _ _ w _ _ (by omega) h1 h2)
    intro B7 a7 W7 S7
    replace S7 : Sta w 73 [(1000000, (Gr g 39 2 ((((flat n n (gramF A)).map ZN).map (· w.heap.size)))))] [(24, (Is (.bool false))), (22, (Is (.int .i64 (n : Nat)))), (23, (Is (.int .i64 (i : Nat)))), (7, ((Tbl n n g) w.heap.size)), (0, (Mv n A k))] B7 a7 W7 := S7
    refine wp_seq ?_
    refine wp_cond_false (S7.bool 0 24 rfl) ?_
    refine wp_exit ?_
    refine thenX ?_
    refine thenX ?_
    refine inBlkE ?_
    refine thenN ?_
    obtain ⟨B8, S8⟩ : ∃ Bq, Sta w 73 [] [(7, ((MN n (grid n n (gramF A))) w.heap.size)), (24, (Is (.bool false))), (22, (Is (.int .i64 (n : Nat)))), (23, (Is (.int .i64 (i : Nat)))), (7, ((Tbl n n g) w.heap.size)), (0, (Mv n A k))] Bq a7 W7 := ⟨_, S7.thaw 0 3 rfl rfl (by simp) (tbl_mn (F := gramF A) (fl := flat n n (gramF A)) hxm (fun i j hi hj => flat_at hi hj))⟩
    obtain ⟨a8, W8, e1, e2⟩ : ∃ a W, a7 = a ∧ W7 = W := ⟨_, _, rfl, rfl⟩
    rw [e1, e2] at S8 ⊢
    clear e1 e2
    refine wp_stmt_seq [.val ((MN n (grid n n (gramF A))) w.heap.size),
      .val ((MN n (grid n n (gramF A))) w.heap.size),
      .val (Is (.int .i64 0))] [] [.inl 1, .inl 2, .inr 0, .inr 1, .inr 2, .inr 3, .inr 4, .inr 5] follows S8 rfl (by kernel_rfl) ?_ ?_
    · refine ⟨⟨⟨trivial, ?_⟩, ?_⟩, ?_⟩
      · exact owe_move rfl (wants_all rfl) (Or.inl rfl) (opnd_slot 0 7 rfl (by kernel_rfl)) rfl
      · exact owe_move rfl (wants_all rfl) (Or.inr rfl) (opnd_op 0 72 (by kernel_rfl) rfl) rfl
      · exact owe_move rfl (wants_all rfl) (Or.inr rfl) (opnd_const _) rfl
    intro B9 a9 W9 S9
    replace S9 : Sta w 73 [] [(2, ((MN n (grid n n (gramF A))) w.heap.size)), (3, (Is (.int .i64 0))), (7, ((MN n (grid n n (gramF A))) w.heap.size)), (24, (Is (.bool false))), (22, (Is (.int .i64 (n : Nat)))), (23, (Is (.int .i64 (i : Nat)))), (7, ((Tbl n n g) w.heap.size)), (0, (Mv n A k))] B9 a9 W9 := S9
    refine wp_ret ?_
    exact end_two S9 rfl (res_tmp S9 0 2 rfl) (res_tmp S9 1 3 rfl)

set_option maxHeartbeats 400000 in
theorem gram_n (w : World) (u : Value) (n k : Nat) (A : List (List Int)) (h : Hs w (Mv n A k) u) (hn : n ≤ 1048576) (hR : ¬ reg A = true) :
    Calls Try.prog 46 #[u] w (Gives (TWO (IS (.slice none 0 0)) (IS (.int .i64 8))) w) := by
  refine calls_sta (sl := [(0, (Mv n A k))]) Try.func46 rfl Try.ntmps46 (by simp) (args_cons rfl (h) args_nil) ?_
  intro a0 S0
  refine wp_stmt_seq [.val (Is (.slice none 0 0)),
      .val (Is (.int .i64 0))] [] [.inl 0, .inl 1, .inr 0] follows S0 rfl (by kernel_rfl) ?_ ?_
  · refine ⟨⟨trivial, ?_⟩, ?_⟩
    · exact owe_move rfl (wants_all rfl) (Or.inr rfl) (opnd_const _) rfl
    · exact owe_move rfl (wants_all rfl) (Or.inr rfl) (opnd_const _) rfl
  intro B1 a1 W1 S1
  replace S1 : Sta w 73 [] [(2, (Is (.slice none 0 0))), (3, (Is (.int .i64 0))), (0, (Mv n A k))] B1 a1 W1 := S1
  refine wp_stmt_seq [.val (Mv n A k),
      .val ((THREE (IS (.int .i64 0)) (IS (.int .i64 0)) (IS (.int .i64 8))) w.heap.size),
      .val ((THREE (IS (.int .i64 0)) (IS (.int .i64 0)) (IS (.int .i64 8))) w.heap.size),
      .val (Is (.int .i64 0)),
      .val (Is (.int .i64 0)),
      .val (Is (.int .i64 8)),
      .val (Is (.int .i64 0)),
      .val (Is (.int .i64 0)),
      .val (Is (.int .i64 8))] [] [.inl 6, .inl 8, .inr 0, .inr 1, .inr 2] follows S1 rfl (by kernel_rfl) ?_ ?_
  · refine ⟨⟨⟨⟨⟨⟨⟨⟨⟨trivial, ?_⟩, ?_⟩, ?_⟩, ?_⟩, ?_⟩, ?_⟩, ?_⟩, ?_⟩, ?_⟩
    · exact owe_move rfl (wants_all rfl) (Or.inl rfl) (opnd_slot 2 0 rfl (by kernel_rfl)) rfl
    · exact owe_callh1 rfl (wants_all rfl) rfl (opnd_op 0 11 (by kernel_rfl) rfl) (fresh_three (fresh_is _) (fresh_is _) (fresh_is _)) rfl (fun args w => by go_simp) (fun w u h => h_shape_n w u n _ _ h (by omega) hR)
    · exact owe_move rfl (wants_all rfl) (Or.inl rfl) (opnd_op 1 12 (by kernel_rfl) rfl) rfl
    · exact owe_ext3 rfl (wants_all rfl) rfl (opnd_op 2 10 (by kernel_rfl) rfl) (Or.inl ⟨rfl, rfl⟩) rfl
    · exact owe_ext3 rfl (wants_all rfl) rfl (opnd_op 2 10 (by kernel_rfl) rfl) (Or.inr (Or.inl ⟨rfl, rfl⟩)) rfl
    · exact owe_ext3 rfl (wants_all rfl) rfl (opnd_op 2 10 (by kernel_rfl) rfl) (Or.inr (Or.inr ⟨rfl, rfl⟩)) rfl
    · exact owe_move rfl (wants_all rfl) (Or.inr rfl) (opnd_op 3 13 (by kernel_rfl) rfl) rfl
    · exact owe_move rfl (wants_all rfl) (Or.inr rfl) (opnd_op 4 14 (by kernel_rfl) rfl) rfl
    · exact owe_move rfl (wants_all rfl) (Or.inr rfl) (opnd_op 5 15 (by kernel_rfl) rfl) rfl
  intro B2 a2 W2 S2
  replace S2 : Sta w 73 [] [(4, (Is (.int .i64 0))), (6, (Is (.int .i64 8))), (2, (Is (.slice none 0 0))), (3, (Is (.int .i64 0))), (0, (Mv n A k))] B2 a2 W2 := S2
  refine wp_seq ?_
  refine wp_stmt_seq [.val (Is (.int .i64 8)),
      .val (Is (.bool true))] [] [.inl 1, .inr 0, .inr 1, .inr 2, .inr 3, .inr 4] follows S2 rfl (by kernel_rfl) ?_ ?_
  · refine ⟨⟨trivial, ?_⟩, ?_⟩
    · exact owe_move rfl (wants_all rfl) (Or.inl rfl) (opnd_slot 1 6 rfl (by kernel_rfl)) rfl
    · exact owe_bin rfl (wants_all rfl) rfl (opnd_op 0 16 (by kernel_rfl) rfl) (opnd_const _) rfl (fun ρ w h1 h2 => by exact run_neq_errno_t ρ _ _ _ w _ _ (by omega) h1 h2)
  intro B3 a3 W3 S3
  replace S3 : Sta w 73 [] [(17, (Is (.bool true))), (4, (Is (.int .i64 0))), (6, (Is (.int .i64 8))), (2, (Is (.slice none 0 0))), (3, (Is (.int .i64 0))), (0, (Mv n A k))] B3 a3 W3 := S3
  refine wp_cond_true (S3.bool 0 17 rfl) ?_
  refine wp_stmt_seq [.val (Is (.int .i64 8)),
      .val (Is (.slice none 0 0)),
      .val (Is (.int .i64 8))] [] [.inl 1, .inl 2, .inr 0, .inr 1, .inr 2, .inr 5] follows S3 rfl (by kernel_rfl) ?_ ?_
  · refine ⟨⟨⟨trivial, ?_⟩, ?_⟩, ?_⟩
    · exact owe_move rfl (wants_all rfl) (Or.inl rfl) (opnd_slot 2 6 rfl (by kernel_rfl)) rfl
    · exact owe_move rfl (wants_all rfl) (Or.inr rfl) (opnd_const _) rfl
    · exact owe_move rfl (wants_all rfl) (Or.inr rfl) (opnd_op 0 18 (by kernel_rfl) rfl) rfl
  intro B4 a4 W4 S4
  replace S4 : Sta w 73 [] [(2, (Is (.slice none 0 0))), (3, (Is (.int .i64 8))), (17, (Is (.bool true))), (4, (Is (.int .i64 0))), (6, (Is (.int .i64 8))), (0, (Mv n A k))] B4 a4 W4 := S4
  refine wp_ret ?_
  refine thenR ?_
  exact end_two S4 rfl (res_tmp S4 0 2 rfl) (res_tmp S4 1 3 rfl)


def turnE (A : List (List Int)) : List (List Int) := if reg A then turnZ A (wd A) else []
def turnN (A : List (List Int)) : Nat := if reg A then wd A else 0
def gramE (A : List (List Int)) : List (List Int) := if reg A then gramZ A else []
def gramN (A : List (List Int)) : Nat := if reg A then A.length else 0

theorem h_turn (w : World) (u : Value) (n k : Nat) (A : List (List Int)) (h : Hs w (Mv n A k) u) (hn : n ≤ 1048576) (hs : k ≤ 536870912) (hL : Ml A 1048576) : Calls Try.prog 44 #[u] w (Gives (TWO (MN (turnN A) (turnE A)) (IS (.int .i64 (errB (reg A))))) w) := by
  have hA := mv_len h.now
  by_cases e : reg A = true
  · simp only [turnN, turnE, errB, e, if_true]
    rw [← grid_turn hA]
    exact turn_y w u n k A h hn (wd A) (ml_wd hL) (reg_y e) (fun h => wd_zero (by omega)) hs
  · simp only [turnN, turnE, errB, e, Bool.false_eq_true, if_false]
    exact give_two (turn_n w u n k A h hn e) nil_mn' (fun _ _ _ h => h)

theorem h_rturn (w : World) (u : Value) (n k : Nat) (A : List (List Int)) (h : Hs w (Mv n A k) u) (hn : n ≤ 1048576) (hs : k ≤ 536870912) (hL : Ml A 1048576) : Calls Try.prog 45 #[u] w (Gives (TWO (MN (turnN A) (turnE A)) (IS (.int .i64 (errB (reg A))))) w) := by
  have hA := mv_len h.now
  by_cases e : reg A = true
  · simp only [turnN, turnE, errB, e, if_true]
    exact rturn_y w u n k A h hn (wd A) (ml_wd hL) (reg_y e) (fun h => wd_zero (by omega)) hs
  · simp only [turnN, turnE, errB, e, Bool.false_eq_true, if_false]
    exact give_two (rturn_n w u n k A h hn e) nil_mn' (fun _ _ _ h => h)

theorem h_gram (w : World) (u : Value) (n k : Nat) (A : List (List Int)) (h : Hs w (Mv n A k) u) (hn : n ≤ 1048576) (hs : k ≤ 536870912) (hL : Ml A 1048576) : Calls Try.prog 46 #[u] w (Gives (TWO (MN (gramN A) (gramE A)) (IS (.int .i64 (errB (reg A))))) w) := by
  have hA := mv_len h.now
  by_cases e : reg A = true
  · simp only [gramN, gramE, errB, e, if_true, hA]
    rw [← grid_gram hA]
    exact gram_y w u n k A h hn (wd A) (ml_wd hL) (reg_y e) (fun h => wd_zero (by omega)) hs
  · simp only [gramN, gramE, errB, e, Bool.false_eq_true, if_false]
    exact give_two (gram_n w u n k A h hn e) nil_mn' (fun _ _ _ h => h)

theorem h_rgram (w : World) (u : Value) (n k : Nat) (A : List (List Int)) (h : Hs w (Mv n A k) u) (hn : n ≤ 1048576) (hs : k ≤ 536870912) (hL : Ml A 1048576) : Calls Try.prog 47 #[u] w (Gives (TWO (MN (gramN A) (gramE A)) (IS (.int .i64 (errB (reg A))))) w) := by
  have hA := mv_len h.now
  by_cases e : reg A = true
  · simp only [gramN, gramE, errB, e, if_true, hA]
    exact rgram_y w u n k A h hn (wd A) (ml_wd hL) (reg_y e) (fun h => wd_zero (by omega)) hs
  · simp only [gramN, gramE, errB, e, Bool.false_eq_true, if_false]
    exact give_two (rgram_n w u n k A h hn e) nil_mn' (fun _ _ _ h => h)

end Go.Proofs.Ytiehipnaklkhjaa
