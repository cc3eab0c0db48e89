import Derived.Test.YtdhjgekbocnnkaaDoorMProd
/-
  Turn, Gram: mat's and the document's.
-/
namespace Go.Proofs.YtdhjgekbocnnkaaDoor
open Go Go.RowKit Nt
set_option linter.unusedSimpArgs false
set_option linter.unusedVariables false
set_option maxRecDepth 20000

set_option maxHeartbeats 400000 in
theorem turn1_w (w : World) (c : Value) (n k x i j : Nat) (A : List (List Int)) (r : List Int) (y : Int) (h : Hs w (AtE 1 (Mv n A k)) c) (hr : A[j]? = some r) (hR : Reg A x) (hy : r[i]? = some y) (hs : k ≤ 1073741824) :
    Calls Tryd.prog 39 #[.int .i64 (i : Nat), .int .i64 (j : Nat), c] w (Gives (ZN (y)) w) := by
  have hrow := row_at (k := k) hr hR
  refine calls_sta (sl := [(0, (Is (.int .i64 (i : Nat)))), (1, (Is (.int .i64 (j : Nat)))), (2, (AtE 1 (Mv n A k)))]) Tryd.func39 rfl Tryd.ntmps39 (by simp) (args_cons rfl (is_has _) (args_cons rfl (is_has _) (args_cons rfl (h) args_nil))) ?_
  intro a0 S0
  refine wp_stmt_seq [.new (.box 36 (Is (.agg #[.bool false, .slice none 0 0])))] [.inl 0] [.inr 0, .inr 1, .inr 2] follows S0 rfl (by kernel_rfl) ?_ ?_
  · refine ⟨trivial, ?_⟩
    · exact owe_new rfl (wants_all rfl) rfl rfl (fun ρ w => alloc_int ρ _ w)
  intro B1 a1 W1 S1
  replace S1 : Sta w 14 [(5, (.box 36 (Is (.agg #[.bool false, .slice none 0 0]))))] [(0, (Is (.int .i64 (i : Nat)))), (1, (Is (.int .i64 (j : Nat)))), (2, (AtE 1 (Mv n A k)))] B1 a1 W1 := S1
  refine wp_stmt_seq [.val (Mv n A k),
      .val (Is (.int .i64 (j : Nat))),
      .val (AtE 1 (Vv x r k)),
      .val (Vv x r k),
      .val (Is (.int .i64 (i : Nat))),
      .val (AtE 2 (Zv y k)),
      .val (Zv y k),
      .val ((ZN (y)) w.heap.size),
      .put (.inl 5) (.box 36 ((ZN (y)) w.heap.size))] [.inr 0] [] follows S1 rfl (by kernel_rfl) ?_ ?_
  · refine ⟨⟨⟨⟨⟨⟨⟨⟨⟨trivial, ?_⟩, ?_⟩, ?_⟩, ?_⟩, ?_⟩, ?_⟩, ?_⟩, ?_⟩, ?_⟩
    · exact owe_aload rfl (wants_all rfl) rfl ldr_mat1 (by decide) cel_ar (opnd_slot 2 2 rfl (by kernel_rfl)) rfl
    · exact owe_move rfl (wants_all rfl) (Or.inl rfl) (opnd_slot 1 1 rfl (by kernel_rfl)) rfl
    · exact owe_aindex rfl (wants_all rfl) rfl idx_rows (opnd_op 0 6 (by kernel_rfl) rfl) (opnd_op 1 7 (by kernel_rfl) rfl) hrow rfl
    · exact owe_aload rfl (wants_all rfl) rfl ldr_row1 (by decide) cel_vv (opnd_op 2 8 (by kernel_rfl) rfl) rfl
    · exact owe_move rfl (wants_all rfl) (Or.inl rfl) (opnd_slot 0 0 rfl (by kernel_rfl)) rfl
    · exact owe_aindex rfl (wants_all rfl) rfl idx_ints (opnd_op 3 9 (by kernel_rfl) rfl) (opnd_op 4 10 (by kernel_rfl) rfl) (map_get' _ hy) rfl
    · exact owe_aload rfl (wants_all rfl) rfl ldr_int (by decide) (cel_shp (by decide) shp_zv) (opnd_op 5 11 (by kernel_rfl) rfl) rfl
    · exact owe_callh1 rfl (wants_all rfl) rfl (opnd_op 6 12 (by kernel_rfl) rfl) (fresh_zn _) rfl (fun args w => by go_simp) (fun w u0 h0 => (h_zform (by omega)) w u0 ((fun _ _ h => h) _ _ h0.now))
    · exact owe_set rfl (wants_all rfl) rfl (k := 0) rfl (by kernel_rfl) (opnd_op 7 13 (by kernel_rfl) rfl) (stores_of strct_int shp_z0 shp_zn) rfl
  intro B2 a2 W2 S2
  replace S2 : Sta w 14 [(5, (.box 36 ((ZN (y)) w.heap.size)))] [] B2 a2 W2 := S2
  refine wp_ret ?_
  exact end_one S2 rfl (res_cell S2 0 5 rfl strct_int shp_zn)

set_option maxHeartbeats 400000 in
theorem turn_y (w : World) (u : Value) (n k : Nat) (A : List (List Int)) (h : Hs w (Mv n A k) u) (hn : n ≤ 1048576) (x : Nat) (hx : x ≤ 1048576) (hR : Reg A x) (h0A : n = 0 → x = 0) (hs : k ≤ 536870912) :
    Calls Tryd.prog 18 #[u] w (Gives (TWO (MN x (grid x n (turnF A))) (IS (.int .i64 0))) w) := by
  have hA := mv_len h.now
  refine calls_sta (sl := [(0, (Mv n A k))]) Tryd.func18 rfl Tryd.ntmps18 (by simp) (args_cons rfl (h) args_nil) ?_
  intro a0 S0
  refine wp_stmt_seq [.new (.box 22 (Mv n A k)),
      .val (Is (.slice none 0 0)),
      .val (Is (.int .i64 0))] [.inl 0] [.inl 1, .inl 2] follows S0 rfl (by kernel_rfl) ?_ ?_
  · refine ⟨⟨⟨trivial, ?_⟩, ?_⟩, ?_⟩
    · exact owe_box rfl (wants_all rfl) rfl (opnd_slot 0 0 rfl (by kernel_rfl)) rfl (fun ρ w h => bx1_mat ρ _ _ w (cel_ar _ _ h))
    · exact owe_move rfl (wants_all rfl) (Or.inr rfl) (opnd_const _) rfl
    · exact owe_move rfl (wants_all rfl) (Or.inr rfl) (opnd_const _) rfl
  intro B1 a1 W1 S1
  replace S1 : Sta w 20 [(1, (.box 22 (Mv n A k)))] [(2, (Is (.slice none 0 0))), (3, (Is (.int .i64 0)))] B1 a1 W1 := S1
  refine wp_stmt_seq [.val (Mv n A k),
      .val ((THREE (IS (.int .i64 (n : Nat))) (IS (.int .i64 (x : Nat))) (IS (.int .i64 0))) w.heap.size),
      .val ((THREE (IS (.int .i64 (n : Nat))) (IS (.int .i64 (x : Nat))) (IS (.int .i64 0))) w.heap.size),
      .val (Is (.int .i64 (n : Nat))),
      .val (Is (.int .i64 (x : Nat))),
      .val (Is (.int .i64 0)),
      .val (Is (.int .i64 (n : Nat))),
      .val (Is (.int .i64 (x : Nat))),
      .val (Is (.int .i64 0))] [.inr 0] [.inl 6, .inl 7, .inl 8, .inr 0, .inr 1] follows S1 rfl (by kernel_rfl) ?_ ?_
  · refine ⟨⟨⟨⟨⟨⟨⟨⟨⟨trivial, ?_⟩, ?_⟩, ?_⟩, ?_⟩, ?_⟩, ?_⟩, ?_⟩, ?_⟩, ?_⟩
    · exact owe_load rfl (wants_all rfl) rfl (k := 0) rfl (by kernel_rfl) (loads_ldr ldr_mat1 cel_ar) rfl
    · exact owe_callh1 rfl (wants_all rfl) rfl (opnd_op 0 8 (by kernel_rfl) rfl) (fresh_three (fresh_is _) (fresh_is _) (fresh_is _)) rfl (fun args w => by go_simp) (fun w u h => h_shape_y w u n _ x _ h (by omega) hR h0A)
    · exact owe_move rfl (wants_all rfl) (Or.inl rfl) (opnd_op 1 9 (by kernel_rfl) rfl) rfl
    · exact owe_ext3 rfl (wants_all rfl) rfl (opnd_op 2 7 (by kernel_rfl) rfl) (Or.inl ⟨rfl, rfl⟩) rfl
    · exact owe_ext3 rfl (wants_all rfl) rfl (opnd_op 2 7 (by kernel_rfl) rfl) (Or.inr (Or.inl ⟨rfl, rfl⟩)) rfl
    · exact owe_ext3 rfl (wants_all rfl) rfl (opnd_op 2 7 (by kernel_rfl) rfl) (Or.inr (Or.inr ⟨rfl, rfl⟩)) rfl
    · exact owe_move rfl (wants_all rfl) (Or.inr rfl) (opnd_op 3 10 (by kernel_rfl) rfl) rfl
    · exact owe_move rfl (wants_all rfl) (Or.inr rfl) (opnd_op 4 11 (by kernel_rfl) rfl) rfl
    · exact owe_move rfl (wants_all rfl) (Or.inr rfl) (opnd_op 5 12 (by kernel_rfl) rfl) rfl
  intro B2 a2 W2 S2
  replace S2 : Sta w 20 [(1, (.box 22 (Mv n A k)))] [(4, (Is (.int .i64 (n : Nat)))), (5, (Is (.int .i64 (x : Nat)))), (6, (Is (.int .i64 0))), (2, (Is (.slice none 0 0))), (3, (Is (.int .i64 0)))] B2 a2 W2 := S2
  refine wp_seq ?_
  refine wp_stmt_seq [.val (Is (.int .i64 0)),
      .val (Is (.bool false))] [.inr 0] [.inl 1, .inr 0, .inr 1, .inr 2, .inr 3, .inr 4] follows S2 rfl (by kernel_rfl) ?_ ?_
  · refine ⟨⟨trivial, ?_⟩, ?_⟩
    · exact owe_move rfl (wants_all rfl) (Or.inl rfl) (opnd_slot 2 6 rfl (by kernel_rfl)) rfl
    · exact owe_bin rfl (wants_all rfl) rfl (opnd_op 0 13 (by kernel_rfl) rfl) (opnd_const _) rfl (fun ρ w h1 h2 => by exact run_neq_errno_f ρ _ _ _ w _ _ (by omega) h1 h2)
  intro B3 a3 W3 S3
  replace S3 : Sta w 20 [(1, (.box 22 (Mv n A k)))] [(14, (Is (.bool false))), (4, (Is (.int .i64 (n : Nat)))), (5, (Is (.int .i64 (x : Nat)))), (6, (Is (.int .i64 0))), (2, (Is (.slice none 0 0))), (3, (Is (.int .i64 0)))] B3 a3 W3 := S3
  refine wp_cond_false (S3.bool 0 14 rfl) ?_
  refine wp_skip ?_
  refine thenN ?_
  obtain ⟨B4, S4⟩ : ∃ Bq, Sta w 20 [] [(1, (AtE 1 (Mv n A k))), (14, (Is (.bool false))), (4, (Is (.int .i64 (n : Nat)))), (5, (Is (.int .i64 (x : Nat)))), (6, (Is (.int .i64 0))), (2, (Is (.slice none 0 0))), (3, (Is (.int .i64 0)))] Bq a3 W3 := ⟨_, S3.freezeBox 0 rfl (by simp) cel_ar⟩
  obtain ⟨a4, W4, e1, e2⟩ : ∃ a W, a3 = a ∧ W3 = W := ⟨_, _, rfl, rfl⟩
  rw [e1, e2] at S4 ⊢
  clear e1 e2
  refine wp_stmt_seq [.val (Is (.int .i64 (x : Nat))),
      .val (Is (.int .i64 (n : Nat))),
      .val (Fn2 ((List.range (x * n)).map (fun p => Is (.int .i64 ((p / n : Nat) : Int)))) ((List.range (x * n)).map (fun p => Is (.int .i64 ((p % n : Nat) : Int)))) ((flat x n (turnF A)).map ZN)),
      .val ((MN x (grid x n (turnF A))) w.heap.size),
      .val ((MN x (grid x n (turnF A))) w.heap.size),
      .val (Is (.int .i64 0))] [] [.inl 4, .inl 5, .inr 0, .inr 1, .inr 4] follows S4 rfl (by kernel_rfl) ?_ ?_
  · refine ⟨⟨⟨⟨⟨⟨trivial, ?_⟩, ?_⟩, ?_⟩, ?_⟩, ?_⟩, ?_⟩
    · exact owe_move rfl (wants_all rfl) (Or.inl rfl) (opnd_slot 3 5 rfl (by kernel_rfl)) rfl
    · exact owe_move rfl (wants_all rfl) (Or.inl rfl) (opnd_slot 2 4 rfl (by kernel_rfl)) rfl
    · exact owe_mkfn2 rfl (wants_all rfl) rfl (opnd_slot 0 1 rfl (by kernel_rfl)) rfl (fun args w => by go_simp) (fun i φ φ' ψ h1 h2 h3 w u v c hu hv hc => by obtain ⟨a, b, ha, hb, rfl, rfl, rfl⟩ := fn_grid h1 h2 h3; obtain rfl : u = _ := hu.now; obtain rfl : v = _ := hv.now; obtain ⟨r, hr⟩ : ∃ r, A[b]? = some r := ⟨A[b]'(by omega), List.getElem?_eq_getElem _⟩; have hlt : a < r.length := (by rw [hR b r hr]; exact ha); rw [show turnF A a b = r[a]'hlt from (by show (A.getD b []).getD a 0 = _; rw [List.getD_eq_getElem?_getD (l := A), hr]; show r.getD a 0 = _; rw [List.getD_eq_getElem?_getD, List.getElem?_eq_getElem hlt]; rfl)]; exact turn1_w w c n k x a b A r _ hc hr hR (List.getElem?_eq_getElem hlt) (by omega))
    · exact owe_callh3 rfl (wants_all rfl) rfl (opnd_op 0 16 (by kernel_rfl) rfl) (opnd_op 1 17 (by kernel_rfl) rfl) (opnd_op 2 18 (by kernel_rfl) rfl) fresh_mn rfl (fun args w => by go_simp) (fun w u0 u1 u2 h0 h1 h2 => by obtain rfl : u0 = _ := h0.now; obtain rfl : u1 = _ := h1.now; exact filled_w w u2 x n (turnF A) h2 hx hn)
    · exact owe_move rfl (wants_all rfl) (Or.inr rfl) (opnd_op 3 19 (by kernel_rfl) rfl) rfl
    · exact owe_move rfl (wants_all rfl) (Or.inr rfl) (opnd_const _) rfl
  intro B5 a5 W5 S5
  replace S5 : Sta w 20 [] [(2, ((MN x (grid x n (turnF A))) w.heap.size)), (3, (Is (.int .i64 0))), (1, (AtE 1 (Mv n A k))), (14, (Is (.bool false))), (6, (Is (.int .i64 0)))] B5 a5 W5 := S5
  refine wp_ret ?_
  exact end_two S5 rfl (res_tmp S5 0 2 rfl) (res_tmp S5 1 3 rfl)

set_option maxHeartbeats 400000 in
theorem turn_n (w : World) (u : Value) (n k : Nat) (A : List (List Int)) (h : Hs w (Mv n A k) u) (hn : n ≤ 1048576) (hR : ¬ reg A = true) :
    Calls Tryd.prog 18 #[u] w (Gives (TWO (IS (.slice none 0 0)) (IS (.int .i64 8))) w) := by
  refine calls_sta (sl := [(0, (Mv n A k))]) Tryd.func18 rfl Tryd.ntmps18 (by simp) (args_cons rfl (h) args_nil) ?_
  intro a0 S0
  refine wp_stmt_seq [.new (.box 22 (Mv n A k)),
      .val (Is (.slice none 0 0)),
      .val (Is (.int .i64 0))] [.inl 0] [.inl 1, .inl 2] follows S0 rfl (by kernel_rfl) ?_ ?_
  · refine ⟨⟨⟨trivial, ?_⟩, ?_⟩, ?_⟩
    · exact owe_box rfl (wants_all rfl) rfl (opnd_slot 0 0 rfl (by kernel_rfl)) rfl (fun ρ w h => bx1_mat ρ _ _ w (cel_ar _ _ h))
    · exact owe_move rfl (wants_all rfl) (Or.inr rfl) (opnd_const _) rfl
    · exact owe_move rfl (wants_all rfl) (Or.inr rfl) (opnd_const _) rfl
  intro B1 a1 W1 S1
  replace S1 : Sta w 20 [(1, (.box 22 (Mv n A k)))] [(2, (Is (.slice none 0 0))), (3, (Is (.int .i64 0)))] B1 a1 W1 := S1
  refine wp_stmt_seq [.val (Mv n A k),
      .val ((THREE (IS (.int .i64 0)) (IS (.int .i64 0)) (IS (.int .i64 8))) w.heap.size),
      .val ((THREE (IS (.int .i64 0)) (IS (.int .i64 0)) (IS (.int .i64 8))) w.heap.size),
      .val (Is (.int .i64 0)),
      .val (Is (.int .i64 0)),
      .val (Is (.int .i64 8)),
      .val (Is (.int .i64 0)),
      .val (Is (.int .i64 0)),
      .val (Is (.int .i64 8))] [.inr 0] [.inl 6, .inl 7, .inl 8, .inr 0, .inr 1] follows S1 rfl (by kernel_rfl) ?_ ?_
  · refine ⟨⟨⟨⟨⟨⟨⟨⟨⟨trivial, ?_⟩, ?_⟩, ?_⟩, ?_⟩, ?_⟩, ?_⟩, ?_⟩, ?_⟩, ?_⟩
    · exact owe_load rfl (wants_all rfl) rfl (k := 0) rfl (by kernel_rfl) (loads_ldr ldr_mat1 cel_ar) rfl
    · exact owe_callh1 rfl (wants_all rfl) rfl (opnd_op 0 8 (by kernel_rfl) rfl) (fresh_three (fresh_is _) (fresh_is _) (fresh_is _)) rfl (fun args w => by go_simp) (fun w u h => h_shape_n w u n _ _ h (by omega) hR)
    · exact owe_move rfl (wants_all rfl) (Or.inl rfl) (opnd_op 1 9 (by kernel_rfl) rfl) rfl
    · exact owe_ext3 rfl (wants_all rfl) rfl (opnd_op 2 7 (by kernel_rfl) rfl) (Or.inl ⟨rfl, rfl⟩) rfl
    · exact owe_ext3 rfl (wants_all rfl) rfl (opnd_op 2 7 (by kernel_rfl) rfl) (Or.inr (Or.inl ⟨rfl, rfl⟩)) rfl
    · exact owe_ext3 rfl (wants_all rfl) rfl (opnd_op 2 7 (by kernel_rfl) rfl) (Or.inr (Or.inr ⟨rfl, rfl⟩)) rfl
    · exact owe_move rfl (wants_all rfl) (Or.inr rfl) (opnd_op 3 10 (by kernel_rfl) rfl) rfl
    · exact owe_move rfl (wants_all rfl) (Or.inr rfl) (opnd_op 4 11 (by kernel_rfl) rfl) rfl
    · exact owe_move rfl (wants_all rfl) (Or.inr rfl) (opnd_op 5 12 (by kernel_rfl) rfl) rfl
  intro B2 a2 W2 S2
  replace S2 : Sta w 20 [(1, (.box 22 (Mv n A k)))] [(4, (Is (.int .i64 0))), (5, (Is (.int .i64 0))), (6, (Is (.int .i64 8))), (2, (Is (.slice none 0 0))), (3, (Is (.int .i64 0)))] B2 a2 W2 := S2
  refine wp_seq ?_
  refine wp_stmt_seq [.val (Is (.int .i64 8)),
      .val (Is (.bool true))] [.inr 0] [.inl 1, .inr 0, .inr 1, .inr 2, .inr 3, .inr 4] follows S2 rfl (by kernel_rfl) ?_ ?_
  · refine ⟨⟨trivial, ?_⟩, ?_⟩
    · exact owe_move rfl (wants_all rfl) (Or.inl rfl) (opnd_slot 2 6 rfl (by kernel_rfl)) rfl
    · exact owe_bin rfl (wants_all rfl) rfl (opnd_op 0 13 (by kernel_rfl) rfl) (opnd_const _) rfl (fun ρ w h1 h2 => by exact run_neq_errno_t ρ _ _ _ w _ _ (by omega) h1 h2)
  intro B3 a3 W3 S3
  replace S3 : Sta w 20 [(1, (.box 22 (Mv n A k)))] [(14, (Is (.bool true))), (4, (Is (.int .i64 0))), (5, (Is (.int .i64 0))), (6, (Is (.int .i64 8))), (2, (Is (.slice none 0 0))), (3, (Is (.int .i64 0)))] B3 a3 W3 := S3
  refine wp_cond_true (S3.bool 0 14 rfl) ?_
  refine wp_stmt_seq [.val (Is (.int .i64 8)),
      .val (Is (.slice none 0 0)),
      .val (Is (.int .i64 8))] [.inr 0] [.inl 1, .inl 2, .inr 0, .inr 1, .inr 2, .inr 3] follows S3 rfl (by kernel_rfl) ?_ ?_
  · refine ⟨⟨⟨trivial, ?_⟩, ?_⟩, ?_⟩
    · exact owe_move rfl (wants_all rfl) (Or.inl rfl) (opnd_slot 3 6 rfl (by kernel_rfl)) rfl
    · exact owe_move rfl (wants_all rfl) (Or.inr rfl) (opnd_const _) rfl
    · exact owe_move rfl (wants_all rfl) (Or.inr rfl) (opnd_op 0 15 (by kernel_rfl) rfl) rfl
  intro B4 a4 W4 S4
  replace S4 : Sta w 20 [(1, (.box 22 (Mv n A k)))] [(2, (Is (.slice none 0 0))), (3, (Is (.int .i64 8))), (14, (Is (.bool true))), (4, (Is (.int .i64 0))), (5, (Is (.int .i64 0))), (6, (Is (.int .i64 8)))] B4 a4 W4 := S4
  refine wp_ret ?_
  refine thenR ?_
  exact end_two S4 rfl (res_tmp S4 0 2 rfl) (res_tmp S4 1 3 rfl)

end Go.Proofs.YtdhjgekbocnnkaaDoor

/-
  Gram: mat's.
-/
namespace Go.Proofs.YtdhjgekbocnnkaaDoor
open Go Go.RowKit Nt
set_option linter.unusedSimpArgs false
set_option linter.unusedVariables false
set_option maxRecDepth 20000

def turnE (A : List (List Int)) : List (List Int) := if reg A then turnZ A (wd A) else []
def turnN (A : List (List Int)) : Nat := if reg A then wd A else 0
def gramE (A : List (List Int)) : List (List Int) := if reg A then gramZ A else []
def gramN (A : List (List Int)) : Nat := if reg A then A.length else 0

theorem h_turn (w : World) (u : Value) (n k : Nat) (A : List (List Int)) (h : Hs w (Mv n A k) u) (hn : n ≤ 1048576) (hs : k ≤ 536870912) (hL : Ml A 1048576) : Calls Tryd.prog 18 #[u] w (Gives (TWO (MN (turnN A) (turnE A)) (IS (.int .i64 (errB (reg A))))) w) := by
  have hA := mv_len h.now
  by_cases e : reg A = true
  · simp only [turnN, turnE, errB, e, if_true]
    rw [← grid_turn hA]
    exact turn_y w u n k A h hn (wd A) (ml_wd hL) (reg_y e) (fun h => wd_zero (by omega)) hs
  · simp only [turnN, turnE, errB, e, Bool.false_eq_true, if_false]
    exact give_two (turn_n w u n k A h hn e) nil_mn' (fun _ _ _ h => h)

end Go.Proofs.YtdhjgekbocnnkaaDoor
