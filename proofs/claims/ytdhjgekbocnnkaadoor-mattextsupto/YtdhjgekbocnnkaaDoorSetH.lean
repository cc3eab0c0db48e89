import Derived.Test.YtdhjgekbocnnkaaDoorMArgs
import Derived.Test.YtdhjgekbocnnkaaDoorSetV
/-
  Matrices: copies, whether two are the same: the laws' own.
-/
namespace Go.Proofs.YtdhjgekbocnnkaaDoor
open Go Go.RowKit Nt
set_option linter.unusedSimpArgs false
set_option linter.unusedVariables false
set_option maxRecDepth 20000

set_option maxHeartbeats 400000 in
theorem ownm_w (w : World) (u : Value) (n : Nat) (ess : List (List El)) (h : Hs w (Mx n ess) u) (hn : n ≤ 1048576) (hL : Ml ess 1048576) (hC : Me ess El.c 35184372087808) :
    Calls Tryd.prog 7 #[u] w (Gives (MO n ess) w) := by
  have hA : ess.length = n := by obtain ⟨p, c, _, hl, _⟩ := h.now; simpa using hl
  refine calls_sta (sl := [(0, (Mx n ess))]) Tryd.func7 rfl Tryd.ntmps7 (by simp) (args_cons rfl (h) args_nil) ?_
  intro a0 S0
  refine wp_stmt_seq [.val (Is (.slice none 0 0))] [] [.inl 0, .inr 0] follows S0 rfl (by kernel_rfl) ?_ ?_
  · refine ⟨trivial, ?_⟩
    · exact owe_move rfl (wants_all rfl) (Or.inr rfl) (opnd_const _) rfl
  intro B1 a1 W1 S1
  replace S1 : Sta w 20 [] [(2, (Is (.slice none 0 0))), (0, (Mx n ess))] B1 a1 W1 := S1
  refine wp_stmt_seq [.new (.row 23 1 0 (CE 1 (((ess.map (fun es => VO es.length es)).map (· w.heap.size)).take 0)))] [.inl 0] [.inr 0, .inr 1] follows S1 rfl (by kernel_rfl) ?_ ?_
  · refine ⟨trivial, ?_⟩
    · exact owe_nilrow rfl (wants_all rfl) rfl rfl ce_nil
  intro B2 a2 W2 S2
  replace S2 : Sta w 20 [(3, (.row 23 1 0 (CE 1 (((ess.map (fun es => VO es.length es)).map (· w.heap.size)).take 0))))] [(2, (Is (.slice none 0 0))), (0, (Mx n ess))] B2 a2 W2 := S2
  refine wp_seq ?_
  refine wp_stmt_seq [.val (Is (.int .i64 0))] [.inr 0] [.inl 0, .inr 0, .inr 1] follows S2 rfl (by kernel_rfl) ?_ ?_
  · refine ⟨trivial, ?_⟩
    · exact owe_move rfl (wants_all rfl) (Or.inr rfl) (opnd_const _) rfl
  intro B3 a3 W3 S3
  replace S3 : Sta w 20 [(3, (.row 23 1 0 (CE 1 (((ess.map (fun es => VO es.length es)).map (· w.heap.size)).take 0))))] [(4, (Is (.int .i64 0))), (2, (Is (.slice none 0 0))), (0, (Mx n ess))] B3 a3 W3 := S3
  refine wp_block ?_
  refine wp_loop_ghost (fun (k0 : Nat) a W => (k0 ≤ n) ∧ ∃ Bq, Sta w 20 [(3, (.row 23 1 k0 (CE 1 (((ess.map (fun es => VO es.length es)).map (· w.heap.size)).take k0))))] [(4, (Is (.int .i64 k0))), (0, (Mx n ess))] Bq a W) (fun (k0 : Nat) => n - k0) ?_ 0 ⟨Nat.zero_le _, B3, S3.sub [0] [0, 2]⟩
  rintro k0 a4 W4 ⟨hcond, B4, S4⟩
  by_cases hlt : k0 < n
  · obtain ⟨es, he⟩ : ∃ es, ess[k0]? = some es := ⟨ess[k0]'(by omega), List.getElem?_eq_getElem _⟩
    have hec := hC k0 es he
    have hel := hL k0 es he
    have htk : ((ess.map (fun es => VO es.length es)).map (· w.heap.size)).take (k0 + 1) = ((ess.map (fun es => VO es.length es)).map (· w.heap.size)).take k0 ++ [VO es.length es w.heap.size] := by rw [List.take_add_one, map_get' _ (map_get' _ he)]; rfl
    refine wp_seq ?_
    refine wp_stmt_seq [.val (Is (.int .i64 k0)),
      .val (Mx n ess),
      .val (Is (.int .i64 (n : Nat))),
      .val (Is (.bool true))] [.inr 0] [.inl 3, .inr 0, .inr 1] follows S4 rfl (by kernel_rfl) ?_ ?_
    · refine ⟨⟨⟨⟨trivial, ?_⟩, ?_⟩, ?_⟩, ?_⟩
      · exact owe_move rfl (wants_all rfl) (Or.inl rfl) (opnd_slot 0 4 rfl (by kernel_rfl)) rfl
      · exact owe_move rfl (wants_all rfl) (Or.inl rfl) (opnd_slot 1 0 rfl (by kernel_rfl)) rfl
      · exact owe_len rfl (wants_all rfl) rfl (opnd_op 1 6 (by kernel_rfl) rfl) ar_len Tryd.underlying22 rfl
      · exact owe_bin rfl (wants_all rfl) rfl (opnd_op 0 5 (by kernel_rfl) rfl) (opnd_op 2 7 (by kernel_rfl) rfl) rfl (fun ρ w h1 h2 => by exact run_lss_int_t ρ _ _ _ w _ _ (by omega) h1 h2)
    intro B5 a5 W5 S5
    replace S5 : Sta w 20 [(3, (.row 23 1 k0 (CE 1 (((ess.map (fun es => VO es.length es)).map (· w.heap.size)).take k0))))] [(8, (Is (.bool true))), (4, (Is (.int .i64 k0))), (0, (Mx n ess))] B5 a5 W5 := S5
    refine wp_cond_true (S5.bool 0 8 rfl) ?_
    refine wp_skip ?_
    refine thenN ?_
    refine wp_seq ?_
    refine wp_block ?_
    refine wp_stmt [.val (Is (a5.eval (.tmp 3))),
      .val (Mx n ess),
      .val (Is (.int .i64 k0)),
      .val (AtE 1 (Vx (es.length) es)),
      .val (Vx (es.length) es),
      .val ((VO (es.length) es) w.heap.size),
      .val (Sng 23 1 ((VO (es.length) es) w.heap.size) w.heap.size),
      .mov 3 (.row 23 1 (k0 + 1) (CE 1 (((ess.map (fun es => VO es.length es)).map (· w.heap.size)).take (k0 + 1)))),
      .ref 7] [.inl 8] [.inr 0, .inr 1, .inr 2] follows S5 rfl (by kernel_rfl) ?_ ?_
    · refine ⟨⟨⟨⟨⟨⟨⟨⟨⟨trivial, ?_⟩, ?_⟩, ?_⟩, ?_⟩, ?_⟩, ?_⟩, ?_⟩, ?_⟩, ?_⟩
      · exact owe_same rfl (wants_all rfl) (Or.inl rfl) (by kernel_rfl) rfl
      · exact owe_move rfl (wants_all rfl) (Or.inl rfl) (opnd_slot 2 0 rfl (by kernel_rfl)) rfl
      · exact owe_move rfl (wants_all rfl) (Or.inl rfl) (opnd_slot 1 4 rfl (by kernel_rfl)) rfl
      · exact owe_aindex rfl (wants_all rfl) rfl idx_rows (opnd_op 1 12 (by kernel_rfl) rfl) (opnd_op 2 13 (by kernel_rfl) rfl) (map_get' (fun es : List El => Vx es.length es) he) rfl
      · exact owe_aload rfl (wants_all rfl) rfl ldr_row1 (by decide) cel_vx (opnd_op 3 14 (by kernel_rfl) rfl) rfl
      · exact owe_callh1 rfl (wants_all rfl) rfl (opnd_op 4 15 (by kernel_rfl) rfl) fresh_vo rfl (fun args w => by go_simp) (fun w u h => owns_w w u _ _ h hel hec)
      · exact owe_b1 rfl (wants_all rfl) rfl bld_row1 (opnd_op 5 16 (by kernel_rfl) rfl) cel_vo rfl
      · exact owe_append rfl (wants_all rfl) rfl (opnd_op 0 11 (by kernel_rfl) rfl) (k := 0) rfl (by kernel_rfl) ((opnd_op 6 17 (by kernel_rfl) rfl).imp b1_src) einf_row1 Tryd.underlying22 (by decide) ⟨by unfold maxLen; omega, by omega⟩ rfl (fun xs ys w h1 h2 => by rw [htk]; exact ce_append xs ys w h1 h2)
      · exact owe_ref 7 rfl (wants_all rfl) (Or.inr rfl) (by kernel_rfl) rfl rfl
    intro B6 a6 W6 S6
    replace S6 : Sta w 20 [(3, (.row 23 1 (k0 + 1) (CE 1 (((ess.map (fun es => VO es.length es)).map (· w.heap.size)).take (k0 + 1)))))] [(8, (Is (.bool true))), (4, (Is (.int .i64 k0))), (0, (Mx n ess))] B6 a6 W6 := S6
    refine inBlkN ?_
    refine thenN ?_
    refine wp_stmt [.val (Is (.int .i64 k0)),
      .val (Is (.int .i64 (k0 + 1 : Nat))),
      .val (Is (.int .i64 (k0 + 1 : Nat)))] [.inr 0] [.inl 2, .inr 0, .inr 2] follows S6 rfl (by kernel_rfl) ?_ ?_
    · refine ⟨⟨⟨trivial, ?_⟩, ?_⟩, ?_⟩
      · exact owe_move rfl (wants_all rfl) (Or.inl rfl) (opnd_slot 1 4 rfl (by kernel_rfl)) rfl
      · exact owe_bin rfl (wants_all rfl) rfl (opnd_op 0 9 (by kernel_rfl) rfl) (opnd_const _) rfl (fun ρ w h1 h2 => by exact run_add_int ρ _ _ _ w _ _ _ ⟨by omega, by omega, by omega⟩ h1 h2)
      · exact owe_move rfl (wants_all rfl) (Or.inr rfl) (opnd_op 1 10 (by kernel_rfl) rfl) rfl
    intro B7 a7 W7 S7
    replace S7 : Sta w 20 [(3, (.row 23 1 (k0 + 1) (CE 1 (((ess.map (fun es => VO es.length es)).map (· w.heap.size)).take (k0 + 1)))))] [(4, (Is (.int .i64 (k0 + 1 : Nat)))), (8, (Is (.bool true))), (0, (Mx n ess))] B7 a7 W7 := S7
    refine thenN ?_
    exact ⟨k0 + 1, ⟨by omega, B7, S7.sub [0] [0, 2]⟩, by omega⟩
  · have ek : n = k0 := by omega
    have hend : ((ess.map (fun es => VO es.length es)).map (· w.heap.size)).take k0 = (ess.map (fun es => VO es.length es)).map (· w.heap.size) := List.take_of_length_le (by simp; omega)
    refine wp_seq ?_
    refine wp_stmt_seq [.val (Is (.int .i64 k0)),
      .val (Mx n ess),
      .val (Is (.int .i64 (n : Nat))),
      .val (Is (.bool false))] [.inr 0] [.inl 3, .inr 0, .inr 1] follows S4 rfl (by kernel_rfl) ?_ ?_
    · refine ⟨⟨⟨⟨trivial, ?_⟩, ?_⟩, ?_⟩, ?_⟩
      · exact owe_move rfl (wants_all rfl) (Or.inl rfl) (opnd_slot 0 4 rfl (by kernel_rfl)) rfl
      · exact owe_move rfl (wants_all rfl) (Or.inl rfl) (opnd_slot 1 0 rfl (by kernel_rfl)) rfl
      · exact owe_len rfl (wants_all rfl) rfl (opnd_op 1 6 (by kernel_rfl) rfl) ar_len Tryd.underlying22 rfl
      · exact owe_bin rfl (wants_all rfl) rfl (opnd_op 0 5 (by kernel_rfl) rfl) (opnd_op 2 7 (by kernel_rfl) rfl) rfl (fun ρ w h1 h2 => by exact run_lss_int_f ρ _ _ _ w _ _ (by omega) h1 h2)
    intro B5 a5 W5 S5
    replace S5 : Sta w 20 [(3, (.row 23 1 k0 (CE 1 (((ess.map (fun es => VO es.length es)).map (· w.heap.size)).take k0))))] [(8, (Is (.bool false))), (4, (Is (.int .i64 k0))), (0, (Mx n ess))] B5 a5 W5 := S5
    refine wp_cond_false (S5.bool 0 8 rfl) ?_
    refine wp_exit ?_
    refine thenX ?_
    refine thenX ?_
    refine inBlkE ?_
    refine thenN ?_
    obtain ⟨B6, S6⟩ : ∃ Bq, Sta w 20 [] [(3, ((MO n ess) w.heap.size)), (8, (Is (.bool false))), (4, (Is (.int .i64 k0))), (0, (Mx n ess))] Bq a5 W5 := ⟨_, S5.freeze 0 rfl (by simp) (fun v w' xs ho hc => by rw [hend] at hc; rw [ek]; exact row_lf (by decide) v w' xs ho hc)⟩
    obtain ⟨a6, W6, e1, e2⟩ : ∃ a W, a5 = a ∧ W5 = W := ⟨_, _, rfl, rfl⟩
    rw [e1, e2] at S6 ⊢
    clear e1 e2
    refine wp_stmt_seq [.val ((MO n ess) w.heap.size),
      .val ((MO n ess) w.heap.size)] [] [.inl 1, .inr 0, .inr 1, .inr 2, .inr 3] follows S6 rfl (by kernel_rfl) ?_ ?_
    · refine ⟨⟨trivial, ?_⟩, ?_⟩
      · exact owe_move rfl (wants_all rfl) (Or.inl rfl) (opnd_slot 0 3 rfl (by kernel_rfl)) rfl
      · exact owe_move rfl (wants_all rfl) (Or.inr rfl) (opnd_op 0 19 (by kernel_rfl) rfl) rfl
    intro B7 a7 W7 S7
    replace S7 : Sta w 20 [] [(2, ((MO n ess) w.heap.size)), (3, ((MO n ess) w.heap.size)), (8, (Is (.bool false))), (4, (Is (.int .i64 k0))), (0, (Mx n ess))] B7 a7 W7 := S7
    refine wp_ret ?_
    exact end_one S7 rfl (res_tmp S7 0 2 rfl)

end Go.Proofs.YtdhjgekbocnnkaaDoor

/-
  Shapes: mat.Shape and the document's.
-/
namespace Go.Proofs.YtdhjgekbocnnkaaDoor
open Go Go.RowKit Nt
set_option linter.unusedSimpArgs false
set_option linter.unusedVariables false
set_option maxRecDepth 20000


/-! Shapes. -/
def wd (A : List (List Int)) : Nat := (A.headD []).length
def reg (A : List (List Int)) : Bool := A.all (fun r => r.length == wd A)
/-- All rows have x entries. -/
def Reg (A : List (List Int)) (x : Nat) : Prop := ∀ (i : Nat) r, A[i]? = some r → r.length = x
theorem reg_y {A : List (List Int)} (h : reg A = true) : Reg A (wd A) := fun i r hr => by
  have := List.all_eq_true.1 h r (List.mem_of_getElem? hr)
  simpa using this
theorem reg_n {A : List (List Int)} (h : ¬ reg A = true) : ∃ (i : Nat) (r : List Int), A[i]? = some r ∧ r.length ≠ wd A := by
  obtain ⟨r, hr, hl⟩ := List.all_eq_false.1 (Bool.eq_false_iff.2 h)
  obtain ⟨i, hi, rfl⟩ := List.mem_iff_getElem.1 hr
  exact ⟨i, _, List.getElem?_eq_getElem hi, by simpa using hl⟩
theorem wd_zero {A : List (List Int)} (h : A.length = 0) : wd A = 0 := by
  rw [List.eq_nil_of_length_eq_zero h]
  rfl
theorem wd_at {A : List (List Int)} {f0 : List Int} (h : A[0]? = some f0) : wd A = f0.length := by
  cases A with
  | nil => simp at h
  | cons a r => simp at h; subst h; rfl
theorem mv_mdl' {n k : Nat} {zss : List (List Int)} {u : Value} {w : World} (h : Mv n zss k u w) : Mdl zss k := fun i zs hz => by
  obtain ⟨r, hr⟩ := mv_row h hz
  exact vv_dl hr
theorem row_at {A : List (List Int)} {k x i : Nat} {r : List Int} (h : A[i]? = some r) (hR : Reg A x) : (A.map (fun zs => Vv zs.length zs k))[i]? = some (Vv x r k) := by rw [map_get' (fun zs : List Int => Vv zs.length zs k) h, hR i r h]
theorem row_at' {A : List (List Int)} {k i : Nat} {r : List Int} (h : A[i]? = some r) : (A.map (fun zs => Vv zs.length zs k))[i]? = some (Vv r.length r k) := map_get' (fun zs : List Int => Vv zs.length zs k) h
def errB (b : Bool) : Int := if b then 0 else 8

set_option maxHeartbeats 400000 in
theorem shape_y (w : World) (u : Value) (n k : Nat) (A : List (List Int)) (h : Hs w (Mv n A k) u) (hn : n ≤ 1048576) (x : Nat) (hR : Reg A x) (hp : 0 < n) :
    Calls Tryd.prog 30 #[u] w (Gives (THREE (IS (.int .i64 (n : Nat))) (IS (.int .i64 (x : Nat))) (IS (.int .i64 0))) w) := by
  have hA := mv_len h.now
  obtain ⟨f0, hf0⟩ : ∃ a, A[0]? = some a := ⟨A[0]'(by omega), List.getElem?_eq_getElem _⟩
  have hx0 := row_at (k := k) hf0 hR
  refine calls_sta (sl := [(0, (Mv n A k))]) Tryd.func30 rfl Tryd.ntmps30 (by simp) (args_cons rfl (h) args_nil) ?_
  intro a0 S0
  refine wp_stmt_seq [.val (Is (.int .i64 0)),
      .val (Is (.int .i64 0)),
      .val (Is (.int .i64 0))] [] [.inl 0, .inl 1, .inl 2, .inr 0] follows S0 rfl (by kernel_rfl) ?_ ?_
  · refine ⟨⟨⟨trivial, ?_⟩, ?_⟩, ?_⟩
    · exact owe_move rfl (wants_all rfl) (Or.inr rfl) (opnd_const _) rfl
    · exact owe_move rfl (wants_all rfl) (Or.inr rfl) (opnd_const _) rfl
    · exact owe_move rfl (wants_all rfl) (Or.inr rfl) (opnd_const _) rfl
  intro B1 a1 W1 S1
  replace S1 : Sta w 29 [] [(2, (Is (.int .i64 0))), (3, (Is (.int .i64 0))), (4, (Is (.int .i64 0))), (0, (Mv n A k))] B1 a1 W1 := S1
  refine wp_seq ?_
  refine wp_stmt_seq [.val (Mv n A k),
      .val (Is (.int .i64 (n : Nat))),
      .val (Is (.bool false))] [] [.inl 2, .inr 0, .inr 1, .inr 2, .inr 3] follows S1 rfl (by kernel_rfl) ?_ ?_
  · refine ⟨⟨⟨trivial, ?_⟩, ?_⟩, ?_⟩
    · exact owe_move rfl (wants_all rfl) (Or.inl rfl) (opnd_slot 3 0 rfl (by kernel_rfl)) rfl
    · exact owe_len rfl (wants_all rfl) rfl (opnd_op 0 8 (by kernel_rfl) rfl) ar_len Tryd.underlying22 rfl
    · exact owe_bin rfl (wants_all rfl) rfl (opnd_op 1 9 (by kernel_rfl) rfl) (opnd_const _) rfl (fun ρ w h1 h2 => by exact run_eql_int_f ρ _ _ _ w _ _ (by omega) h1 h2)
  intro B2 a2 W2 S2
  replace S2 : Sta w 29 [] [(10, (Is (.bool false))), (2, (Is (.int .i64 0))), (3, (Is (.int .i64 0))), (4, (Is (.int .i64 0))), (0, (Mv n A k))] B2 a2 W2 := S2
  refine wp_cond_false (S2.bool 0 10 rfl) ?_
  refine wp_skip ?_
  refine thenN ?_
  refine wp_stmt_seq [.val (Mv n A k),
      .val (AtE 1 (Vv x f0 k)),
      .val (Vv x f0 k),
      .val (Is (.int .i64 (x : Nat))),
      .val (Is (.int .i64 (x : Nat)))] [] [.inl 4, .inr 0, .inr 1, .inr 2, .inr 3, .inr 4] follows S2 rfl (by kernel_rfl) ?_ ?_
  · refine ⟨⟨⟨⟨⟨trivial, ?_⟩, ?_⟩, ?_⟩, ?_⟩, ?_⟩
    · exact owe_move rfl (wants_all rfl) (Or.inl rfl) (opnd_slot 4 0 rfl (by kernel_rfl)) rfl
    · exact owe_aindex rfl (wants_all rfl) rfl idx_rows (opnd_op 0 11 (by kernel_rfl) rfl) (opnd_const _) hx0 rfl
    · exact owe_aload rfl (wants_all rfl) rfl ldr_row1 (by decide) cel_vv (opnd_op 1 12 (by kernel_rfl) rfl) rfl
    · exact owe_len rfl (wants_all rfl) rfl (opnd_op 2 13 (by kernel_rfl) rfl) ar_len Tryd.underlying23 rfl
    · exact owe_move rfl (wants_all rfl) (Or.inr rfl) (opnd_op 3 14 (by kernel_rfl) rfl) rfl
  intro B3 a3 W3 S3
  replace S3 : Sta w 29 [] [(5, (Is (.int .i64 (x : Nat)))), (10, (Is (.bool false))), (2, (Is (.int .i64 0))), (3, (Is (.int .i64 0))), (4, (Is (.int .i64 0))), (0, (Mv n A k))] B3 a3 W3 := S3
  refine wp_seq ?_
  refine wp_stmt_seq [.val (Mv n A k),
      .val (Is (.int .i64 (n : Nat))),
      .val (Is (.int .i64 0))] [] [.inl 0, .inl 1, .inl 2, .inr 0, .inr 1, .inr 2, .inr 3, .inr 4, .inr 5] follows S3 rfl (by kernel_rfl) ?_ ?_
  · refine ⟨⟨⟨trivial, ?_⟩, ?_⟩, ?_⟩
    · exact owe_move rfl (wants_all rfl) (Or.inl rfl) (opnd_slot 5 0 rfl (by kernel_rfl)) rfl
    · exact owe_len rfl (wants_all rfl) rfl (opnd_op 0 15 (by kernel_rfl) rfl) ar_len Tryd.underlying22 rfl
    · exact owe_move rfl (wants_all rfl) (Or.inl rfl) (opnd_const _) rfl
  intro B4 a4 W4 S4
  replace S4 : Sta w 29 [] [(15, (Mv n A k)), (16, (Is (.int .i64 (n : Nat)))), (17, (Is (.int .i64 0))), (5, (Is (.int .i64 (x : Nat)))), (10, (Is (.bool false))), (2, (Is (.int .i64 0))), (3, (Is (.int .i64 0))), (4, (Is (.int .i64 0))), (0, (Mv n A k))] B4 a4 W4 := S4
  refine wp_block ?_
  refine wp_loop_ghost (fun (k0 : Nat) a W => (k0 ≤ n) ∧ ∃ Bq, Sta w 29 [] [(15, (Mv n A k)), (16, (Is (.int .i64 (n : Nat)))), (17, (Is (.int .i64 k0))), (5, (Is (.int .i64 (x : Nat)))), (0, (Mv n A k))] Bq a W) (fun (k0 : Nat) => n - k0) ?_ 0 ⟨Nat.zero_le _, B4, S4.sub [] [0, 1, 2, 3, 8]⟩
  rintro k0 a5 W5 ⟨hcond, B5, S5⟩
  by_cases hlt : k0 < n
  · obtain ⟨a, ha⟩ : ∃ a, A[k0]? = some a := ⟨A[k0]'(by omega), List.getElem?_eq_getElem _⟩
    have hxa := row_at (k := k) ha hR
    refine wp_stmt_seq [.val (Is (.bool true))] [] [.inl 0, .inr 0, .inr 1, .inr 2, .inr 3, .inr 4] follows S5 rfl (by kernel_rfl) ?_ ?_
    · refine ⟨trivial, ?_⟩
      · exact owe_bin rfl (wants_all rfl) rfl (opnd_slot 2 17 rfl (by kernel_rfl)) (opnd_slot 1 16 rfl (by kernel_rfl)) rfl (fun ρ w h1 h2 => by exact run_lss_int_t ρ _ _ _ w _ _ (by omega) h1 h2)
    intro B6 a6 W6 S6
    replace S6 : Sta w 29 [] [(18, (Is (.bool true))), (15, (Mv n A k)), (16, (Is (.int .i64 (n : Nat)))), (17, (Is (.int .i64 k0))), (5, (Is (.int .i64 (x : Nat)))), (0, (Mv n A k))] B6 a6 W6 := S6
    refine wp_seq ?_
    refine wp_cond_true (S6.bool 0 18 rfl) ?_
    refine wp_skip ?_
    refine thenN ?_
    refine wp_seq ?_
    refine wp_block ?_
    refine wp_stmt_seq [.val (AtE 1 (Vv x a k)),
      .val (Vv x a k),
      .val (Vv x a k)] [] [.inl 2, .inr 0, .inr 1, .inr 2, .inr 3, .inr 4, .inr 5] follows S6 rfl (by kernel_rfl) ?_ ?_
    · refine ⟨⟨⟨trivial, ?_⟩, ?_⟩, ?_⟩
      · exact owe_aindex rfl (wants_all rfl) rfl idx_rows (opnd_slot 1 15 rfl (by kernel_rfl)) (opnd_slot 3 17 rfl (by kernel_rfl)) hxa rfl
      · exact owe_aload rfl (wants_all rfl) rfl ldr_row1 (by decide) cel_vv (opnd_op 0 19 (by kernel_rfl) rfl) rfl
      · exact owe_move rfl (wants_all rfl) (Or.inr rfl) (opnd_op 1 20 (by kernel_rfl) rfl) rfl
    intro B7 a7 W7 S7
    replace S7 : Sta w 29 [] [(7, (Vv x a k)), (18, (Is (.bool true))), (15, (Mv n A k)), (16, (Is (.int .i64 (n : Nat)))), (17, (Is (.int .i64 k0))), (5, (Is (.int .i64 (x : Nat)))), (0, (Mv n A k))] B7 a7 W7 := S7
    refine wp_stmt_seq [.val (Vv x a k),
      .val (Is (.int .i64 (x : Nat))),
      .val (Is (.int .i64 (x : Nat))),
      .val (Is (.bool false))] [] [.inl 3, .inr 1, .inr 2, .inr 3, .inr 4, .inr 5, .inr 6] follows S7 rfl (by kernel_rfl) ?_ ?_
    · refine ⟨⟨⟨⟨trivial, ?_⟩, ?_⟩, ?_⟩, ?_⟩
      · exact owe_move rfl (wants_all rfl) (Or.inl rfl) (opnd_slot 0 7 rfl (by kernel_rfl)) rfl
      · exact owe_len rfl (wants_all rfl) rfl (opnd_op 0 21 (by kernel_rfl) rfl) ar_len Tryd.underlying23 rfl
      · exact owe_move rfl (wants_all rfl) (Or.inl rfl) (opnd_slot 5 5 rfl (by kernel_rfl)) rfl
      · exact owe_bin rfl (wants_all rfl) rfl (opnd_op 1 22 (by kernel_rfl) rfl) (opnd_op 2 23 (by kernel_rfl) rfl) rfl (fun ρ w h1 h2 => by exact run_neq_int_f ρ _ _ _ w _ _ (by omega) h1 h2)
    intro B8 a8 W8 S8
    replace S8 : Sta w 29 [] [(24, (Is (.bool false))), (18, (Is (.bool true))), (15, (Mv n A k)), (16, (Is (.int .i64 (n : Nat)))), (17, (Is (.int .i64 k0))), (5, (Is (.int .i64 (x : Nat)))), (0, (Mv n A k))] B8 a8 W8 := S8
    refine wp_cond_false (S8.bool 0 24 rfl) ?_
    refine wp_skip ?_
    refine inBlkN ?_
    refine thenN ?_
    refine wp_stmt [.val (Is (.int .i64 (k0 + 1 : Nat))),
      .val (Is (.int .i64 (k0 + 1 : Nat)))] [] [.inl 1, .inr 0, .inr 1, .inr 2, .inr 3, .inr 5, .inr 6] follows S8 rfl (by kernel_rfl) ?_ ?_
    · refine ⟨⟨trivial, ?_⟩, ?_⟩
      · exact owe_bin rfl (wants_all rfl) rfl (opnd_slot 4 17 rfl (by kernel_rfl)) (opnd_const _) rfl (fun ρ w h1 h2 => by exact run_add_int ρ _ _ _ w _ _ _ ⟨by omega, by omega, by omega⟩ h1 h2)
      · exact owe_move rfl (wants_all rfl) (Or.inl rfl) (opnd_op 0 25 (by kernel_rfl) rfl) rfl
    intro B9 a9 W9 S9
    replace S9 : Sta w 29 [] [(17, (Is (.int .i64 (k0 + 1 : Nat)))), (24, (Is (.bool false))), (18, (Is (.bool true))), (15, (Mv n A k)), (16, (Is (.int .i64 (n : Nat)))), (5, (Is (.int .i64 (x : Nat)))), (0, (Mv n A k))] B9 a9 W9 := S9
    refine thenN ?_
    exact ⟨k0 + 1, ⟨by omega, B9, S9.sub [] [3, 4, 0, 5, 6]⟩, by omega⟩
  · skip
    refine wp_stmt_seq [.val (Is (.bool false))] [] [.inl 0, .inr 0, .inr 1, .inr 2, .inr 3, .inr 4] follows S5 rfl (by kernel_rfl) ?_ ?_
    · refine ⟨trivial, ?_⟩
      · exact owe_bin rfl (wants_all rfl) rfl (opnd_slot 2 17 rfl (by kernel_rfl)) (opnd_slot 1 16 rfl (by kernel_rfl)) rfl (fun ρ w h1 h2 => by exact run_lss_int_f ρ _ _ _ w _ _ (by omega) h1 h2)
    intro B6 a6 W6 S6
    replace S6 : Sta w 29 [] [(18, (Is (.bool false))), (15, (Mv n A k)), (16, (Is (.int .i64 (n : Nat)))), (17, (Is (.int .i64 k0))), (5, (Is (.int .i64 (x : Nat)))), (0, (Mv n A k))] B6 a6 W6 := S6
    refine wp_seq ?_
    refine wp_cond_false (S6.bool 0 18 rfl) ?_
    refine wp_exit ?_
    refine thenX ?_
    refine thenX ?_
    refine inBlkE ?_
    refine thenN ?_
    refine wp_stmt_seq [.val (Mv n A k),
      .val (Is (.int .i64 (n : Nat))),
      .val (Is (.int .i64 (x : Nat))),
      .val (Is (.int .i64 (n : Nat))),
      .val (Is (.int .i64 (x : Nat))),
      .val (Is (.int .i64 0))] [] [.inl 3, .inl 4, .inl 5, .inr 0, .inr 1, .inr 2, .inr 3, .inr 4, .inr 5] follows S6 rfl (by kernel_rfl) ?_ ?_
    · refine ⟨⟨⟨⟨⟨⟨trivial, ?_⟩, ?_⟩, ?_⟩, ?_⟩, ?_⟩, ?_⟩
      · exact owe_move rfl (wants_all rfl) (Or.inl rfl) (opnd_slot 5 0 rfl (by kernel_rfl)) rfl
      · exact owe_len rfl (wants_all rfl) rfl (opnd_op 0 26 (by kernel_rfl) rfl) ar_len Tryd.underlying22 rfl
      · exact owe_move rfl (wants_all rfl) (Or.inl rfl) (opnd_slot 4 5 rfl (by kernel_rfl)) rfl
      · exact owe_move rfl (wants_all rfl) (Or.inr rfl) (opnd_op 1 27 (by kernel_rfl) rfl) rfl
      · exact owe_move rfl (wants_all rfl) (Or.inr rfl) (opnd_op 2 28 (by kernel_rfl) rfl) rfl
      · exact owe_move rfl (wants_all rfl) (Or.inr rfl) (opnd_const _) rfl
    intro B7 a7 W7 S7
    replace S7 : Sta w 29 [] [(2, (Is (.int .i64 (n : Nat)))), (3, (Is (.int .i64 (x : Nat)))), (4, (Is (.int .i64 0))), (18, (Is (.bool false))), (15, (Mv n A k)), (16, (Is (.int .i64 (n : Nat)))), (17, (Is (.int .i64 k0))), (5, (Is (.int .i64 (x : Nat)))), (0, (Mv n A k))] B7 a7 W7 := S7
    refine wp_ret ?_
    exact end_three S7 rfl (res_tmp S7 0 2 rfl) (res_tmp S7 1 3 rfl) (res_tmp S7 2 4 rfl)

set_option maxHeartbeats 400000 in
theorem shape_0 (w : World) (u : Value) (n k : Nat) (A : List (List Int)) (h : Hs w (Mv n A k) u) (hn : n ≤ 1048576) (hp : n < 1) :
    Calls Tryd.prog 30 #[u] w (Gives (THREE (IS (.int .i64 0)) (IS (.int .i64 0)) (IS (.int .i64 0))) w) := by
  refine calls_sta (sl := [(0, (Mv n A k))]) Tryd.func30 rfl Tryd.ntmps30 (by simp) (args_cons rfl (h) args_nil) ?_
  intro a0 S0
  refine wp_stmt_seq [.val (Is (.int .i64 0)),
      .val (Is (.int .i64 0)),
      .val (Is (.int .i64 0))] [] [.inl 0, .inl 1, .inl 2, .inr 0] follows S0 rfl (by kernel_rfl) ?_ ?_
  · refine ⟨⟨⟨trivial, ?_⟩, ?_⟩, ?_⟩
    · exact owe_move rfl (wants_all rfl) (Or.inr rfl) (opnd_const _) rfl
    · exact owe_move rfl (wants_all rfl) (Or.inr rfl) (opnd_const _) rfl
    · exact owe_move rfl (wants_all rfl) (Or.inr rfl) (opnd_const _) rfl
  intro B1 a1 W1 S1
  replace S1 : Sta w 29 [] [(2, (Is (.int .i64 0))), (3, (Is (.int .i64 0))), (4, (Is (.int .i64 0))), (0, (Mv n A k))] B1 a1 W1 := S1
  refine wp_seq ?_
  refine wp_stmt_seq [.val (Mv n A k),
      .val (Is (.int .i64 (n : Nat))),
      .val (Is (.bool true))] [] [.inl 2, .inr 0, .inr 1, .inr 2, .inr 3] follows S1 rfl (by kernel_rfl) ?_ ?_
  · refine ⟨⟨⟨trivial, ?_⟩, ?_⟩, ?_⟩
    · exact owe_move rfl (wants_all rfl) (Or.inl rfl) (opnd_slot 3 0 rfl (by kernel_rfl)) rfl
    · exact owe_len rfl (wants_all rfl) rfl (opnd_op 0 8 (by kernel_rfl) rfl) ar_len Tryd.underlying22 rfl
    · exact owe_bin rfl (wants_all rfl) rfl (opnd_op 1 9 (by kernel_rfl) rfl) (opnd_const _) rfl (fun ρ w h1 h2 => by exact run_eql_int_t ρ _ _ _ w _ _ (by omega) h1 h2)
  intro B2 a2 W2 S2
  replace S2 : Sta w 29 [] [(10, (Is (.bool true))), (2, (Is (.int .i64 0))), (3, (Is (.int .i64 0))), (4, (Is (.int .i64 0))), (0, (Mv n A k))] B2 a2 W2 := S2
  refine wp_cond_true (S2.bool 0 10 rfl) ?_
  refine wp_stmt_seq [.val (Is (.int .i64 0)),
      .val (Is (.int .i64 0)),
      .val (Is (.int .i64 0))] [] [.inl 0, .inl 1, .inl 2, .inr 0, .inr 4] follows S2 rfl (by kernel_rfl) ?_ ?_
  · refine ⟨⟨⟨trivial, ?_⟩, ?_⟩, ?_⟩
    · exact owe_move rfl (wants_all rfl) (Or.inr rfl) (opnd_const _) rfl
    · exact owe_move rfl (wants_all rfl) (Or.inr rfl) (opnd_const _) rfl
    · exact owe_move rfl (wants_all rfl) (Or.inr rfl) (opnd_const _) rfl
  intro B3 a3 W3 S3
  replace S3 : Sta w 29 [] [(2, (Is (.int .i64 0))), (3, (Is (.int .i64 0))), (4, (Is (.int .i64 0))), (10, (Is (.bool true))), (0, (Mv n A k))] B3 a3 W3 := S3
  refine wp_ret ?_
  refine thenR ?_
  exact end_three S3 rfl (res_tmp S3 0 2 rfl) (res_tmp S3 1 3 rfl) (res_tmp S3 2 4 rfl)

set_option maxHeartbeats 400000 in
theorem shape_n (w : World) (u : Value) (n k : Nat) (A : List (List Int)) (h : Hs w (Mv n A k) u) (hn : n ≤ 1048576) (f0 r1 : List Int) (i1 : Nat) (hf0 : A[0]? = some f0) (hi1 : A[i1]? = some r1) (hne : r1.length ≠ f0.length) :
    Calls Tryd.prog 30 #[u] w (Gives (THREE (IS (.int .i64 0)) (IS (.int .i64 0)) (IS (.int .i64 8))) w) := by
  have hA := mv_len h.now
  have hi2 : i1 < n := by have := (List.getElem?_eq_some_iff.1 hi1).1; omega
  have hx0 := row_at' (k := k) hf0
  refine calls_sta (sl := [(0, (Mv n A k))]) Tryd.func30 rfl Tryd.ntmps30 (by simp) (args_cons rfl (h) args_nil) ?_
  intro a0 S0
  refine wp_stmt_seq [.val (Is (.int .i64 0)),
      .val (Is (.int .i64 0)),
      .val (Is (.int .i64 0))] [] [.inl 0, .inl 1, .inl 2, .inr 0] follows S0 rfl (by kernel_rfl) ?_ ?_
  · refine ⟨⟨⟨trivial, ?_⟩, ?_⟩, ?_⟩
    · exact owe_move rfl (wants_all rfl) (Or.inr rfl) (opnd_const _) rfl
    · exact owe_move rfl (wants_all rfl) (Or.inr rfl) (opnd_const _) rfl
    · exact owe_move rfl (wants_all rfl) (Or.inr rfl) (opnd_const _) rfl
  intro B1 a1 W1 S1
  replace S1 : Sta w 29 [] [(2, (Is (.int .i64 0))), (3, (Is (.int .i64 0))), (4, (Is (.int .i64 0))), (0, (Mv n A k))] B1 a1 W1 := S1
  refine wp_seq ?_
  refine wp_stmt_seq [.val (Mv n A k),
      .val (Is (.int .i64 (n : Nat))),
      .val (Is (.bool false))] [] [.inl 2, .inr 0, .inr 1, .inr 2, .inr 3] follows S1 rfl (by kernel_rfl) ?_ ?_
  · refine ⟨⟨⟨trivial, ?_⟩, ?_⟩, ?_⟩
    · exact owe_move rfl (wants_all rfl) (Or.inl rfl) (opnd_slot 3 0 rfl (by kernel_rfl)) rfl
    · exact owe_len rfl (wants_all rfl) rfl (opnd_op 0 8 (by kernel_rfl) rfl) ar_len Tryd.underlying22 rfl
    · exact owe_bin rfl (wants_all rfl) rfl (opnd_op 1 9 (by kernel_rfl) rfl) (opnd_const _) rfl (fun ρ w h1 h2 => by exact run_eql_int_f ρ _ _ _ w _ _ (by omega) h1 h2)
  intro B2 a2 W2 S2
  replace S2 : Sta w 29 [] [(10, (Is (.bool false))), (2, (Is (.int .i64 0))), (3, (Is (.int .i64 0))), (4, (Is (.int .i64 0))), (0, (Mv n A k))] B2 a2 W2 := S2
  refine wp_cond_false (S2.bool 0 10 rfl) ?_
  refine wp_skip ?_
  refine thenN ?_
  refine wp_stmt_seq [.val (Mv n A k),
      .val (AtE 1 (Vv (f0.length) f0 k)),
      .val (Vv (f0.length) f0 k),
      .val (Is (.int .i64 (f0.length : Nat))),
      .val (Is (.int .i64 (f0.length : Nat)))] [] [.inl 4, .inr 0, .inr 1, .inr 2, .inr 3, .inr 4] follows S2 rfl (by kernel_rfl) ?_ ?_
  · refine ⟨⟨⟨⟨⟨trivial, ?_⟩, ?_⟩, ?_⟩, ?_⟩, ?_⟩
    · exact owe_move rfl (wants_all rfl) (Or.inl rfl) (opnd_slot 4 0 rfl (by kernel_rfl)) rfl
    · exact owe_aindex rfl (wants_all rfl) rfl idx_rows (opnd_op 0 11 (by kernel_rfl) rfl) (opnd_const _) hx0 rfl
    · exact owe_aload rfl (wants_all rfl) rfl ldr_row1 (by decide) cel_vv (opnd_op 1 12 (by kernel_rfl) rfl) rfl
    · exact owe_len rfl (wants_all rfl) rfl (opnd_op 2 13 (by kernel_rfl) rfl) ar_len Tryd.underlying23 rfl
    · exact owe_move rfl (wants_all rfl) (Or.inr rfl) (opnd_op 3 14 (by kernel_rfl) rfl) rfl
  intro B3 a3 W3 S3
  replace S3 : Sta w 29 [] [(5, (Is (.int .i64 (f0.length : Nat)))), (10, (Is (.bool false))), (2, (Is (.int .i64 0))), (3, (Is (.int .i64 0))), (4, (Is (.int .i64 0))), (0, (Mv n A k))] B3 a3 W3 := S3
  refine wp_seq ?_
  refine wp_stmt_seq [.val (Mv n A k),
      .val (Is (.int .i64 (n : Nat))),
      .val (Is (.int .i64 0))] [] [.inl 0, .inl 1, .inl 2, .inr 0, .inr 1, .inr 2, .inr 3, .inr 4, .inr 5] follows S3 rfl (by kernel_rfl) ?_ ?_
  · refine ⟨⟨⟨trivial, ?_⟩, ?_⟩, ?_⟩
    · exact owe_move rfl (wants_all rfl) (Or.inl rfl) (opnd_slot 5 0 rfl (by kernel_rfl)) rfl
    · exact owe_len rfl (wants_all rfl) rfl (opnd_op 0 15 (by kernel_rfl) rfl) ar_len Tryd.underlying22 rfl
    · exact owe_move rfl (wants_all rfl) (Or.inl rfl) (opnd_const _) rfl
  intro B4 a4 W4 S4
  replace S4 : Sta w 29 [] [(15, (Mv n A k)), (16, (Is (.int .i64 (n : Nat)))), (17, (Is (.int .i64 0))), (5, (Is (.int .i64 (f0.length : Nat)))), (10, (Is (.bool false))), (2, (Is (.int .i64 0))), (3, (Is (.int .i64 0))), (4, (Is (.int .i64 0))), (0, (Mv n A k))] B4 a4 W4 := S4
  refine wp_block ?_
  refine wp_loop_ghost (fun (k0 : Nat) a W => (k0 ≤ i1) ∧ ∃ Bq, Sta w 29 [] [(15, (Mv n A k)), (16, (Is (.int .i64 (n : Nat)))), (17, (Is (.int .i64 k0))), (5, (Is (.int .i64 (f0.length : Nat)))), (0, (Mv n A k))] Bq a W) (fun (k0 : Nat) => n - k0) ?_ 0 ⟨Nat.zero_le _, B4, S4.sub [] [0, 1, 2, 3, 8]⟩
  rintro k0 a5 W5 ⟨hcond, B5, S5⟩
  rcases (show (k0 < n ∧ (A.getD k0 []).length ≠ f0.length) ∨ (k0 < n ∧ (A.getD k0 []).length = f0.length) from by omega) with ⟨h1, h3⟩ | ⟨h1, h3⟩
  · obtain ⟨a, ha⟩ : ∃ a, A[k0]? = some a := ⟨A[k0]'(by omega), List.getElem?_eq_getElem _⟩
    rw [List.getD_eq_getElem?_getD, ha] at h3
    have h3 : a.length ≠ f0.length := h3
    have hxa := row_at' (k := k) ha
    refine wp_stmt_seq [.val (Is (.bool true))] [] [.inl 0, .inr 0, .inr 1, .inr 2, .inr 3, .inr 4] follows S5 rfl (by kernel_rfl) ?_ ?_
    · refine ⟨trivial, ?_⟩
      · exact owe_bin rfl (wants_all rfl) rfl (opnd_slot 2 17 rfl (by kernel_rfl)) (opnd_slot 1 16 rfl (by kernel_rfl)) rfl (fun ρ w h1 h2 => by exact run_lss_int_t ρ _ _ _ w _ _ (by omega) h1 h2)
    intro B6 a6 W6 S6
    replace S6 : Sta w 29 [] [(18, (Is (.bool true))), (15, (Mv n A k)), (16, (Is (.int .i64 (n : Nat)))), (17, (Is (.int .i64 k0))), (5, (Is (.int .i64 (f0.length : Nat)))), (0, (Mv n A k))] B6 a6 W6 := S6
    refine wp_seq ?_
    refine wp_cond_true (S6.bool 0 18 rfl) ?_
    refine wp_skip ?_
    refine thenN ?_
    refine wp_seq ?_
    refine wp_block ?_
    refine wp_stmt_seq [.val (AtE 1 (Vv (a.length) a k)),
      .val (Vv (a.length) a k),
      .val (Vv (a.length) a k)] [] [.inl 2, .inr 0, .inr 1, .inr 2, .inr 3, .inr 4, .inr 5] follows S6 rfl (by kernel_rfl) ?_ ?_
    · refine ⟨⟨⟨trivial, ?_⟩, ?_⟩, ?_⟩
      · exact owe_aindex rfl (wants_all rfl) rfl idx_rows (opnd_slot 1 15 rfl (by kernel_rfl)) (opnd_slot 3 17 rfl (by kernel_rfl)) hxa rfl
      · exact owe_aload rfl (wants_all rfl) rfl ldr_row1 (by decide) cel_vv (opnd_op 0 19 (by kernel_rfl) rfl) rfl
      · exact owe_move rfl (wants_all rfl) (Or.inr rfl) (opnd_op 1 20 (by kernel_rfl) rfl) rfl
    intro B7 a7 W7 S7
    replace S7 : Sta w 29 [] [(7, (Vv (a.length) a k)), (18, (Is (.bool true))), (15, (Mv n A k)), (16, (Is (.int .i64 (n : Nat)))), (17, (Is (.int .i64 k0))), (5, (Is (.int .i64 (f0.length : Nat)))), (0, (Mv n A k))] B7 a7 W7 := S7
    refine wp_stmt_seq [.val (Vv (a.length) a k),
      .val (Is (.int .i64 (a.length : Nat))),
      .val (Is (.int .i64 (f0.length : Nat))),
      .val (Is (.bool true))] [] [.inl 3, .inr 1, .inr 2, .inr 3, .inr 4, .inr 5, .inr 6] follows S7 rfl (by kernel_rfl) ?_ ?_
    · refine ⟨⟨⟨⟨trivial, ?_⟩, ?_⟩, ?_⟩, ?_⟩
      · exact owe_move rfl (wants_all rfl) (Or.inl rfl) (opnd_slot 0 7 rfl (by kernel_rfl)) rfl
      · exact owe_len rfl (wants_all rfl) rfl (opnd_op 0 21 (by kernel_rfl) rfl) ar_len Tryd.underlying23 rfl
      · exact owe_move rfl (wants_all rfl) (Or.inl rfl) (opnd_slot 5 5 rfl (by kernel_rfl)) rfl
      · exact owe_bin rfl (wants_all rfl) rfl (opnd_op 1 22 (by kernel_rfl) rfl) (opnd_op 2 23 (by kernel_rfl) rfl) rfl (fun ρ w h1 h2 => by exact run_neq_int_t ρ _ _ _ w _ _ (by omega) h1 h2)
    intro B8 a8 W8 S8
    replace S8 : Sta w 29 [] [(24, (Is (.bool true))), (18, (Is (.bool true))), (15, (Mv n A k)), (16, (Is (.int .i64 (n : Nat)))), (17, (Is (.int .i64 k0))), (5, (Is (.int .i64 (f0.length : Nat)))), (0, (Mv n A k))] B8 a8 W8 := S8
    refine wp_cond_true (S8.bool 0 24 rfl) ?_
    refine wp_stmt_seq [.val (Is (.int .i64 0)),
      .val (Is (.int .i64 0)),
      .val (Is (.int .i64 8))] [] [.inl 0, .inl 1, .inl 2, .inr 0, .inr 1, .inr 2, .inr 3, .inr 4, .inr 5, .inr 6] follows S8 rfl (by kernel_rfl) ?_ ?_
    · refine ⟨⟨⟨trivial, ?_⟩, ?_⟩, ?_⟩
      · exact owe_move rfl (wants_all rfl) (Or.inr rfl) (opnd_const _) rfl
      · exact owe_move rfl (wants_all rfl) (Or.inr rfl) (opnd_const _) rfl
      · exact owe_move rfl (wants_all rfl) (Or.inr rfl) (opnd_const _) rfl
    intro B9 a9 W9 S9
    replace S9 : Sta w 29 [] [(2, (Is (.int .i64 0))), (3, (Is (.int .i64 0))), (4, (Is (.int .i64 8))), (24, (Is (.bool true))), (18, (Is (.bool true))), (15, (Mv n A k)), (16, (Is (.int .i64 (n : Nat)))), (17, (Is (.int .i64 k0))), (5, (Is (.int .i64 (f0.length : Nat)))), (0, (Mv n A k))] B9 a9 W9 := S9
    refine wp_ret ?_
    refine inBlkR ?_
    refine thenR ?_
    refine thenR ?_
    refine inBlkR ?_
    refine thenR ?_
    exact end_three S9 rfl (res_tmp S9 0 2 rfl) (res_tmp S9 1 3 rfl) (res_tmp S9 2 4 rfl)
  · obtain ⟨a, ha⟩ : ∃ a, A[k0]? = some a := ⟨A[k0]'(by omega), List.getElem?_eq_getElem _⟩
    rw [List.getD_eq_getElem?_getD, ha] at h3
    have h3 : a.length = f0.length := h3
    have hxa := row_at' (k := k) ha
    have hk1 : k0 ≠ i1 := fun e => by rw [e, hi1] at ha; cases ha; exact hne h3
    refine wp_stmt_seq [.val (Is (.bool true))] [] [.inl 0, .inr 0, .inr 1, .inr 2, .inr 3, .inr 4] follows S5 rfl (by kernel_rfl) ?_ ?_
    · refine ⟨trivial, ?_⟩
      · exact owe_bin rfl (wants_all rfl) rfl (opnd_slot 2 17 rfl (by kernel_rfl)) (opnd_slot 1 16 rfl (by kernel_rfl)) rfl (fun ρ w h1 h2 => by exact run_lss_int_t ρ _ _ _ w _ _ (by omega) h1 h2)
    intro B6 a6 W6 S6
    replace S6 : Sta w 29 [] [(18, (Is (.bool true))), (15, (Mv n A k)), (16, (Is (.int .i64 (n : Nat)))), (17, (Is (.int .i64 k0))), (5, (Is (.int .i64 (f0.length : Nat)))), (0, (Mv n A k))] B6 a6 W6 := S6
    refine wp_seq ?_
    refine wp_cond_true (S6.bool 0 18 rfl) ?_
    refine wp_skip ?_
    refine thenN ?_
    refine wp_seq ?_
    refine wp_block ?_
    refine wp_stmt_seq [.val (AtE 1 (Vv (a.length) a k)),
      .val (Vv (a.length) a k),
      .val (Vv (a.length) a k)] [] [.inl 2, .inr 0, .inr 1, .inr 2, .inr 3, .inr 4, .inr 5] follows S6 rfl (by kernel_rfl) ?_ ?_
    · refine ⟨⟨⟨trivial, ?_⟩, ?_⟩, ?_⟩
      · exact owe_aindex rfl (wants_all rfl) rfl idx_rows (opnd_slot 1 15 rfl (by kernel_rfl)) (opnd_slot 3 17 rfl (by kernel_rfl)) hxa rfl
      · exact owe_aload rfl (wants_all rfl) rfl ldr_row1 (by decide) cel_vv (opnd_op 0 19 (by kernel_rfl) rfl) rfl
      · exact owe_move rfl (wants_all rfl) (Or.inr rfl) (opnd_op 1 20 (by kernel_rfl) rfl) rfl
    intro B7 a7 W7 S7
    replace S7 : Sta w 29 [] [(7, (Vv (a.length) a k)), (18, (Is (.bool true))), (15, (Mv n A k)), (16, (Is (.int .i64 (n : Nat)))), (17, (Is (.int .i64 k0))), (5, (Is (.int .i64 (f0.length : Nat)))), (0, (Mv n A k))] B7 a7 W7 := S7
    refine wp_stmt_seq [.val (Vv (a.length) a k),
      .val (Is (.int .i64 (a.length : Nat))),
      .val (Is (.int .i64 (f0.length : Nat))),
      .val (Is (.bool false))] [] [.inl 3, .inr 1, .inr 2, .inr 3, .inr 4, .inr 5, .inr 6] follows S7 rfl (by kernel_rfl) ?_ ?_
    · refine ⟨⟨⟨⟨trivial, ?_⟩, ?_⟩, ?_⟩, ?_⟩
      · exact owe_move rfl (wants_all rfl) (Or.inl rfl) (opnd_slot 0 7 rfl (by kernel_rfl)) rfl
      · exact owe_len rfl (wants_all rfl) rfl (opnd_op 0 21 (by kernel_rfl) rfl) ar_len Tryd.underlying23 rfl
      · exact owe_move rfl (wants_all rfl) (Or.inl rfl) (opnd_slot 5 5 rfl (by kernel_rfl)) rfl
      · exact owe_bin rfl (wants_all rfl) rfl (opnd_op 1 22 (by kernel_rfl) rfl) (opnd_op 2 23 (by kernel_rfl) rfl) rfl (fun ρ w h1 h2 => by exact run_neq_int_f ρ _ _ _ w _ _ (by omega) h1 h2)
    intro B8 a8 W8 S8
    replace S8 : Sta w 29 [] [(24, (Is (.bool false))), (18, (Is (.bool true))), (15, (Mv n A k)), (16, (Is (.int .i64 (n : Nat)))), (17, (Is (.int .i64 k0))), (5, (Is (.int .i64 (f0.length : Nat)))), (0, (Mv n A k))] B8 a8 W8 := S8
    refine wp_cond_false (S8.bool 0 24 rfl) ?_
    refine wp_skip ?_
    refine inBlkN ?_
    refine thenN ?_
    refine wp_stmt [.val (Is (.int .i64 (k0 + 1 : Nat))),
      .val (Is (.int .i64 (k0 + 1 : Nat)))] [] [.inl 1, .inr 0, .inr 1, .inr 2, .inr 3, .inr 5, .inr 6] follows S8 rfl (by kernel_rfl) ?_ ?_
    · refine ⟨⟨trivial, ?_⟩, ?_⟩
      · exact owe_bin rfl (wants_all rfl) rfl (opnd_slot 4 17 rfl (by kernel_rfl)) (opnd_const _) rfl (fun ρ w h1 h2 => by exact run_add_int ρ _ _ _ w _ _ _ ⟨by omega, by omega, by omega⟩ h1 h2)
      · exact owe_move rfl (wants_all rfl) (Or.inl rfl) (opnd_op 0 25 (by kernel_rfl) rfl) rfl
    intro B9 a9 W9 S9
    replace S9 : Sta w 29 [] [(17, (Is (.int .i64 (k0 + 1 : Nat)))), (24, (Is (.bool false))), (18, (Is (.bool true))), (15, (Mv n A k)), (16, (Is (.int .i64 (n : Nat)))), (5, (Is (.int .i64 (f0.length : Nat)))), (0, (Mv n A k))] B9 a9 W9 := S9
    refine thenN ?_
    exact ⟨k0 + 1, ⟨by omega, B9, S9.sub [] [3, 4, 0, 5, 6]⟩, by omega⟩

theorem h_shape_y (w : World) (u : Value) (n k x : Nat) (A : List (List Int)) (h : Hs w (Mv n A k) u) (hn : n ≤ 1048576) (hR : Reg A x) (h0 : n = 0 → x = 0) : Calls Tryd.prog 30 #[u] w (Gives (THREE (IS (.int .i64 (n : Nat))) (IS (.int .i64 (x : Nat))) (IS (.int .i64 0))) w) := by
  rcases Nat.eq_zero_or_pos n with e | e
  · have := h0 e
    subst this
    have := shape_0 w u n k A h hn (by omega)
    rw [e]
    exact this
  · exact shape_y w u n k A h hn x hR e
theorem h_shape_n (w : World) (u : Value) (n k : Nat) (A : List (List Int)) (h : Hs w (Mv n A k) u) (hn : n ≤ 1048576) (hR : ¬ reg A = true) : Calls Tryd.prog 30 #[u] w (Gives (THREE (IS (.int .i64 0)) (IS (.int .i64 0)) (IS (.int .i64 8))) w) := by
  obtain ⟨i, r, hr, hl⟩ := reg_n hR
  have hlt := (List.getElem?_eq_some_iff.1 hr).1
  obtain ⟨f0, hf0⟩ : ∃ a, A[0]? = some a := ⟨A[0]'(by omega), List.getElem?_eq_getElem _⟩
  rw [wd_at hf0] at hl
  exact shape_n w u n k A h hn f0 r i hf0 hr hl

end Go.Proofs.YtdhjgekbocnnkaaDoor
