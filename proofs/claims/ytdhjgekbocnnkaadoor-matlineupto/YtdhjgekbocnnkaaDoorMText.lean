/-
  mat.TextVector, mat.Text; the law's alive.
-/
import Derived.Test.YtdhjgekbocnnkaaDoorZText
import Derived.Test.YtdhjgekbocnnkaaDoorMVec
import Derived.Test.YtdhjgekbocnnkaaDoorMUnit
namespace Go.Proofs.YtdhjgekbocnnkaaDoor
open Go Go.RowKit Nt
set_option linter.unusedSimpArgs false
set_option linter.unusedVariables false
set_option maxRecDepth 20000


theorem idx_ss : Idx 48 1 := fun ρ o x y w b k i n c hi hx hy => by
  rw [Nat.one_mul]
  unfold execOp
  go_simp
theorem sto_s1 : Sto 9 1 := fun ρ o x y w b k u hu ht hx hy => by
  obtain ⟨e, h1⟩ := celv1 hu
  obtain ⟨h2, h3⟩ := ht 0 (by decide)
  obtain ⟨v, hv⟩ := Option.isSome_iff_exists.1 h2
  rw [Nat.add_zero] at hv h3
  rw [e]
  simp only [World.setCells]
  clear ht hu h2 e
  cases u <;> first | (simp [Value.oneCell'] at h1; done) | (unfold execOp; go_simp; done) | (unfold execOp; go_simp; rw [run_store _ _ _ _ _ h1]; simp [hv, h3]; done)
theorem run_eqs (ρ : Operand → Value) (o : Oper) (x y : Operand) (w : World) (a : ByteArray) (h1 : ρ x = .string a) (h2 : ρ y = .string a) : (execOp ρ { o with op := .binOp .eql 9 x y 9 }).run Tryd.prog w = .ok (.value (.bool true)) w := by
  unfold execOp
  go_simp
theorem infoS : (Tryd.prog.info? 9).map (fun i => (i.zero, i.size, i.bytes)) = some (some (.string ⟨#[]⟩), 1, 16) := by kernel_rfl

set_option maxHeartbeats 400000 in
theorem eachs_w (w : World) (u f : Value) (n : Nat) (φs : List Pr) (ψs : List (Nat → Pr)) (hl : φs.length = n) (hl' : ψs.length = n) (h : Hs w (Ar 2 n φs) u) (hf : Hs w (Fn1 φs ψs) f) (hS : ∀ (i : Nat) φ, φs[i]? = some φ → Shp 2 φ) (hψ : ∀ (i : Nat) ψ, ψs[i]? = some ψ → Fresh ψ ∧ ∀ lo, Cel 1 (ψ lo)) (hn : n ≤ 1048576) :
    Calls Tryd.prog 25 #[u, f] w (Gives (LF 1 n ψs) w) := by
  refine calls_sta (sl := [(0, (Ar 2 n φs)), (1, (Fn1 φs ψs))]) Tryd.func25 rfl Tryd.ntmps25 (by simp) (args_cons rfl (h) (args_cons rfl (hf) args_nil)) ?_
  intro a0 S0
  refine wp_stmt_seq [.val (Is (.slice none 0 0))] [] [.inl 0, .inr 0, .inr 1] follows S0 rfl (by kernel_rfl) ?_ ?_
  · refine ⟨trivial, ?_⟩
    · exact owe_move rfl (wants_all rfl) (Or.inr rfl) (opnd_const _) rfl
  intro B1 a1 W1 S1
  replace S1 : Sta w 26 [] [(4, (Is (.slice none 0 0))), (0, (Ar 2 n φs)), (1, (Fn1 φs ψs))] B1 a1 W1 := S1
  refine wp_stmt_seq [.val (Ar 2 n φs),
      .val (Is (.int .i64 (n : Nat))),
      .new (.row 9 1 n (CE 1 (List.replicate n (Is (.string ⟨#[]⟩))))),
      .ref 2] [.inl 3] [.inr 0, .inr 1, .inr 2] follows S1 rfl (by kernel_rfl) ?_ ?_
  · refine ⟨⟨⟨⟨trivial, ?_⟩, ?_⟩, ?_⟩, ?_⟩
    · exact owe_move rfl (wants_all rfl) (Or.inl rfl) (opnd_slot 1 0 rfl (by kernel_rfl)) rfl
    · exact owe_len rfl (wants_all rfl) rfl (opnd_op 0 8 (by kernel_rfl) rfl) ar_len Tryd.underlying23 rfl
    · exact owe_makeE rfl (wants_all rfl) rfl Tryd.underlying48 infoS (celv_one rfl) (by decide) (opnd_op 1 9 (by kernel_rfl) rfl) ⟨by omega, by unfold maxLen; omega⟩ rfl
    · exact owe_ref 2 rfl (wants_all rfl) (Or.inr rfl) (by kernel_rfl) rfl rfl
  intro B2 a2 W2 S2
  replace S2 : Sta w 26 [(5, (.row 9 1 n (CE 1 (List.replicate n (Is (.string ⟨#[]⟩))))))] [(4, (Is (.slice none 0 0))), (0, (Ar 2 n φs)), (1, (Fn1 φs ψs))] B2 a2 W2 := S2
  refine wp_seq ?_
  refine wp_stmt_seq [.val (Ar 2 n φs),
      .val (Is (.int .i64 (n : Nat))),
      .val (Is (.int .i64 0))] [.inr 0] [.inl 0, .inl 1, .inl 2, .inr 0, .inr 1, .inr 2] follows S2 rfl (by kernel_rfl) ?_ ?_
  · refine ⟨⟨⟨trivial, ?_⟩, ?_⟩, ?_⟩
    · exact owe_move rfl (wants_all rfl) (Or.inl rfl) (opnd_slot 1 0 rfl (by kernel_rfl)) rfl
    · exact owe_len rfl (wants_all rfl) rfl (opnd_op 0 11 (by kernel_rfl) rfl) ar_len Tryd.underlying23 rfl
    · exact owe_move rfl (wants_all rfl) (Or.inl rfl) (opnd_const _) rfl
  intro B3 a3 W3 S3
  replace S3 : Sta w 26 [(5, (.row 9 1 n (CE 1 (List.replicate n (Is (.string ⟨#[]⟩))))))] [(11, (Ar 2 n φs)), (12, (Is (.int .i64 (n : Nat)))), (13, (Is (.int .i64 0))), (4, (Is (.slice none 0 0))), (0, (Ar 2 n φs)), (1, (Fn1 φs ψs))] B3 a3 W3 := S3
  refine wp_block ?_
  refine wp_loop_ghost (fun (k : Nat) a W => (k ≤ n) ∧ ∃ Bq, Sta w 26 [(5, (.row 9 1 n (CE 1 ((ψs.map (· w.heap.size)).take k ++ List.replicate (n - k) (Is (.string ⟨#[]⟩))))))] [(11, (Ar 2 n φs)), (12, (Is (.int .i64 (n : Nat)))), (13, (Is (.int .i64 k))), (1, (Fn1 φs ψs))] Bq a W) (fun (k : Nat) => n - k) ?_ 0 ⟨Nat.zero_le _, B3, S3.sub [0] [0, 1, 2, 5]⟩
  rintro k a4 W4 ⟨hcond, B4, S4⟩
  by_cases hlt : k < n
  · obtain ⟨φ, hφ⟩ : ∃ φ, φs[k]? = some φ := ⟨φs[k]'(by omega), List.getElem?_eq_getElem _⟩
    obtain ⟨ψ, hψk⟩ : ∃ ψ, ψs[k]? = some ψ := ⟨ψs[k]'(by omega), List.getElem?_eq_getElem _⟩
    have hset := set_next (z := Is (.string ⟨#[]⟩)) (xs := (ψs.map (· w.heap.size))) (n := n) (by simp [hl']) (map_get' (· w.heap.size) hψk)
    refine wp_stmt_seq [.val (Is (.bool true))] [.inr 0] [.inl 0, .inr 0, .inr 1, .inr 2, .inr 3] follows S4 rfl (by kernel_rfl) ?_ ?_
    · refine ⟨trivial, ?_⟩
      · exact owe_bin rfl (wants_all rfl) rfl (opnd_slot 2 13 rfl (by kernel_rfl)) (opnd_slot 1 12 rfl (by kernel_rfl)) rfl (fun ρ w h1 h2 => by exact run_lss_int_t ρ _ _ _ w _ _ (by omega) h1 h2)
    intro B5 a5 W5 S5
    replace S5 : Sta w 26 [(5, (.row 9 1 n (CE 1 ((ψs.map (· w.heap.size)).take k ++ List.replicate (n - k) (Is (.string ⟨#[]⟩))))))] [(14, (Is (.bool true))), (11, (Ar 2 n φs)), (12, (Is (.int .i64 (n : Nat)))), (13, (Is (.int .i64 k))), (1, (Fn1 φs ψs))] B5 a5 W5 := S5
    refine wp_seq ?_
    refine wp_cond_true (S5.bool 0 14 rfl) ?_
    refine wp_skip ?_
    refine thenN ?_
    refine wp_seq ?_
    refine wp_block ?_
    refine wp_stmt_seq [.val (Is (.int .i64 k)),
      .val (AtE 2 φ),
      .val φ,
      .new (.box 36 (Is (.agg #[.bool false, .slice none 0 0]))),
      .val (Is (.int .i64 k)),
      .put (.inr 3) (.box 36 φ)] [.inr 0, .inl 3] [.inl 4, .inr 0, .inr 1, .inr 2, .inr 3, .inr 4] follows S5 rfl (by kernel_rfl) ?_ ?_
    · refine ⟨⟨⟨⟨⟨⟨trivial, ?_⟩, ?_⟩, ?_⟩, ?_⟩, ?_⟩, ?_⟩
      · exact owe_move rfl (wants_all rfl) (Or.inl rfl) (opnd_slot 3 13 rfl (by kernel_rfl)) rfl
      · exact owe_aindex rfl (wants_all rfl) rfl idx_ints (opnd_slot 1 11 rfl (by kernel_rfl)) (opnd_slot 3 13 rfl (by kernel_rfl)) hφ rfl
      · exact owe_aload rfl (wants_all rfl) rfl ldr_int (by decide) (cel_shp (by decide) (hS k φ hφ)) (opnd_op 1 16 (by kernel_rfl) rfl) rfl
      · exact owe_new rfl (wants_all rfl) rfl rfl (fun ρ w => alloc_int ρ _ w)
      · exact owe_move rfl (wants_all rfl) (Or.inr rfl) (opnd_op 0 15 (by kernel_rfl) rfl) rfl
      · exact owe_put 3 rfl (wants_all rfl) rfl (by kernel_rfl) rfl (opnd_op 2 17 (by kernel_rfl) rfl) (stores_of strct_int shp_z0 (hS k φ hφ)) rfl
    intro B6 a6 W6 S6
    replace S6 : Sta w 26 [(5, (.row 9 1 n (CE 1 ((ψs.map (· w.heap.size)).take k ++ List.replicate (n - k) (Is (.string ⟨#[]⟩)))))), (7, (.box 36 φ))] [(6, (Is (.int .i64 k))), (14, (Is (.bool true))), (11, (Ar 2 n φs)), (12, (Is (.int .i64 (n : Nat)))), (13, (Is (.int .i64 k))), (1, (Fn1 φs ψs))] B6 a6 W6 := S6
    refine wp_stmt [.val (Is (a6.eval (.tmp 5))),
      .val (Is (.int .i64 k)),
      .val (Fn1 φs ψs),
      .val φ,
      .val (ψ w.heap.size),
      .val (REt a6 5 (1 * k)),
      .put (.inl 5) (.row 9 1 n (CE 1 ((ψs.map (· w.heap.size)).take (k + 1) ++ List.replicate (n - (k + 1)) (Is (.string ⟨#[]⟩)))))] [.inr 0, .inr 1] [.inr 1, .inr 2, .inr 3, .inr 4, .inr 5] follows S6 rfl (by kernel_rfl) ?_ ?_
    · refine ⟨⟨⟨⟨⟨⟨⟨trivial, ?_⟩, ?_⟩, ?_⟩, ?_⟩, ?_⟩, ?_⟩, ?_⟩
      · exact owe_same rfl (wants_all rfl) (Or.inl rfl) (by kernel_rfl) rfl
      · exact owe_move rfl (wants_all rfl) (Or.inl rfl) (opnd_slot 0 6 rfl (by kernel_rfl)) rfl
      · exact owe_move rfl (wants_all rfl) (Or.inl rfl) (opnd_slot 5 1 rfl (by kernel_rfl)) rfl
      · exact owe_load rfl (wants_all rfl) rfl (k := 1) rfl (by kernel_rfl) (loads_of strct_int (hS k φ hφ)) rfl
      · exact owe_callv1 k rfl (wants_all rfl) rfl (opnd_op 2 20 (by kernel_rfl) rfl) hφ hψk (opnd_op 3 21 (by kernel_rfl) rfl) (hψ k ψ hψk).1 rfl
      · exact owe_rindexE rfl (wants_all rfl) rfl idx_ss (opnd_op 0 18 (by kernel_rfl) rfl) (k := 0) rfl (by kernel_rfl) (opnd_op 1 19 (by kernel_rfl) rfl) hlt rfl
      · exact owe_rstoreE rfl (wants_all rfl) rfl sto_s1 (by decide) (opnd_op 5 23 (by kernel_rfl) rfl) (k := 0) rfl (by kernel_rfl) (opnd_op 4 22 (by kernel_rfl) rfl) ((hψ k ψ hψk).2 _) hlt (by rw [hset]; rfl)
    intro B7 a7 W7 S7
    replace S7 : Sta w 26 [(5, (.row 9 1 n (CE 1 ((ψs.map (· w.heap.size)).take (k + 1) ++ List.replicate (n - (k + 1)) (Is (.string ⟨#[]⟩)))))), (7, (.box 36 φ))] [(14, (Is (.bool true))), (11, (Ar 2 n φs)), (12, (Is (.int .i64 (n : Nat)))), (13, (Is (.int .i64 k))), (1, (Fn1 φs ψs))] B7 a7 W7 := S7
    refine inBlkN ?_
    refine thenN ?_
    refine wp_stmt [.val (Is (.int .i64 (k + 1 : Nat))),
      .val (Is (.int .i64 (k + 1 : Nat)))] [.inr 0, .inr 1] [.inl 1, .inr 0, .inr 1, .inr 2, .inr 4] follows S7 rfl (by kernel_rfl) ?_ ?_
    · refine ⟨⟨trivial, ?_⟩, ?_⟩
      · exact owe_bin rfl (wants_all rfl) rfl (opnd_slot 3 13 rfl (by kernel_rfl)) (opnd_const _) rfl (fun ρ w h1 h2 => by exact run_add_int ρ _ _ _ w _ _ _ ⟨by omega, by omega, by omega⟩ h1 h2)
      · exact owe_move rfl (wants_all rfl) (Or.inl rfl) (opnd_op 0 24 (by kernel_rfl) rfl) rfl
    intro B8 a8 W8 S8
    replace S8 : Sta w 26 [(5, (.row 9 1 n (CE 1 ((ψs.map (· w.heap.size)).take (k + 1) ++ List.replicate (n - (k + 1)) (Is (.string ⟨#[]⟩)))))), (7, (.box 36 φ))] [(13, (Is (.int .i64 (k + 1 : Nat)))), (14, (Is (.bool true))), (11, (Ar 2 n φs)), (12, (Is (.int .i64 (n : Nat)))), (1, (Fn1 φs ψs))] B8 a8 W8 := S8
    refine thenN ?_
    exact ⟨k + 1, ⟨by omega, B8, S8.sub [0] [2, 3, 0, 4]⟩, by omega⟩
  · have hend := fill_end (z := Is (.string ⟨#[]⟩)) (xs := (ψs.map (· w.heap.size))) (n := n) (k := k) (by simp [hl']) (by omega)
    refine wp_stmt_seq [.val (Is (.bool false))] [.inr 0] [.inl 0, .inr 0, .inr 1, .inr 2, .inr 3] follows S4 rfl (by kernel_rfl) ?_ ?_
    · refine ⟨trivial, ?_⟩
      · exact owe_bin rfl (wants_all rfl) rfl (opnd_slot 2 13 rfl (by kernel_rfl)) (opnd_slot 1 12 rfl (by kernel_rfl)) rfl (fun ρ w h1 h2 => by exact run_lss_int_f ρ _ _ _ w _ _ (by omega) h1 h2)
    intro B5 a5 W5 S5
    replace S5 : Sta w 26 [(5, (.row 9 1 n (CE 1 ((ψs.map (· w.heap.size)).take k ++ List.replicate (n - k) (Is (.string ⟨#[]⟩))))))] [(14, (Is (.bool false))), (11, (Ar 2 n φs)), (12, (Is (.int .i64 (n : Nat)))), (13, (Is (.int .i64 k))), (1, (Fn1 φs ψs))] B5 a5 W5 := S5
    refine wp_seq ?_
    refine wp_cond_false (S5.bool 0 14 rfl) ?_
    refine wp_exit ?_
    refine thenX ?_
    refine thenX ?_
    refine inBlkE ?_
    refine thenN ?_
    obtain ⟨B6, S6⟩ : ∃ Bq, Sta w 26 [] [(5, ((LF 1 n ψs) w.heap.size)), (14, (Is (.bool false))), (11, (Ar 2 n φs)), (12, (Is (.int .i64 (n : Nat)))), (13, (Is (.int .i64 k))), (1, (Fn1 φs ψs))] Bq a5 W5 := ⟨_, S5.freeze 0 rfl (by simp) (fun v w' xs ho hc => row_lf (by decide) v w' xs ho (by rw [hend] at hc; exact hc))⟩
    obtain ⟨a6, W6, e1, e2⟩ : ∃ a W, a5 = a ∧ W5 = W := ⟨_, _, rfl, rfl⟩
    rw [e1, e2] at S6 ⊢
    clear e1 e2
    refine wp_stmt_seq [.val ((LF 1 n ψs) w.heap.size),
      .val ((LF 1 n ψs) w.heap.size)] [] [.inl 1, .inr 0, .inr 1, .inr 2, .inr 3, .inr 4, .inr 5] follows S6 rfl (by kernel_rfl) ?_ ?_
    · refine ⟨⟨trivial, ?_⟩, ?_⟩
      · exact owe_move rfl (wants_all rfl) (Or.inl rfl) (opnd_slot 0 5 rfl (by kernel_rfl)) rfl
      · exact owe_move rfl (wants_all rfl) (Or.inr rfl) (opnd_op 0 25 (by kernel_rfl) rfl) rfl
    intro B7 a7 W7 S7
    replace S7 : Sta w 26 [] [(4, ((LF 1 n ψs) w.heap.size)), (5, ((LF 1 n ψs) w.heap.size)), (14, (Is (.bool false))), (11, (Ar 2 n φs)), (12, (Is (.int .i64 (n : Nat)))), (13, (Is (.int .i64 k))), (1, (Fn1 φs ψs))] B7 a7 W7 := S7
    refine wp_ret ?_
    exact end_one S7 rfl (res_tmp S7 0 4 rfl)

set_option maxHeartbeats 400000 in
theorem eachss_w (w : World) (u f : Value) (n : Nat) (φs : List Pr) (ψs : List (Nat → Pr)) (hl : φs.length = n) (hl' : ψs.length = n) (h : Hs w (Ar 1 n φs) u) (hf : Hs w (Fn1 φs ψs) f) (hS : ∀ (i : Nat) φ, φs[i]? = some φ → Cel 1 φ) (hψ : ∀ (i : Nat) ψ, ψs[i]? = some ψ → Fresh ψ ∧ ∀ lo, Cel 1 (ψ lo)) (hn : n ≤ 1048576) :
    Calls Tryd.prog 24 #[u, f] w (Gives (LF 1 n ψs) w) := by
  refine calls_sta (sl := [(0, (Ar 1 n φs)), (1, (Fn1 φs ψs))]) Tryd.func24 rfl Tryd.ntmps24 (by simp) (args_cons rfl (h) (args_cons rfl (hf) args_nil)) ?_
  intro a0 S0
  refine wp_stmt_seq [.val (Is (.slice none 0 0))] [] [.inl 0, .inr 0, .inr 1] follows S0 rfl (by kernel_rfl) ?_ ?_
  · refine ⟨trivial, ?_⟩
    · exact owe_move rfl (wants_all rfl) (Or.inr rfl) (opnd_const _) rfl
  intro B1 a1 W1 S1
  replace S1 : Sta w 26 [] [(4, (Is (.slice none 0 0))), (0, (Ar 1 n φs)), (1, (Fn1 φs ψs))] B1 a1 W1 := S1
  refine wp_stmt_seq [.val (Ar 1 n φs),
      .val (Is (.int .i64 (n : Nat))),
      .new (.row 9 1 n (CE 1 (List.replicate n (Is (.string ⟨#[]⟩))))),
      .ref 2] [.inl 3] [.inr 0, .inr 1, .inr 2] follows S1 rfl (by kernel_rfl) ?_ ?_
  · refine ⟨⟨⟨⟨trivial, ?_⟩, ?_⟩, ?_⟩, ?_⟩
    · exact owe_move rfl (wants_all rfl) (Or.inl rfl) (opnd_slot 1 0 rfl (by kernel_rfl)) rfl
    · exact owe_len rfl (wants_all rfl) rfl (opnd_op 0 8 (by kernel_rfl) rfl) ar_len Tryd.underlying22 rfl
    · exact owe_makeE rfl (wants_all rfl) rfl Tryd.underlying48 infoS (celv_one rfl) (by decide) (opnd_op 1 9 (by kernel_rfl) rfl) ⟨by omega, by unfold maxLen; omega⟩ rfl
    · exact owe_ref 2 rfl (wants_all rfl) (Or.inr rfl) (by kernel_rfl) rfl rfl
  intro B2 a2 W2 S2
  replace S2 : Sta w 26 [(5, (.row 9 1 n (CE 1 (List.replicate n (Is (.string ⟨#[]⟩))))))] [(4, (Is (.slice none 0 0))), (0, (Ar 1 n φs)), (1, (Fn1 φs ψs))] B2 a2 W2 := S2
  refine wp_seq ?_
  refine wp_stmt_seq [.val (Ar 1 n φs),
      .val (Is (.int .i64 (n : Nat))),
      .val (Is (.int .i64 0))] [.inr 0] [.inl 0, .inl 1, .inl 2, .inr 0, .inr 1, .inr 2] follows S2 rfl (by kernel_rfl) ?_ ?_
  · refine ⟨⟨⟨trivial, ?_⟩, ?_⟩, ?_⟩
    · exact owe_move rfl (wants_all rfl) (Or.inl rfl) (opnd_slot 1 0 rfl (by kernel_rfl)) rfl
    · exact owe_len rfl (wants_all rfl) rfl (opnd_op 0 11 (by kernel_rfl) rfl) ar_len Tryd.underlying22 rfl
    · exact owe_move rfl (wants_all rfl) (Or.inl rfl) (opnd_const _) rfl
  intro B3 a3 W3 S3
  replace S3 : Sta w 26 [(5, (.row 9 1 n (CE 1 (List.replicate n (Is (.string ⟨#[]⟩))))))] [(11, (Ar 1 n φs)), (12, (Is (.int .i64 (n : Nat)))), (13, (Is (.int .i64 0))), (4, (Is (.slice none 0 0))), (0, (Ar 1 n φs)), (1, (Fn1 φs ψs))] B3 a3 W3 := S3
  refine wp_block ?_
  refine wp_loop_ghost (fun (k : Nat) a W => (k ≤ n) ∧ ∃ Bq, Sta w 26 [(5, (.row 9 1 n (CE 1 ((ψs.map (· w.heap.size)).take k ++ List.replicate (n - k) (Is (.string ⟨#[]⟩))))))] [(11, (Ar 1 n φs)), (12, (Is (.int .i64 (n : Nat)))), (13, (Is (.int .i64 k))), (1, (Fn1 φs ψs))] Bq a W) (fun (k : Nat) => n - k) ?_ 0 ⟨Nat.zero_le _, B3, S3.sub [0] [0, 1, 2, 5]⟩
  rintro k a4 W4 ⟨hcond, B4, S4⟩
  by_cases hlt : k < n
  · obtain ⟨φ, hφ⟩ : ∃ φ, φs[k]? = some φ := ⟨φs[k]'(by omega), List.getElem?_eq_getElem _⟩
    obtain ⟨ψ, hψk⟩ : ∃ ψ, ψs[k]? = some ψ := ⟨ψs[k]'(by omega), List.getElem?_eq_getElem _⟩
    have hset := set_next (z := Is (.string ⟨#[]⟩)) (xs := (ψs.map (· w.heap.size))) (n := n) (by simp [hl']) (map_get' (· w.heap.size) hψk)
    refine wp_stmt_seq [.val (Is (.bool true))] [.inr 0] [.inl 0, .inr 0, .inr 1, .inr 2, .inr 3] follows S4 rfl (by kernel_rfl) ?_ ?_
    · refine ⟨trivial, ?_⟩
      · exact owe_bin rfl (wants_all rfl) rfl (opnd_slot 2 13 rfl (by kernel_rfl)) (opnd_slot 1 12 rfl (by kernel_rfl)) rfl (fun ρ w h1 h2 => by exact run_lss_int_t ρ _ _ _ w _ _ (by omega) h1 h2)
    intro B5 a5 W5 S5
    replace S5 : Sta w 26 [(5, (.row 9 1 n (CE 1 ((ψs.map (· w.heap.size)).take k ++ List.replicate (n - k) (Is (.string ⟨#[]⟩))))))] [(14, (Is (.bool true))), (11, (Ar 1 n φs)), (12, (Is (.int .i64 (n : Nat)))), (13, (Is (.int .i64 k))), (1, (Fn1 φs ψs))] B5 a5 W5 := S5
    refine wp_seq ?_
    refine wp_cond_true (S5.bool 0 14 rfl) ?_
    refine wp_skip ?_
    refine thenN ?_
    refine wp_seq ?_
    refine wp_block ?_
    refine wp_stmt_seq [.val (Is (.int .i64 k)),
      .val (AtE 1 φ),
      .val φ,
      .val (Is (.int .i64 k)),
      .val φ] [.inr 0] [.inl 3, .inl 4, .inr 0, .inr 1, .inr 2, .inr 3, .inr 4] follows S5 rfl (by kernel_rfl) ?_ ?_
    · refine ⟨⟨⟨⟨⟨trivial, ?_⟩, ?_⟩, ?_⟩, ?_⟩, ?_⟩
      · exact owe_move rfl (wants_all rfl) (Or.inl rfl) (opnd_slot 3 13 rfl (by kernel_rfl)) rfl
      · exact owe_aindex rfl (wants_all rfl) rfl idx_rows (opnd_slot 1 11 rfl (by kernel_rfl)) (opnd_slot 3 13 rfl (by kernel_rfl)) hφ rfl
      · exact owe_aload rfl (wants_all rfl) rfl ldr_row1 (by decide) (hS k φ hφ) (opnd_op 1 16 (by kernel_rfl) rfl) rfl
      · exact owe_move rfl (wants_all rfl) (Or.inr rfl) (opnd_op 0 15 (by kernel_rfl) rfl) rfl
      · exact owe_move rfl (wants_all rfl) (Or.inr rfl) (opnd_op 2 17 (by kernel_rfl) rfl) rfl
    intro B6 a6 W6 S6
    replace S6 : Sta w 26 [(5, (.row 9 1 n (CE 1 ((ψs.map (· w.heap.size)).take k ++ List.replicate (n - k) (Is (.string ⟨#[]⟩))))))] [(6, (Is (.int .i64 k))), (7, φ), (14, (Is (.bool true))), (11, (Ar 1 n φs)), (12, (Is (.int .i64 (n : Nat)))), (13, (Is (.int .i64 k))), (1, (Fn1 φs ψs))] B6 a6 W6 := S6
    refine wp_stmt [.val (Is (a6.eval (.tmp 5))),
      .val (Is (.int .i64 k)),
      .val (Fn1 φs ψs),
      .val φ,
      .val (ψ w.heap.size),
      .val (REt a6 5 (1 * k)),
      .put (.inl 5) (.row 9 1 n (CE 1 ((ψs.map (· w.heap.size)).take (k + 1) ++ List.replicate (n - (k + 1)) (Is (.string ⟨#[]⟩)))))] [.inr 0] [.inr 2, .inr 3, .inr 4, .inr 5, .inr 6] follows S6 rfl (by kernel_rfl) ?_ ?_
    · refine ⟨⟨⟨⟨⟨⟨⟨trivial, ?_⟩, ?_⟩, ?_⟩, ?_⟩, ?_⟩, ?_⟩, ?_⟩
      · exact owe_same rfl (wants_all rfl) (Or.inl rfl) (by kernel_rfl) rfl
      · exact owe_move rfl (wants_all rfl) (Or.inl rfl) (opnd_slot 0 6 rfl (by kernel_rfl)) rfl
      · exact owe_move rfl (wants_all rfl) (Or.inl rfl) (opnd_slot 6 1 rfl (by kernel_rfl)) rfl
      · exact owe_move rfl (wants_all rfl) (Or.inl rfl) (opnd_slot 1 7 rfl (by kernel_rfl)) rfl
      · exact owe_callv1 k rfl (wants_all rfl) rfl (opnd_op 2 20 (by kernel_rfl) rfl) hφ hψk (opnd_op 3 21 (by kernel_rfl) rfl) (hψ k ψ hψk).1 rfl
      · exact owe_rindexE rfl (wants_all rfl) rfl idx_ss (opnd_op 0 18 (by kernel_rfl) rfl) (k := 0) rfl (by kernel_rfl) (opnd_op 1 19 (by kernel_rfl) rfl) hlt rfl
      · exact owe_rstoreE rfl (wants_all rfl) rfl sto_s1 (by decide) (opnd_op 5 23 (by kernel_rfl) rfl) (k := 0) rfl (by kernel_rfl) (opnd_op 4 22 (by kernel_rfl) rfl) ((hψ k ψ hψk).2 _) hlt (by rw [hset]; rfl)
    intro B7 a7 W7 S7
    replace S7 : Sta w 26 [(5, (.row 9 1 n (CE 1 ((ψs.map (· w.heap.size)).take (k + 1) ++ List.replicate (n - (k + 1)) (Is (.string ⟨#[]⟩))))))] [(14, (Is (.bool true))), (11, (Ar 1 n φs)), (12, (Is (.int .i64 (n : Nat)))), (13, (Is (.int .i64 k))), (1, (Fn1 φs ψs))] B7 a7 W7 := S7
    refine inBlkN ?_
    refine thenN ?_
    refine wp_stmt [.val (Is (.int .i64 (k + 1 : Nat))),
      .val (Is (.int .i64 (k + 1 : Nat)))] [.inr 0] [.inl 1, .inr 0, .inr 1, .inr 2, .inr 4] follows S7 rfl (by kernel_rfl) ?_ ?_
    · refine ⟨⟨trivial, ?_⟩, ?_⟩
      · exact owe_bin rfl (wants_all rfl) rfl (opnd_slot 3 13 rfl (by kernel_rfl)) (opnd_const _) rfl (fun ρ w h1 h2 => by exact run_add_int ρ _ _ _ w _ _ _ ⟨by omega, by omega, by omega⟩ h1 h2)
      · exact owe_move rfl (wants_all rfl) (Or.inl rfl) (opnd_op 0 24 (by kernel_rfl) rfl) rfl
    intro B8 a8 W8 S8
    replace S8 : Sta w 26 [(5, (.row 9 1 n (CE 1 ((ψs.map (· w.heap.size)).take (k + 1) ++ List.replicate (n - (k + 1)) (Is (.string ⟨#[]⟩))))))] [(13, (Is (.int .i64 (k + 1 : Nat)))), (14, (Is (.bool true))), (11, (Ar 1 n φs)), (12, (Is (.int .i64 (n : Nat)))), (1, (Fn1 φs ψs))] B8 a8 W8 := S8
    refine thenN ?_
    exact ⟨k + 1, ⟨by omega, B8, S8.sub [0] [2, 3, 0, 4]⟩, by omega⟩
  · have hend := fill_end (z := Is (.string ⟨#[]⟩)) (xs := (ψs.map (· w.heap.size))) (n := n) (k := k) (by simp [hl']) (by omega)
    refine wp_stmt_seq [.val (Is (.bool false))] [.inr 0] [.inl 0, .inr 0, .inr 1, .inr 2, .inr 3] follows S4 rfl (by kernel_rfl) ?_ ?_
    · refine ⟨trivial, ?_⟩
      · exact owe_bin rfl (wants_all rfl) rfl (opnd_slot 2 13 rfl (by kernel_rfl)) (opnd_slot 1 12 rfl (by kernel_rfl)) rfl (fun ρ w h1 h2 => by exact run_lss_int_f ρ _ _ _ w _ _ (by omega) h1 h2)
    intro B5 a5 W5 S5
    replace S5 : Sta w 26 [(5, (.row 9 1 n (CE 1 ((ψs.map (· w.heap.size)).take k ++ List.replicate (n - k) (Is (.string ⟨#[]⟩))))))] [(14, (Is (.bool false))), (11, (Ar 1 n φs)), (12, (Is (.int .i64 (n : Nat)))), (13, (Is (.int .i64 k))), (1, (Fn1 φs ψs))] B5 a5 W5 := S5
    refine wp_seq ?_
    refine wp_cond_false (S5.bool 0 14 rfl) ?_
    refine wp_exit ?_
    refine thenX ?_
    refine thenX ?_
    refine inBlkE ?_
    refine thenN ?_
    obtain ⟨B6, S6⟩ : ∃ Bq, Sta w 26 [] [(5, ((LF 1 n ψs) w.heap.size)), (14, (Is (.bool false))), (11, (Ar 1 n φs)), (12, (Is (.int .i64 (n : Nat)))), (13, (Is (.int .i64 k))), (1, (Fn1 φs ψs))] Bq a5 W5 := ⟨_, S5.freeze 0 rfl (by simp) (fun v w' xs ho hc => row_lf (by decide) v w' xs ho (by rw [hend] at hc; exact hc))⟩
    obtain ⟨a6, W6, e1, e2⟩ : ∃ a W, a5 = a ∧ W5 = W := ⟨_, _, rfl, rfl⟩
    rw [e1, e2] at S6 ⊢
    clear e1 e2
    refine wp_stmt_seq [.val ((LF 1 n ψs) w.heap.size),
      .val ((LF 1 n ψs) w.heap.size)] [] [.inl 1, .inr 0, .inr 1, .inr 2, .inr 3, .inr 4, .inr 5] follows S6 rfl (by kernel_rfl) ?_ ?_
    · refine ⟨⟨trivial, ?_⟩, ?_⟩
      · exact owe_move rfl (wants_all rfl) (Or.inl rfl) (opnd_slot 0 5 rfl (by kernel_rfl)) rfl
      · exact owe_move rfl (wants_all rfl) (Or.inr rfl) (opnd_op 0 25 (by kernel_rfl) rfl) rfl
    intro B7 a7 W7 S7
    replace S7 : Sta w 26 [] [(4, ((LF 1 n ψs) w.heap.size)), (5, ((LF 1 n ψs) w.heap.size)), (14, (Is (.bool false))), (11, (Ar 1 n φs)), (12, (Is (.int .i64 (n : Nat)))), (13, (Is (.int .i64 k))), (1, (Fn1 φs ψs))] B7 a7 W7 := S7
    refine wp_ret ?_
    exact end_one S7 rfl (res_tmp S7 0 4 rfl)

theorem fresh_strs {α : Type} {f : α → Value} {n : Nat} {l : List α} : Fresh (LF 1 n (l.map (fun a => IS (f a)))) := fresh_lf (by decide) (fun i ψ h => by obtain ⟨x, _, rfl⟩ := map_get h; exact fresh_is _)
theorem strs_ar {α : Type} {f : α → List UInt8} {n lo : Nat} {l : List α} : ∀ v w, LF 1 n (l.map (fun a => IS (str (f a)))) lo v w → Ar 1 n ((l.map f).map (fun x => Is (str x))) v w := fun v w h => by
  have := lf_ar v w h
  simp only [List.map_map] at this ⊢
  exact this
theorem h_eachs {n k : Nat} {As : List Int} (hn : n ≤ 1048576) : ∀ w u f, Hs w (Vv n As k) u → Hs w (Fn1 (As.map (fun z => Zv z k)) (As.map (fun a => IS (str (txZ a))))) f → Calls Tryd.prog 25 #[u, f] w (Gives (LF 1 n (As.map (fun a => IS (str (txZ a))))) w) := fun w u f hu hf => by
  obtain ⟨p, c, _, hl, _⟩ := hu.now
  have hl' : As.length = n := by simpa using hl
  exact eachs_w w u f n _ _ (by simp [hl']) (by simp [hl']) hu hf (fun i φ h => by obtain ⟨a, _, rfl⟩ := map_get h; exact shp_zv) (fun i ψ h => by obtain ⟨a, _, rfl⟩ := map_get h; exact ⟨fresh_is _, fun lo => cel_is rfl⟩) hn
theorem h_eachss {n k : Nat} {A : List (List Int)} (hn : n ≤ 1048576) : ∀ w u f, Hs w (Mv n A k) u → Hs w (Fn1 (A.map (fun r => Vv r.length r k)) (A.map (fun r => IS (str (txV r))))) f → Calls Tryd.prog 24 #[u, f] w (Gives (LF 1 n (A.map (fun r => IS (str (txV r))))) w) := fun w u f hu hf => by
  obtain ⟨p, c, _, hl, _⟩ := hu.now
  have hl' : A.length = n := by simpa using hl
  exact eachss_w w u f n _ _ (by simp [hl']) (by simp [hl']) hu hf (fun i φ h => by obtain ⟨a, _, rfl⟩ := map_get h; exact cel_ar) (fun i ψ h => by obtain ⟨a, _, rfl⟩ := map_get h; exact ⟨fresh_is _, fun lo => cel_is rfl⟩) hn
theorem fn1_mapT {α : Type} {f : Nat} {φ : α → Pr} {G : α → Nat → Pr} {As : List α} (hcf : ∀ args w, (callFunc f args).run Tryd.prog w = .ok (.enter f args) w) (C : ∀ a, a ∈ As → ∀ w u, Tab w → Hs w (φ a) u → Calls Tryd.prog f #[u] w (Gives (G a) w)) : ∀ v w, TP (Is (.func (.func f) #[] #[])) v w → Fn1 (As.map φ) (As.map G) v w :=
  is_fn1T hcf (fun i φ ψ h1 h2 w u hT hu => by
    obtain ⟨a, ha, rfl⟩ := map_get h1
    obtain ⟨b, hb, rfl⟩ := map_get h2
    rw [ha] at hb
    cases hb
    exact C a (List.mem_of_getElem? ha) w u hT hu)

set_option maxHeartbeats 400000 in
theorem textv_w (w : World) (u : Value) (n k : Nat) (As : List Int) (h : Hs w (Vv n As k) u) (hn : n ≤ 1048576) (hk : k ≤ 1048576) (hT : Tab w) (hlen : (txV As).length ≤ 140737488355328) :
    Calls Tryd.prog 9 #[u] w (Gives (IS (str (txV As))) w) := by
  have hlA := vv_len h.now
  refine calls_sta (sl := [(0, (Vv n As k))]) Tryd.func9 rfl Tryd.ntmps9 (by simp) (args_cons rfl (h) args_nil) ?_
  intro a0 S0
  replace S0 : Sta w 6 [] [(0, (Vv n As k)), (1000001, TT)] (fun _ => False) a0 w := S0.moreT 1000001 (tt_has hT)
  refine wp_stmt_seq [.val (Is (.string (ByteArray.mk #[])))] [] [.inl 0, .inr 0, .inr 1] follows S0 rfl (by kernel_rfl) ?_ ?_
  · refine ⟨trivial, ?_⟩
    · exact owe_move rfl (wants_all rfl) (Or.inr rfl) (opnd_const _) rfl
  intro B1 a1 W1 S1
  replace S1 : Sta w 6 [] [(2, (Is (.string (ByteArray.mk #[])))), (0, (Vv n As k)), (1000001, TT)] B1 a1 W1 := S1
  refine wp_stmt_seq [.val (Vv n As k),
      .val ((LF 1 n (As.map (fun a => IS (str (txZ a))))) w.heap.size),
      .val (Is (str (Lib.join (As.map txZ) [32]))),
      .val (Is (str (Lib.join (As.map txZ) [32])))] [] [.inl 3, .inr 2] follows S1 rfl (by kernel_rfl) ?_ ?_
  · refine ⟨⟨⟨⟨trivial, ?_⟩, ?_⟩, ?_⟩, ?_⟩
    · exact owe_move rfl (wants_all rfl) (Or.inl rfl) (opnd_slot 1 0 rfl (by kernel_rfl)) rfl
    · exact owe_callh2 rfl (wants_all rfl) rfl (opnd_op 0 3 (by kernel_rfl) rfl) ((opnd_tp (opnd_func _) (opnd_slot 2 1000001 rfl (by kernel_rfl))).imp (fn1_mapT (fun args w => by go_simp) (fun a _ w u hT hu => h_ztext hk w u hT hu.now))) fresh_strs rfl (fun args w => by go_simp) (h_eachs hn)
    · exact owe_callh2 rfl (wants_all rfl) rfl ((opnd_op 1 4 (by kernel_rfl) rfl).imp strs_ar) ((opnd_const _).imp (fun _ _ h => h)) (fresh_is _) rfl (fun args w => by go_simp) (g_join (As.map txZ) [32] (by simp [hlA]) (by omega) hlen)
    · exact owe_move rfl (wants_all rfl) (Or.inr rfl) (opnd_op 2 5 (by kernel_rfl) rfl) rfl
  intro B2 a2 W2 S2
  replace S2 : Sta w 6 [] [(2, (Is (str (Lib.join (As.map txZ) [32])))), (1000001, TT)] B2 a2 W2 := S2
  refine wp_ret ?_
  exact end_one S2 rfl (res_tmp S2 0 2 rfl)

set_option maxHeartbeats 400000 in
theorem text_w (w : World) (u : Value) (n k : Nat) (A : List (List Int)) (h : Hs w (Mv n A k) u) (hn : n ≤ 1048576) (hk : k ≤ 1048576) (hl : Ml A 1048576) (hT : Tab w) (hlr : ∀ r, r ∈ A → (txV r).length ≤ 140737488355328) (hlen : (txM A).length ≤ 140737488355328) :
    Calls Tryd.prog 6 #[u] w (Gives (IS (str (txM A))) w) := by
  have hlA := mv_len h.now
  refine calls_sta (sl := [(0, (Mv n A k))]) Tryd.func6 rfl Tryd.ntmps6 (by simp) (args_cons rfl (h) args_nil) ?_
  intro a0 S0
  replace S0 : Sta w 6 [] [(0, (Mv n A k)), (1000001, TT)] (fun _ => False) a0 w := S0.moreT 1000001 (tt_has hT)
  refine wp_stmt_seq [.val (Is (.string (ByteArray.mk #[])))] [] [.inl 0, .inr 0, .inr 1] follows S0 rfl (by kernel_rfl) ?_ ?_
  · refine ⟨trivial, ?_⟩
    · exact owe_move rfl (wants_all rfl) (Or.inr rfl) (opnd_const _) rfl
  intro B1 a1 W1 S1
  replace S1 : Sta w 6 [] [(2, (Is (.string (ByteArray.mk #[])))), (0, (Mv n A k)), (1000001, TT)] B1 a1 W1 := S1
  refine wp_stmt_seq [.val (Mv n A k),
      .val ((LF 1 n (A.map (fun a => IS (str (txV a))))) w.heap.size),
      .val (Is (str (Lib.join (A.map txV) [59, 32]))),
      .val (Is (str (Lib.join (A.map txV) [59, 32])))] [] [.inl 3, .inr 2] follows S1 rfl (by kernel_rfl) ?_ ?_
  · refine ⟨⟨⟨⟨trivial, ?_⟩, ?_⟩, ?_⟩, ?_⟩
    · exact owe_move rfl (wants_all rfl) (Or.inl rfl) (opnd_slot 1 0 rfl (by kernel_rfl)) rfl
    · exact owe_callh2 rfl (wants_all rfl) rfl (opnd_op 0 3 (by kernel_rfl) rfl) ((opnd_tp (opnd_func _) (opnd_slot 2 1000001 rfl (by kernel_rfl))).imp (fn1_mapT (φ := fun r => Vv r.length r k) (fun args w => by go_simp) (fun r hr w u hT hu => textv_w w u r.length k r hu (by obtain ⟨i, hi⟩ := List.mem_iff_getElem?.1 hr; exact hl i r hi) hk hT (hlr r hr)))) fresh_strs rfl (fun args w => by go_simp) (h_eachss hn)
    · exact owe_callh2 rfl (wants_all rfl) rfl ((opnd_op 1 4 (by kernel_rfl) rfl).imp strs_ar) ((opnd_const _).imp (fun _ _ h => h)) (fresh_is _) rfl (fun args w => by go_simp) (g_join (A.map txV) [59, 32] (by simp [hlA]) (by omega) hlen)
    · exact owe_move rfl (wants_all rfl) (Or.inr rfl) (opnd_op 2 5 (by kernel_rfl) rfl) rfl
  intro B2 a2 W2 S2
  replace S2 : Sta w 6 [] [(2, (Is (str (Lib.join (A.map txV) [59, 32])))), (1000001, TT)] B2 a2 W2 := S2
  refine wp_ret ?_
  exact end_one S2 rfl (res_tmp S2 0 2 rfl)

set_option maxHeartbeats 400000 in
theorem alive_w (w : World) (hT : Tab w) :
    Calls Tryd.prog 12 #[] w (Gives (IS (.bool true)) w) := by
  have hD : Mdl (unitZ 2) 1 := by
      intro i zs hz j z hj
      have hm : zs ∈ unitZ 2 := List.mem_of_getElem? hz
      have hm2 : z ∈ zs := List.mem_of_getElem? hj
      have : ∀ zs ∈ unitZ 2, ∀ z ∈ zs, (digs z.natAbs).length ≤ 1 := by decide
      exact this zs hm z hm2
  have hu2 : unitZ 2 = [[1, 0], [0, 1]] := by decide
  have hx : str (txM (unitZ 2)) = .string ⟨#[49, 32, 48, 59, 32, 48, 32, 49]⟩ := by rw [hu2, tx_unit]; rfl
  have hq1 : (txM (unitZ 2)).length ≤ 140737488355328 := by rw [hu2, tx_unit]; decide
  have hq3 : Ml (unitZ 2) 1048576 := by
      intro i es he
      have : ∀ es ∈ unitZ 2, es.length ≤ 1048576 := by decide
      exact this es (List.mem_of_getElem? he)
  have hq2 : ∀ r, r ∈ unitZ 2 → (txV r).length ≤ 140737488355328 := by
      intro r hr
      rw [hu2] at hr
      simp at hr
      rcases hr with rfl | rfl <;> simp [txV, txZ, txN_0, txN_1, Lib.join, List.intercalate, List.intersperse]
  refine calls_sta (sl := []) Tryd.func12 rfl Tryd.ntmps12 (by simp) args_nil ?_
  intro a0 S0
  replace S0 : Sta w 10 [] [(1000001, TT)] (fun _ => False) a0 w := S0.moreT 1000001 (tt_has hT)
  refine wp_stmt_seq [.val (Is (.bool false))] [] [.inl 0, .inr 0] follows S0 rfl (by kernel_rfl) ?_ ?_
  · refine ⟨trivial, ?_⟩
    · exact owe_move rfl (wants_all rfl) (Or.inr rfl) (opnd_const _) rfl
  intro B1 a1 W1 S1
  replace S1 : Sta w 10 [] [(0, (Is (.bool false))), (1000001, TT)] B1 a1 W1 := S1
  refine wp_stmt_seq [.val ((TWO (MN 2 (unitZ 2)) (IS (.int .i64 0))) w.heap.size),
      .val ((TWO (MN 2 (unitZ 2)) (IS (.int .i64 0))) w.heap.size),
      .val ((MN 2 (unitZ 2)) w.heap.size),
      .val (Is (.int .i64 0)),
      .val ((MN 2 (unitZ 2)) w.heap.size),
      .val (Is (.int .i64 0))] [] [.inl 4, .inr 0, .inr 1] follows S1 rfl (by kernel_rfl) ?_ ?_
  · refine ⟨⟨⟨⟨⟨⟨trivial, ?_⟩, ?_⟩, ?_⟩, ?_⟩, ?_⟩, ?_⟩
    · exact owe_callh1 rfl (wants_all rfl) rfl (opnd_const _) (fresh_two fresh_mn (fresh_is _)) rfl (fun args w => by go_simp) (fun w u h => by obtain rfl : u = _ := h.now; exact unit_y w 2 (by decide))
    · exact owe_move rfl (wants_all rfl) (Or.inl rfl) (opnd_op 0 4 (by kernel_rfl) rfl) rfl
    · exact owe_ext2 rfl (wants_all rfl) rfl (opnd_op 1 3 (by kernel_rfl) rfl) (Or.inl ⟨rfl, rfl⟩) rfl
    · exact owe_ext2 rfl (wants_all rfl) rfl (opnd_op 1 3 (by kernel_rfl) rfl) (Or.inr ⟨rfl, rfl⟩) rfl
    · exact owe_move rfl (wants_all rfl) (Or.inr rfl) (opnd_op 2 5 (by kernel_rfl) rfl) rfl
    · exact owe_move rfl (wants_all rfl) (Or.inr rfl) (opnd_op 3 6 (by kernel_rfl) rfl) rfl
  intro B2 a2 W2 S2
  replace S2 : Sta w 10 [] [(1, ((MN 2 (unitZ 2)) w.heap.size)), (0, (Is (.bool false))), (1000001, TT)] B2 a2 W2 := S2
  refine wp_stmt_seq [.val ((MN 2 (unitZ 2)) w.heap.size),
      .val (Is (str (txM (unitZ 2)))),
      .val (Is (.bool true)),
      .val (Is (.bool true))] [] [.inl 3, .inr 2] follows S2 rfl (by kernel_rfl) ?_ ?_
  · refine ⟨⟨⟨⟨trivial, ?_⟩, ?_⟩, ?_⟩, ?_⟩
    · exact owe_move rfl (wants_all rfl) (Or.inl rfl) (opnd_slot 0 1 rfl (by kernel_rfl)) rfl
    · exact owe_callh1 rfl (wants_all rfl) rfl (opnd_tp ((opnd_op 0 7 (by kernel_rfl) rfl).imp (mn_mv hD)) (opnd_slot 2 1000001 rfl (by kernel_rfl))) (fresh_is _) rfl (fun args w => by go_simp) (fun w u h => text_w w u 2 1 (unitZ 2) (tp_out h).1 (by decide) (by decide) hq3 (tp_out h).2 hq2 hq1)
    · exact owe_bin rfl (wants_all rfl) rfl (opnd_op 1 8 (by kernel_rfl) rfl) (opnd_const _) rfl (fun ρ w h1 h2 => by rw [hx] at h1; exact run_eqs ρ _ _ _ w _ h1 h2)
    · exact owe_move rfl (wants_all rfl) (Or.inr rfl) (opnd_op 2 9 (by kernel_rfl) rfl) rfl
  intro B3 a3 W3 S3
  replace S3 : Sta w 10 [] [(0, (Is (.bool true))), (1000001, TT)] B3 a3 W3 := S3
  refine wp_ret ?_
  exact end_one S3 rfl (res_tmp S3 0 0 rfl)

end Go.Proofs.YtdhjgekbocnnkaaDoor
