import Derived.Test.YtbgelajoomneiaaGreatVcA
import Derived.Test.YtbgelajoomneiaaGreatSetV
/-
 Matrices: copies, whether two are the same: the laws' own.
-/
namespace Go.Proofs.YtbgelajoomneiaaGreat
open Go Go.RowKit Nt
set_option linter.unusedSimpArgs false
set_option linter.unusedVariables false
set_option maxRecDepth 20000

end Go.Proofs.YtbgelajoomneiaaGreat

/-
 Shapes: mat.Shape and the document's.
-/
namespace Go.Proofs.YtbgelajoomneiaaGreat
open Go Go.RowKit Nt
set_option linter.unusedSimpArgs false
set_option linter.unusedVariables false
set_option maxRecDepth 20000


/-! Shapes. -/
def wd (A : List (List Int)) : Nat := (A.headD []).length
def reg (A : List (List Int)) : Bool := A.all (fun r => r.length == wd A)
/-- All rows have x entries. -/
def Reg (A : List (List Int)) (x : Nat) : Prop := ∀ (i : Nat) r, A[i]? = some r → r.length = x
theorem reg_y {A : List (List Int)} (h : reg A = true) : Reg A (wd A) := fun i r hr => by
 have := List.all_eq_true.1 h r (List.mem_of_getElem? hr)
 simpa using this
theorem reg_n {A : List (List Int)} (h : ¬ reg A = true) : ∃ (i : Nat) (r : List Int), A[i]? = some r ∧ r.length ≠ wd A := by
 obtain ⟨r, hr, hl⟩ := List.all_eq_false.1 (Bool.eq_false_iff.2 h)
 obtain ⟨i, hi, rfl⟩ := List.mem_iff_getElem.1 hr
 exact ⟨i, _, List.getElem?_eq_getElem hi, by simpa using hl⟩
theorem wd_at {A : List (List Int)} {f0 : List Int} (h : A[0]? = some f0) : wd A = f0.length := by
 cases A with
 | nil => simp at h
 | cons a r => simp at h; subst h; rfl
theorem row_at {A : List (List Int)} {k x i : Nat} {r : List Int} (h : A[i]? = some r) (hR : Reg A x) : (A.map (fun zs => Vv zs.length zs k))[i]? = some (Vv x r k) := by rw [map_get' (fun zs : List Int => Vv zs.length zs k) h, hR i r h]
theorem row_at' {A : List (List Int)} {k i : Nat} {r : List Int} (h : A[i]? = some r) : (A.map (fun zs => Vv zs.length zs k))[i]? = some (Vv r.length r k) := map_get' (fun zs : List Int => Vv zs.length zs k) h
set_option maxHeartbeats 400000 in
theorem shape_y (w : World) (u : Value) (n k : Nat) (A : List (List Int)) (h : Hs w (Mv n A k) u) (hn : n ≤ 1048576) (x : Nat) (hR : Reg A x) (hp : 0 < n) :
  Calls Tryz.prog 54 #[u] w (Gives (THREE (IS (.int .i64 (n : Nat))) (IS (.int .i64 (x : Nat))) (IS (.int .i64 0))) w) := by
 have hA := mv_len h.now
 obtain ⟨f0, hf0⟩ : ∃ a, A[0]? = some a := ⟨A[0]'(by omega), List.getElem?_eq_getElem _⟩
 have hx0 := row_at (k := k) hf0 hR
 refine calls_sta (sl := [(0, (Mv n A k))]) Tryz.func54 rfl Tryz.ntmps54 (by simp) (args_cons rfl (h) args_nil) ?_
 intro a0 S0
 refine wq [.val (iV 0), .val (iV 0), .val (iV 0)] [] [.inl 0, .inl 1, .inl 2, .inr 0] S0 ?_ ?_
 ·apply jj3
  ·exact mC
  ·exact mC
  ·exact mC
 intro _ a1 _ (S1 : Sta w 29 [] [(2, iV 0), (3, iV 0), (4, iV 0), (0, Mv n A k)] _ _ _)
 refine wp_seq ?_
 refine wq [.val (Mv n A k), .val (iV (n : Nat)), kF] [] [.inl 2, .inr 0, .inr 1, .inr 2, .inr 3] S1 ?_ ?_
 ·apply jj3
  ·exact mS 3 0
  ·exact owe_len rfl wA rfl (oO 0 8) ar_len Tryz.underlying22 rfl
  ·exact b_eql_int_f wA (oO 1 9) (opnd_const _)
 intro _ a2 _ (S2 : Sta w 29 [] [(10, bF), (2, iV 0), (3, iV 0), (4, iV 0), (0, Mv n A k)] _ _ _)
 refine wp_cond_false (S2.bool 0 10 rfl) (wp_skip (thenN ?_))
 refine wq [.val (Mv n A k), .val (AtE 1 (Vv x f0 k)), .val (Vv x f0 k), .val (iV (x : Nat)), .val (iV (x : Nat))] [] [.inl 4, .inr 0, .inr 1, .inr 2, .inr 3, .inr 4] S2 ?_ ?_
 ·apply jj5
  ·exact mS 4 0
  ·exact owe_aindex rfl wA rfl idx_rows (oO 0 11) (opnd_const _) hx0 rfl
  ·exact owe_aload rfl wA rfl ldr_row1 (by decide) cel_vv (oO 1 12) rfl
  ·exact owe_len rfl wA rfl (oO 2 13) ar_len Tryz.underlying23 rfl
  ·exact mO 3 14
 intro _ a3 _ (S3 : Sta w 29 [] [(5, iV (x : Nat)), (10, bF), (2, iV 0), (3, iV 0), (4, iV 0), (0, Mv n A k)] _ _ _)
 refine wp_seq ?_
 refine wq [.val (Mv n A k), .val (iV (n : Nat)), .val (iV 0)] [] [.inl 0, .inl 1, .inl 2, .inr 0, .inr 1, .inr 2, .inr 3, .inr 4, .inr 5] S3 ?_ ?_
 ·apply jj3
  ·exact mS 5 0
  ·exact owe_len rfl wA rfl (oO 0 15) ar_len Tryz.underlying22 rfl
  ·exact mC
 intro B4 a4 _ (S4 : Sta w 29 [] [(15, Mv n A k), (16, iV (n : Nat)), (17, iV 0), (5, iV (x : Nat)), (10, bF), (2, iV 0), (3, iV 0), (4, iV 0), (0, Mv n A k)] _ _ _)
 refine wp_block ?_
 refine wp_loop_ghost (fun (k0 : Nat) a W => (k0 ≤ n) ∧ ∃ Bq, Sta w 29 [] [(15, Mv n A k), (16, iV (n : Nat)), (17, iV k0), (5, iV (x : Nat)), (0, Mv n A k)] Bq a W) (fun (k0 : Nat) => n - k0) ?_ 0 ⟨Nat.zero_le _, B4, S4.sub [] [0, 1, 2, 3, 8]⟩
 rintro k0 a5 _ ⟨hcond, _, S5⟩
 by_cases hlt : k0 < n
 ·obtain ⟨a, ha⟩ : ∃ a, A[k0]? = some a := ⟨A[k0]'(by omega), List.getElem?_eq_getElem _⟩
  have hxa := row_at (k := k) ha hR
  refine wq [kT] [] [.inl 0, .inr 0, .inr 1, .inr 2, .inr 3, .inr 4] S5 ?_ ?_
  ·apply jj1
   ·exact b_lss_int_t wA (oS 2 17) (oS 1 16)
  intro B6 a6 W6 (S6 : Sta w 29 [] [(18, bT), (15, Mv n A k), (16, iV (n : Nat)), (17, iV k0), (5, iV (x : Nat)), (0, Mv n A k)] _ _ _)
  refine wp_seq (wp_cond_true (S6.bool 0 18 rfl) (wp_skip (thenN (wp_seq (wp_block ?_)))))
  refine wq [.val (AtE 1 (Vv x a k)), .val (Vv x a k), .val (Vv x a k)] [] [.inl 2, .inr 0, .inr 1, .inr 2, .inr 3, .inr 4, .inr 5] S6 ?_ ?_
  ·apply jj3
   ·exact owe_aindex rfl wA rfl idx_rows (oS 1 15) (oS 3 17) hxa rfl
   ·exact owe_aload rfl wA rfl ldr_row1 (by decide) cel_vv (oO 0 19) rfl
   ·exact mO 1 20
  intro B7 a7 W7 (S7 : Sta w 29 [] [(7, Vv x a k), (18, bT), (15, Mv n A k), (16, iV (n : Nat)), (17, iV k0), (5, iV (x : Nat)), (0, Mv n A k)] _ _ _)
  refine wq [.val (Vv x a k), .val (iV (x : Nat)), .val (iV (x : Nat)), kF] [] [.inl 3, .inr 1, .inr 2, .inr 3, .inr 4, .inr 5, .inr 6] S7 ?_ ?_
  ·apply jj4
   ·exact mS 0 7
   ·exact owe_len rfl wA rfl (oO 0 21) ar_len Tryz.underlying23 rfl
   ·exact mS 5 5
   ·exact b_neq_int_f wA (oO 1 22) (oO 2 23)
  intro _ a8 _ (S8 : Sta w 29 [] [(24, bF), (18, bT), (15, Mv n A k), (16, iV (n : Nat)), (17, iV k0), (5, iV (x : Nat)), (0, Mv n A k)] _ _ _)
  refine wp_cond_false (S8.bool 0 24 rfl) (wp_skip (inBlkN (thenN ?_)))
  refine wr [.val (iV (k0 + 1 : Nat)), .val (iV (k0 + 1 : Nat))] [] [.inl 1, .inr 0, .inr 1, .inr 2, .inr 3, .inr 5, .inr 6] S8 ?_ ?_
  ·apply jj2
   ·exact b_add_int wA (oS 4 17) (opnd_const _)
   ·exact mO 0 25
  intro B9 a9 _ (S9 : Sta w 29 [] [(17, iV (k0 + 1 : Nat)), (24, bF), (18, bT), (15, Mv n A k), (16, iV (n : Nat)), (5, iV (x : Nat)), (0, Mv n A k)] _ _ _)
  refine thenN ?_
  exact ⟨k0 + 1, ⟨by omega, B9, S9.sub [] [3, 4, 0, 5, 6]⟩, by omega⟩
 ·skip
  refine wq [kF] [] [.inl 0, .inr 0, .inr 1, .inr 2, .inr 3, .inr 4] S5 ?_ ?_
  ·apply jj1
   ·exact b_lss_int_f wA (oS 2 17) (oS 1 16)
  intro B6 a6 W6 (S6 : Sta w 29 [] [(18, bF), (15, Mv n A k), (16, iV (n : Nat)), (17, iV k0), (5, iV (x : Nat)), (0, Mv n A k)] _ _ _)
  refine wp_seq (wp_cond_false (S6.bool 0 18 rfl) (wp_exit (thenX (thenX (inBlkE (thenN ?_))))))
  refine wq [.val (Mv n A k), .val (iV (n : Nat)), .val (iV (x : Nat)), .val (iV (n : Nat)), .val (iV (x : Nat)), .val (iV 0)] [] [.inl 3, .inl 4, .inl 5, .inr 0, .inr 1, .inr 2, .inr 3, .inr 4, .inr 5] S6 ?_ ?_
  ·apply jj6
   ·exact mS 5 0
   ·exact owe_len rfl wA rfl (oO 0 26) ar_len Tryz.underlying22 rfl
   ·exact mS 4 5
   ·exact mO 1 27
   ·exact mO 2 28
   ·exact mC
  intro B7 a7 W7 (S7 : Sta w 29 [] [(2, iV (n : Nat)), (3, iV (x : Nat)), (4, iV 0), (18, bF), (15, Mv n A k), (16, iV (n : Nat)), (17, iV k0), (5, iV (x : Nat)), (0, Mv n A k)] _ _ _)
  refine wp_ret ?_
  exact end_three S7 rfl (res_tmp S7 0 2 rfl) (res_tmp S7 1 3 rfl) (res_tmp S7 2 4 rfl)

set_option maxHeartbeats 400000 in
theorem shape_0 (w : World) (u : Value) (n k : Nat) (A : List (List Int)) (h : Hs w (Mv n A k) u) (hn : n ≤ 1048576) (hp : n < 1) :
  Calls Tryz.prog 54 #[u] w (Gives (THREE (IS (.int .i64 0)) (IS (.int .i64 0)) (IS (.int .i64 0))) w) := by
 refine calls_sta (sl := [(0, (Mv n A k))]) Tryz.func54 rfl Tryz.ntmps54 (by simp) (args_cons rfl (h) args_nil) ?_
 intro a0 S0
 refine wq [.val (iV 0), .val (iV 0), .val (iV 0)] [] [.inl 0, .inl 1, .inl 2, .inr 0] S0 ?_ ?_
 ·apply jj3
  ·exact mC
  ·exact mC
  ·exact mC
 intro _ a1 _ (S1 : Sta w 29 [] [(2, iV 0), (3, iV 0), (4, iV 0), (0, Mv n A k)] _ _ _)
 refine wp_seq ?_
 refine wq [.val (Mv n A k), .val (iV (n : Nat)), kT] [] [.inl 2, .inr 0, .inr 1, .inr 2, .inr 3] S1 ?_ ?_
 ·apply jj3
  ·exact mS 3 0
  ·exact owe_len rfl wA rfl (oO 0 8) ar_len Tryz.underlying22 rfl
  ·exact b_eql_int_t wA (oO 1 9) (opnd_const _)
 intro _ a2 _ (S2 : Sta w 29 [] [(10, bT), (2, iV 0), (3, iV 0), (4, iV 0), (0, Mv n A k)] _ _ _)
 refine wp_cond_true (S2.bool 0 10 rfl) ?_
 refine wq [.val (iV 0), .val (iV 0), .val (iV 0)] [] [.inl 0, .inl 1, .inl 2, .inr 0, .inr 4] S2 ?_ ?_
 ·apply jj3
  ·exact mC
  ·exact mC
  ·exact mC
 intro _ a3 _ (S3 : Sta w 29 [] [(2, iV 0), (3, iV 0), (4, iV 0), (10, bT), (0, Mv n A k)] _ _ _)
 refine wp_ret (thenR ?_)
 exact end_three S3 rfl (res_tmp S3 0 2 rfl) (res_tmp S3 1 3 rfl) (res_tmp S3 2 4 rfl)

set_option maxHeartbeats 400000 in
theorem shape_n (w : World) (u : Value) (n k : Nat) (A : List (List Int)) (h : Hs w (Mv n A k) u) (hn : n ≤ 1048576) (f0 r1 : List Int) (i1 : Nat) (hf0 : A[0]? = some f0) (hi1 : A[i1]? = some r1) (hne : r1.length ≠ f0.length) :
  Calls Tryz.prog 54 #[u] w (Gives (THREE (IS (.int .i64 0)) (IS (.int .i64 0)) (IS (.int .i64 8))) w) := by
 have hA := mv_len h.now
 have hi2 : i1 < n := by have := (List.getElem?_eq_some_iff.1 hi1).1; omega
 have hx0 := row_at' (k := k) hf0
 refine calls_sta (sl := [(0, (Mv n A k))]) Tryz.func54 rfl Tryz.ntmps54 (by simp) (args_cons rfl (h) args_nil) ?_
 intro a0 S0
 refine wq [.val (iV 0), .val (iV 0), .val (iV 0)] [] [.inl 0, .inl 1, .inl 2, .inr 0] S0 ?_ ?_
 ·apply jj3
  ·exact mC
  ·exact mC
  ·exact mC
 intro _ a1 _ (S1 : Sta w 29 [] [(2, iV 0), (3, iV 0), (4, iV 0), (0, Mv n A k)] _ _ _)
 refine wp_seq ?_
 refine wq [.val (Mv n A k), .val (iV (n : Nat)), kF] [] [.inl 2, .inr 0, .inr 1, .inr 2, .inr 3] S1 ?_ ?_
 ·apply jj3
  ·exact mS 3 0
  ·exact owe_len rfl wA rfl (oO 0 8) ar_len Tryz.underlying22 rfl
  ·exact b_eql_int_f wA (oO 1 9) (opnd_const _)
 intro _ a2 _ (S2 : Sta w 29 [] [(10, bF), (2, iV 0), (3, iV 0), (4, iV 0), (0, Mv n A k)] _ _ _)
 refine wp_cond_false (S2.bool 0 10 rfl) (wp_skip (thenN ?_))
 refine wq [.val (Mv n A k), .val (AtE 1 (Vv (f0.length) f0 k)), .val (Vv (f0.length) f0 k), .val (iV (f0.length : Nat)), .val (iV (f0.length : Nat))] [] [.inl 4, .inr 0, .inr 1, .inr 2, .inr 3, .inr 4] S2 ?_ ?_
 ·apply jj5
  ·exact mS 4 0
  ·exact owe_aindex rfl wA rfl idx_rows (oO 0 11) (opnd_const _) hx0 rfl
  ·exact owe_aload rfl wA rfl ldr_row1 (by decide) cel_vv (oO 1 12) rfl
  ·exact owe_len rfl wA rfl (oO 2 13) ar_len Tryz.underlying23 rfl
  ·exact mO 3 14
 intro _ a3 _ (S3 : Sta w 29 [] [(5, iV (f0.length : Nat)), (10, bF), (2, iV 0), (3, iV 0), (4, iV 0), (0, Mv n A k)] _ _ _)
 refine wp_seq ?_
 refine wq [.val (Mv n A k), .val (iV (n : Nat)), .val (iV 0)] [] [.inl 0, .inl 1, .inl 2, .inr 0, .inr 1, .inr 2, .inr 3, .inr 4, .inr 5] S3 ?_ ?_
 ·apply jj3
  ·exact mS 5 0
  ·exact owe_len rfl wA rfl (oO 0 15) ar_len Tryz.underlying22 rfl
  ·exact mC
 intro B4 a4 _ (S4 : Sta w 29 [] [(15, Mv n A k), (16, iV (n : Nat)), (17, iV 0), (5, iV (f0.length : Nat)), (10, bF), (2, iV 0), (3, iV 0), (4, iV 0), (0, Mv n A k)] _ _ _)
 refine wp_block ?_
 refine wp_loop_ghost (fun (k0 : Nat) a W => (k0 ≤ i1) ∧ ∃ Bq, Sta w 29 [] [(15, Mv n A k), (16, iV (n : Nat)), (17, iV k0), (5, iV (f0.length : Nat)), (0, Mv n A k)] Bq a W) (fun (k0 : Nat) => n - k0) ?_ 0 ⟨Nat.zero_le _, B4, S4.sub [] [0, 1, 2, 3, 8]⟩
 rintro k0 a5 _ ⟨hcond, _, S5⟩
 rcases (show (k0 < n ∧ (A.getD k0 []).length ≠ f0.length) ∨ (k0 < n ∧ (A.getD k0 []).length = f0.length) from by omega) with ⟨h1, h3⟩ | ⟨h1, h3⟩
 ·obtain ⟨a, ha⟩ : ∃ a, A[k0]? = some a := ⟨A[k0]'(by omega), List.getElem?_eq_getElem _⟩
  rw [List.getD_eq_getElem?_getD, ha] at h3
  have h3 : a.length ≠ f0.length := h3
  have hxa := row_at' (k := k) ha
  refine wq [kT] [] [.inl 0, .inr 0, .inr 1, .inr 2, .inr 3, .inr 4] S5 ?_ ?_
  ·apply jj1
   ·exact b_lss_int_t wA (oS 2 17) (oS 1 16)
  intro B6 a6 W6 (S6 : Sta w 29 [] [(18, bT), (15, Mv n A k), (16, iV (n : Nat)), (17, iV k0), (5, iV (f0.length : Nat)), (0, Mv n A k)] _ _ _)
  refine wp_seq (wp_cond_true (S6.bool 0 18 rfl) (wp_skip (thenN (wp_seq (wp_block ?_)))))
  refine wq [.val (AtE 1 (Vv (a.length) a k)), .val (Vv (a.length) a k), .val (Vv (a.length) a k)] [] [.inl 2, .inr 0, .inr 1, .inr 2, .inr 3, .inr 4, .inr 5] S6 ?_ ?_
  ·apply jj3
   ·exact owe_aindex rfl wA rfl idx_rows (oS 1 15) (oS 3 17) hxa rfl
   ·exact owe_aload rfl wA rfl ldr_row1 (by decide) cel_vv (oO 0 19) rfl
   ·exact mO 1 20
  intro B7 a7 W7 (S7 : Sta w 29 [] [(7, Vv (a.length) a k), (18, bT), (15, Mv n A k), (16, iV (n : Nat)), (17, iV k0), (5, iV (f0.length : Nat)), (0, Mv n A k)] _ _ _)
  refine wq [.val (Vv (a.length) a k), .val (iV (a.length : Nat)), .val (iV (f0.length : Nat)), kT] [] [.inl 3, .inr 1, .inr 2, .inr 3, .inr 4, .inr 5, .inr 6] S7 ?_ ?_
  ·apply jj4
   ·exact mS 0 7
   ·exact owe_len rfl wA rfl (oO 0 21) ar_len Tryz.underlying23 rfl
   ·exact mS 5 5
   ·exact b_neq_int_t wA (oO 1 22) (oO 2 23)
  intro B8 a8 W8 (S8 : Sta w 29 [] [(24, bT), (18, bT), (15, Mv n A k), (16, iV (n : Nat)), (17, iV k0), (5, iV (f0.length : Nat)), (0, Mv n A k)] _ _ _)
  refine wp_cond_true (S8.bool 0 24 rfl) ?_
  refine wq [.val (iV 0), .val (iV 0), .val (iV 8)] [] [.inl 0, .inl 1, .inl 2, .inr 0, .inr 1, .inr 2, .inr 3, .inr 4, .inr 5, .inr 6] S8 ?_ ?_
  ·apply jj3
   ·exact mC
   ·exact mC
   ·exact mC
  intro B9 a9 W9 (S9 : Sta w 29 [] [(2, iV 0), (3, iV 0), (4, iV 8), (24, bT), (18, bT), (15, Mv n A k), (16, iV (n : Nat)), (17, iV k0), (5, iV (f0.length : Nat)), (0, Mv n A k)] _ _ _)
  refine wp_ret (inBlkR (thenR (thenR (inBlkR (thenR ?_)))))
  exact end_three S9 rfl (res_tmp S9 0 2 rfl) (res_tmp S9 1 3 rfl) (res_tmp S9 2 4 rfl)
 ·obtain ⟨a, ha⟩ : ∃ a, A[k0]? = some a := ⟨A[k0]'(by omega), List.getElem?_eq_getElem _⟩
  rw [List.getD_eq_getElem?_getD, ha] at h3
  have h3 : a.length = f0.length := h3
  have hxa := row_at' (k := k) ha
  have hk1 : k0 ≠ i1 := fun e => by rw [e, hi1] at ha; cases ha; exact hne h3
  refine wq [kT] [] [.inl 0, .inr 0, .inr 1, .inr 2, .inr 3, .inr 4] S5 ?_ ?_
  ·apply jj1
   ·exact b_lss_int_t wA (oS 2 17) (oS 1 16)
  intro B6 a6 W6 (S6 : Sta w 29 [] [(18, bT), (15, Mv n A k), (16, iV (n : Nat)), (17, iV k0), (5, iV (f0.length : Nat)), (0, Mv n A k)] _ _ _)
  refine wp_seq (wp_cond_true (S6.bool 0 18 rfl) (wp_skip (thenN (wp_seq (wp_block ?_)))))
  refine wq [.val (AtE 1 (Vv (a.length) a k)), .val (Vv (a.length) a k), .val (Vv (a.length) a k)] [] [.inl 2, .inr 0, .inr 1, .inr 2, .inr 3, .inr 4, .inr 5] S6 ?_ ?_
  ·apply jj3
   ·exact owe_aindex rfl wA rfl idx_rows (oS 1 15) (oS 3 17) hxa rfl
   ·exact owe_aload rfl wA rfl ldr_row1 (by decide) cel_vv (oO 0 19) rfl
   ·exact mO 1 20
  intro B7 a7 W7 (S7 : Sta w 29 [] [(7, Vv (a.length) a k), (18, bT), (15, Mv n A k), (16, iV (n : Nat)), (17, iV k0), (5, iV (f0.length : Nat)), (0, Mv n A k)] _ _ _)
  refine wq [.val (Vv (a.length) a k), .val (iV (a.length : Nat)), .val (iV (f0.length : Nat)), kF] [] [.inl 3, .inr 1, .inr 2, .inr 3, .inr 4, .inr 5, .inr 6] S7 ?_ ?_
  ·apply jj4
   ·exact mS 0 7
   ·exact owe_len rfl wA rfl (oO 0 21) ar_len Tryz.underlying23 rfl
   ·exact mS 5 5
   ·exact b_neq_int_f wA (oO 1 22) (oO 2 23)
  intro B8 a8 W8 (S8 : Sta w 29 [] [(24, bF), (18, bT), (15, Mv n A k), (16, iV (n : Nat)), (17, iV k0), (5, iV (f0.length : Nat)), (0, Mv n A k)] _ _ _)
  refine wp_cond_false (S8.bool 0 24 rfl) (wp_skip (inBlkN (thenN ?_)))
  refine wr [.val (iV (k0 + 1 : Nat)), .val (iV (k0 + 1 : Nat))] [] [.inl 1, .inr 0, .inr 1, .inr 2, .inr 3, .inr 5, .inr 6] S8 ?_ ?_
  ·apply jj2
   ·exact b_add_int wA (oS 4 17) (opnd_const _)
   ·exact mO 0 25
  intro B9 a9 W9 (S9 : Sta w 29 [] [(17, iV (k0 + 1 : Nat)), (24, bF), (18, bT), (15, Mv n A k), (16, iV (n : Nat)), (5, iV (f0.length : Nat)), (0, Mv n A k)] _ _ _)
  refine thenN ?_
  exact ⟨k0 + 1, ⟨by omega, B9, S9.sub [] [3, 4, 0, 5, 6]⟩, by omega⟩

theorem h_shape_y (w : World) (u : Value) (n k x : Nat) (A : List (List Int)) (h : Hs w (Mv n A k) u) (hn : n ≤ 1048576) (hR : Reg A x) (h0 : n = 0 → x = 0) : Calls Tryz.prog 54 #[u] w (Gives (THREE (IS (.int .i64 (n : Nat))) (IS (.int .i64 (x : Nat))) (IS (.int .i64 0))) w) := by
 rcases Nat.eq_zero_or_pos n with e | e
 ·have := h0 e
  subst this
  have := shape_0 w u n k A h hn (by omega)
  rw [e]
  exact this
 ·exact shape_y w u n k A h hn x hR e
theorem h_shape_n (w : World) (u : Value) (n k : Nat) (A : List (List Int)) (h : Hs w (Mv n A k) u) (hn : n ≤ 1048576) (hR : ¬ reg A = true) : Calls Tryz.prog 54 #[u] w (Gives (THREE (IS (.int .i64 0)) (IS (.int .i64 0)) (IS (.int .i64 8))) w) := by
 obtain ⟨i, r, hr, hl⟩ := reg_n hR
 have hlt := (List.getElem?_eq_some_iff.1 hr).1
 obtain ⟨f0, hf0⟩ : ∃ a, A[0]? = some a := ⟨A[0]'(by omega), List.getElem?_eq_getElem _⟩
 rw [wd_at hf0] at hl
 exact shape_n w u n k A h hn f0 r i hf0 hr hl

end Go.Proofs.YtbgelajoomneiaaGreat
