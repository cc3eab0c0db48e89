/-
  gso.framed, where it is well.
-/
import Derived.Test.YtkiholgfamfgeaaGLeft
import Derived.Test.YtkiholgfamfgeaaSetH
namespace Go.Proofs.Ytkiholgfamfgeaa
open Go Go.RowKit Nt
set_option linter.unusedSimpArgs false
set_option linter.unusedVariables false
set_option maxRecDepth 20000


/-- No row is too wide. -/
def nar (A : List (List Int)) : Prop := ∀ (i : Nat) r, A[i]? = some r → r.length ≤ 12

set_option maxHeartbeats 400000 in
theorem wide_n (w : World) (u : Value) (n k : Nat) (As : List Int) (h : Hs w (Vv n As k) u) (hn : n ≤ 12) :
    Calls Try.prog 82 #[u] w (Gives (IS (.bool false)) w) := by
  refine calls_sta (sl := [(0, (Vv n As k))]) Try.func82 rfl Try.ntmps82 (by simp) (args_cons rfl (h) args_nil) ?_
  intro a0 S0
  refine wp_stmt_seq [kF] [] [.inr 0] follows S0 rfl (by kernel_rfl) ?_ ?_
  · refine ⟨trivial, ?_⟩
    · exact mC
  intro B1 a1 W1 (S1 : Sta w 6 [] [(0, Vv n As k)] _ _ _)
  refine wp_stmt_seq [.val (Vv n As k), .val (iV (n : Nat)), kF, kF] [] [.inl 3] follows S1 rfl (by kernel_rfl) ?_ ?_
  · refine ⟨⟨⟨⟨trivial, ?_⟩, ?_⟩, ?_⟩, ?_⟩
    · exact mS 0 0
    · exact owe_len rfl wA rfl (oO 0 3) ar_len Try.underlying22 rfl
    · exact b_gtr_int_f wA (oO 1 4) (opnd_const _)
    · exact mO 2 5
  intro B2 a2 W2 (S2 : Sta w 6 [] [(2, bF)] _ _ _)
  refine wp_ret ?_
  exact end_one S2 rfl (res_tmp S2 0 2 rfl)

set_option maxHeartbeats 400000 in
theorem idxr_n (w : World) (u f : Value) (n k : Nat) (A : List (List Int)) (h : Hs w (Mv n A k) u) (hn : n ≤ 1048576) (lA : A.length = n) (hf : Hs w (Fn1 (A.map (fun zs => Vv zs.length zs k)) (A.map (fun _ => IS (.bool false)))) f) :
    Calls Try.prog 92 #[u, f] w (Gives (IS (.int .i64 (-1))) w) := by
  refine calls_sta (sl := [(0, (Mv n A k)), (1, (Fn1 (A.map (fun zs => Vv zs.length zs k)) (A.map (fun _ => IS (.bool false)))))]) Try.func92 rfl Try.ntmps92 (by simp) (args_cons rfl (h) (args_cons rfl (hf) args_nil)) ?_
  intro a0 S0
  refine wp_stmt_seq [.val (iV 0)] [] [.inr 0, .inr 1] follows S0 rfl (by kernel_rfl) ?_ ?_
  · refine ⟨trivial, ?_⟩
    · exact mC
  intro B1 a1 W1 (S1 : Sta w 19 [] [(0, Mv n A k), (1, (Fn1 (A.map (fun zs => Vv zs.length zs k)) (A.map (fun _ => IS (.bool false)))))] _ _ _)
  refine wp_seq ?_
  refine wp_stmt_seq [.val (Mv n A k), .val (iV (n : Nat)), .val (iV 0)] [] [.inl 1, .inl 2, .inr 0, .inr 1] follows S1 rfl (by kernel_rfl) ?_ ?_
  · refine ⟨⟨⟨trivial, ?_⟩, ?_⟩, ?_⟩
    · exact mS 0 0
    · exact owe_len rfl wA rfl (oO 0 6) ar_len Try.underlying23 rfl
    · exact mC
  intro B2 a2 W2 (S2 : Sta w 19 [] [(7, iV (n : Nat)), (8, iV 0), (0, Mv n A k), (1, (Fn1 (A.map (fun zs => Vv zs.length zs k)) (A.map (fun _ => IS (.bool false)))))] _ _ _)
  refine wp_block ?_
  refine wp_loop_ghost (fun (k0 : Nat) a W => (k0 ≤ n) ∧ ∃ Bq, Sta w 19 [] [(7, iV (n : Nat)), (8, iV (k0 : Nat)), (0, Mv n A k), (1, (Fn1 (A.map (fun zs => Vv zs.length zs k)) (A.map (fun _ => IS (.bool false)))))] Bq a W) (fun (k0 : Nat) => n - k0) ?_ 0 ⟨Nat.zero_le _, B2, S2.sub [] [0, 1, 2, 3]⟩
  rintro k0 a3 W3 ⟨hcond, B3, S3⟩
  by_cases hlt : k0 < n
  · have hr := vv_at (A := A) (K := k) (k := k0) (by omega)
    have hz := map_get' (fun _ => IS (.bool false)) (List.getElem?_eq_getElem (show k0 < A.length by omega))
    refine wp_stmt_seq [kT] [] [.inl 0, .inr 0, .inr 1, .inr 2, .inr 3] follows S3 rfl (by kernel_rfl) ?_ ?_
    · refine ⟨trivial, ?_⟩
      · exact b_lss_int_t wA (oS 1 8) (oS 0 7)
    intro B4 a4 W4 (S4 : Sta w 19 [] [(9, bT), (7, iV (n : Nat)), (8, iV (k0 : Nat)), (0, Mv n A k), (1, (Fn1 (A.map (fun zs => Vv zs.length zs k)) (A.map (fun _ => IS (.bool false)))))] _ _ _)
    refine wp_seq ?_
    refine wp_cond_true (S4.bool 0 9 rfl) ?_
    refine wp_skip ?_
    refine thenN ?_
    refine wp_seq ?_
    refine wp_block ?_
    refine wp_stmt_seq [.val (iV (k0 : Nat)), .val (iV (k0 : Nat))] [] [.inl 1, .inr 1, .inr 2, .inr 3, .inr 4] follows S4 rfl (by kernel_rfl) ?_ ?_
    · refine ⟨⟨trivial, ?_⟩, ?_⟩
      · exact mS 2 8
      · exact mO 0 10
    intro B5 a5 W5 (S5 : Sta w 19 [] [(5, iV (k0 : Nat)), (7, iV (n : Nat)), (8, iV (k0 : Nat)), (0, Mv n A k), (1, (Fn1 (A.map (fun zs => Vv zs.length zs k)) (A.map (fun _ => IS (.bool false)))))] _ _ _)
    refine wp_stmt_seq [.val (Fn1 (A.map (fun zs => Vv zs.length zs k)) (A.map (fun _ => IS (.bool false)))), .val (Mv n A k), .val (iV (k0 : Nat)), .val (AtE 1 (Vv ((A.getD k0 []).length) (A.getD k0 []) k)), .val (Vv ((A.getD k0 []).length) (A.getD k0 []) k), kF] [] [.inl 5, .inr 0, .inr 1, .inr 2, .inr 3, .inr 4] follows S5 rfl (by kernel_rfl) ?_ ?_
    · refine ⟨⟨⟨⟨⟨⟨trivial, ?_⟩, ?_⟩, ?_⟩, ?_⟩, ?_⟩, ?_⟩
      · exact mS 4 1
      · exact mS 3 0
      · exact mS 0 5
      · exact owe_aindex rfl wA rfl idx_rows (oO 1 12) (oO 2 13) hr rfl
      · exact owe_aload rfl wA rfl ldr_row1 (by decide) cel_vv (oO 3 14) rfl
      · exact owe_callv1 k0 rfl wA rfl (oO 0 11) hr hz (oO 4 15) (fresh_is _) rfl
    intro B6 a6 W6 (S6 : Sta w 19 [] [(16, bF), (5, iV (k0 : Nat)), (7, iV (n : Nat)), (8, iV (k0 : Nat)), (0, Mv n A k), (1, (Fn1 (A.map (fun zs => Vv zs.length zs k)) (A.map (fun _ => IS (.bool false)))))] _ _ _)
    refine wp_cond_false (S6.bool 0 16 rfl) ?_
    refine wp_skip ?_
    refine inBlkN ?_
    refine thenN ?_
    refine wp_stmt [.val (iV (k0 + 1 : Nat)), .val (iV (k0 + 1 : Nat))] [] [.inl 1, .inr 2, .inr 4, .inr 5] follows S6 rfl (by kernel_rfl) ?_ ?_
    · refine ⟨⟨trivial, ?_⟩, ?_⟩
      · exact b_add_int wA (oS 3 8) (opnd_const _)
      · exact mO 0 18
    intro B7 a7 W7 (S7 : Sta w 19 [] [(8, iV (k0 + 1 : Nat)), (7, iV (n : Nat)), (0, Mv n A k), (1, (Fn1 (A.map (fun zs => Vv zs.length zs k)) (A.map (fun _ => IS (.bool false)))))] _ _ _)
    refine thenN ?_
    exact ⟨k0 + 1, ⟨by omega, B7, S7.sub [] [1, 0, 2, 3]⟩, by omega⟩
  · skip
    refine wp_stmt_seq [kF] [] [.inl 0, .inr 0, .inr 1, .inr 2, .inr 3] follows S3 rfl (by kernel_rfl) ?_ ?_
    · refine ⟨trivial, ?_⟩
      · exact b_lss_int_f wA (oS 1 8) (oS 0 7)
    intro B4 a4 W4 (S4 : Sta w 19 [] [(9, bF), (7, iV (n : Nat)), (8, iV (k0 : Nat)), (0, Mv n A k), (1, (Fn1 (A.map (fun zs => Vv zs.length zs k)) (A.map (fun _ => IS (.bool false)))))] _ _ _)
    refine wp_seq ?_
    refine wp_cond_false (S4.bool 0 9 rfl) ?_
    refine wp_exit ?_
    refine thenX ?_
    refine thenX ?_
    refine inBlkE ?_
    refine thenN ?_
    refine wp_stmt_seq [.val (iV (-1))] [] [.inl 0, .inr 1, .inr 2, .inr 3, .inr 4] follows S4 rfl (by kernel_rfl) ?_ ?_
    · refine ⟨trivial, ?_⟩
      · exact mC
    intro B5 a5 W5 (S5 : Sta w 19 [] [(4, iV (-1)), (7, iV (n : Nat)), (8, iV (k0 : Nat)), (0, Mv n A k), (1, (Fn1 (A.map (fun zs => Vv zs.length zs k)) (A.map (fun _ => IS (.bool false)))))] _ _ _)
    refine wp_ret ?_
    exact end_one S5 rfl (res_tmp S5 0 4 rfl)

set_option maxHeartbeats 400000 in
theorem has_n (w : World) (u f : Value) (n k : Nat) (A : List (List Int)) (h : Hs w (Mv n A k) u) (hn : n ≤ 1048576) (lA : A.length = n) (hf : Hs w (Fn1 (A.map (fun zs => Vv zs.length zs k)) (A.map (fun _ => IS (.bool false)))) f) :
    Calls Try.prog 83 #[u, f] w (Gives (IS (.bool false)) w) := by
  refine calls_sta (sl := [(0, (Mv n A k)), (1, (Fn1 (A.map (fun zs => Vv zs.length zs k)) (A.map (fun _ => IS (.bool false)))))]) Try.func83 rfl Try.ntmps83 (by simp) (args_cons rfl (h) (args_cons rfl (hf) args_nil)) ?_
  intro a0 S0
  refine wp_stmt_seq [kF] [] [.inr 0, .inr 1] follows S0 rfl (by kernel_rfl) ?_ ?_
  · refine ⟨trivial, ?_⟩
    · exact mC
  intro B1 a1 W1 (S1 : Sta w 9 [] [(0, Mv n A k), (1, (Fn1 (A.map (fun zs => Vv zs.length zs k)) (A.map (fun _ => IS (.bool false)))))] _ _ _)
  refine wp_stmt_seq [.val (Mv n A k), .val (Fn1 (A.map (fun zs => Vv zs.length zs k)) (A.map (fun _ => IS (.bool false)))), .val (iV (-1)), kF, kF] [] [.inl 4] follows S1 rfl (by kernel_rfl) ?_ ?_
  · refine ⟨⟨⟨⟨⟨trivial, ?_⟩, ?_⟩, ?_⟩, ?_⟩, ?_⟩
    · exact mS 0 0
    · exact mS 1 1
    · exact ch2 wA (qO 0 5 rfl) (qO 1 6 rfl) (fresh_is _) (fun w u f h hf => idxr_n w u f n k A h hn lA hf)
    · exact b_geq_int_f wA (oO 2 7) (opnd_const _) (h := by decide)
    · exact mO 3 8
  intro B2 a2 W2 (S2 : Sta w 9 [] [(4, bF)] _ _ _)
  refine wp_ret ?_
  exact end_one S2 rfl (res_tmp S2 0 4 rfl)

set_option maxHeartbeats 400000 in
theorem framed_ok (w : World) (u : Value) (n k x : Nat) (A : List (List Int)) (h : Hs w (Mv n A k) u) (h0 : 0 < n) (hn : n ≤ 12) (lA : A.length = n) (hw : nar A) (hR : Reg A x) :
    Calls Try.prog 73 #[u] w (Gives (IS (.int .i64 0)) w) := by
  refine calls_sta (sl := [(0, (Mv n A k))]) Try.func73 rfl Try.ntmps73 (by simp) (args_cons rfl (h) args_nil) ?_
  intro a0 S0
  refine wp_stmt_seq [.val (iV 0)] [] [.inr 0] follows S0 rfl (by kernel_rfl) ?_ ?_
  · refine ⟨trivial, ?_⟩
    · exact mC
  intro B1 a1 W1 (S1 : Sta w 27 [] [(0, Mv n A k)] _ _ _)
  refine wp_stmt_seq [.val (Is (.func (.func 82) #[] #[]))] [] [.inl 0, .inr 0] follows S1 rfl (by kernel_rfl) ?_ ?_
  · refine ⟨trivial, ?_⟩
    · exact owe_move rfl wA (Or.inr rfl) (opnd_func _) rfl
  intro B2 a2 W2 (S2 : Sta w 27 [] [(3, Is (.func (.func 82) #[] #[])), (0, Mv n A k)] _ _ _)
  refine wp_seq ?_
  refine wp_block ?_
  refine wp_stmt_seq [.val (Mv n A k), .val (iV (n : Nat)), kF, kF, .val (Mv n A k), .val (Is (.func (.func 82) #[] #[])), kF, kF, kF] [] [.inl 8, .inr 1] follows S2 rfl (by kernel_rfl) ?_ ?_
  · repeat' refine And.intro ?_ ?_
    · trivial
    · exact mS 1 0
    · exact owe_len rfl wA rfl (oO 0 8) ar_len Try.underlying23 rfl
    · exact b_gtr_int_f wA (oO 1 9) (opnd_const _)
    · exact mO 2 10
    · exact mW (wI 3 11) (oS 1 0)
    · exact mW (wI 3 11) (oS 0 3)
    · exact owe_callh2 rfl (wI 3 11) rfl (oO 4 12) ((oO 5 13).imp (is_fn1 (fun args w => by go_simp) (fun i φ ψ h1 h2 w u hu => by obtain ⟨a, ha, rfl⟩ := map_get h1; obtain ⟨b, hb, rfl⟩ := map_get h2; exact wide_n w u a.length k a hu (hw i a ha)))) (fresh_is _) rfl (fun args w => by go_simp) (fun w u f h hf => has_n w u f n k A h (by omega) lA hf)
    · exact pF wA (oO 3 11) (oO 6 14)
    · exact mO 7 15
  intro B3 a3 W3 (S3 : Sta w 27 [] [(7, bF), (0, Mv n A k)] _ _ _)
  refine wp_cond_false (S3.bool 0 7 rfl) ?_
  refine wp_stmt_seq [.val (Mv n A k), .val (iV (n : Nat)), kF, kF] [] [.inl 3, .inr 1] follows S3 rfl (by kernel_rfl) ?_ ?_
  · refine ⟨⟨⟨⟨trivial, ?_⟩, ?_⟩, ?_⟩, ?_⟩
    · exact mS 1 0
    · exact owe_len rfl wA rfl (oO 0 17) ar_len Try.underlying23 rfl
    · exact b_eql_int_f wA (oO 1 18) (opnd_const _)
    · exact mO 2 19
  intro B4 a4 W4 (S4 : Sta w 27 [] [(16, bF), (0, Mv n A k)] _ _ _)
  refine wp_cond_false (S4.bool 0 16 rfl) ?_
  refine wp_skip ?_
  refine inBlkN ?_
  refine thenN ?_
  refine wp_stmt_seq [.val (Mv n A k), .val ((THREE (IS (.int .i64 (n : Nat))) (IS (.int .i64 (x : Nat))) (IS (.int .i64 0))) w.heap.size), .val ((THREE (IS (.int .i64 (n : Nat))) (IS (.int .i64 (x : Nat))) (IS (.int .i64 0))) w.heap.size), .val (iV (n : Nat)), .val (iV (x : Nat)), .val (iV 0), .val (iV (n : Nat)), .val (iV (x : Nat)), .val (iV 0)] [] [.inl 8] follows S4 rfl (by kernel_rfl) ?_ ?_
  · repeat' refine And.intro ?_ ?_
    · trivial
    · exact mS 1 0
    · exact ch1 wA (qO 0 21 rfl) (fresh_three (fresh_is _) (fresh_is _) (fresh_is _)) (fun w u h => h_shape_y w u n k x A h (by omega) hR (fun e => by omega))
    · exact mO 1 22
    · exact e30 wA (oO 2 20)
    · exact e31 wA (oO 2 20)
    · exact e32 wA (oO 2 20)
    · exact mO 3 23
    · exact mO 4 24
    · exact mO 5 25
  intro B5 a5 W5 (S5 : Sta w 27 [] [(6, iV 0)] _ _ _)
  refine wp_stmt_seq [.val (iV 0), .val (iV 0)] [] [.inl 1] follows S5 rfl (by kernel_rfl) ?_ ?_
  · refine ⟨⟨trivial, ?_⟩, ?_⟩
    · exact mS 0 6
    · exact mO 0 26
  intro B6 a6 W6 (S6 : Sta w 27 [] [(2, iV 0)] _ _ _)
  refine wp_ret ?_
  exact end_one S6 rfl (res_tmp S6 0 2 rfl)

end Go.Proofs.Ytkiholgfamfgeaa
