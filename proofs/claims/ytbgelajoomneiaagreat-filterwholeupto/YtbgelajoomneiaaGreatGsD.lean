import Derived.Test.YtbgelajoomneiaaGreatGlA
import Derived.Test.YtbgelajoomneiaaGreatRsK
import Derived.Test.YtbgelajoomneiaaGreatRrA
import Derived.Test.YtbgelajoomneiaaGreatGsA
/-
 gso.mayBe and what the document says of it.
-/
namespace Go.Proofs.YtbgelajoomneiaaGreat
open Go Go.RowKit Nt
set_option linter.unusedSimpArgs false
set_option linter.unusedVariables false
set_option maxRecDepth 20000


theorem first_off (p : Nat → Bool) : ∀ n, (∀ j, j < n → p j = true) ∨ ∃ i, i < n ∧ p i = false ∧ ∀ j, j < i → p j = true
 | 0 => Or.inl (fun j h => by omega)
 | n + 1 => by
  rcases first_off p n with h | ⟨i, h1, h2, h3⟩
  ·cases e : p n with
   | true => exact Or.inl (fun j hj => by rcases Nat.lt_or_ge j n with h' | h'; exact h j h'; rw [show j = n by omega]; exact e)
   | false => exact Or.inr ⟨n, by omega, e, h⟩
  ·exact Or.inr ⟨i, by omega, h2, h3⟩
/-- May these be data? -/
structure Good (D : List Int) (L : List (List Int)) : Prop where
 some : L.length ≠ 0
 len : D.length = L.length + 1
 one : D.getD 0 0 = 1
 row : ∀ i, i < L.length → (L.getD i []).length = i
 pos : ∀ i, i < L.length → 0 < D.getD (i + 1) 0
/-- How it fails. -/
inductive Bad (D : List Int) (L : List (List Int)) : Prop
 | none : L.length = 0 → Bad D L
 | len : L.length ≠ 0 → D.length ≠ L.length + 1 → Bad D L
 | one : L.length ≠ 0 → D.length = L.length + 1 → D.getD 0 0 ≠ 1 → Bad D L
 | row (i0 : Nat) : L.length ≠ 0 → D.length = L.length + 1 → D.getD 0 0 = 1 → i0 < L.length → (∀ j, j < i0 → (L.getD j []).length = j ∧ 0 < D.getD (j + 1) 0) → ((L.getD i0 []).length ≠ i0 ∨ ((L.getD i0 []).length = i0 ∧ D.getD (i0 + 1) 0 ≤ 0)) → Bad D L
theorem Good.d {D : List Int} {L : List (List Int)} (h : Good D L) (i : Nat) (hi : i < D.length) : 0 < D.getD i 0 := by
 cases i with
 | zero => rw [h.one]; decide
 | succ i => exact h.pos i (by have := h.len; omega)
theorem sgn_pos {z : Int} (h : 0 < z) : z.sign = 1 := Int.sign_eq_one_of_pos h
theorem sgn0 {z : Int} (h : z = 0) : z.sign = 0 := by rw [h]; rfl
abbrev q6u3q0 (nD : Nat) (nL : Nat) (K : Nat) (D : List Int) (L : List (List Int)) : Rk := .box 26 (SF [(Vv nD D K), (Mv nL L K)])
set_option maxHeartbeats 2000000 in
theorem may_t (w : World) (u : Value) (nD nL K : Nat) (D : List Int) (L : List (List Int)) (h : Hs w (SF [Vv nD D K, Mv nL L K]) u) (hD : nD ≤ 1048576) (hL : nL ≤ 1048576) (hK : K ≤ 1048576) (lD : D.length = nD) (lL : L.length = nL) (g : Good D L) :
  Calls Tryz.prog 20 #[u] w (Gives (IS (.bool true)) w) := by
 have hs := g.some
 have hl := g.len
 have h1 := g.one
 have hone : ((D.getD 0 0) - (1)).sign = 0 := sgn0 (by omega)
 refine calls_sta (sl := [(0, (SF [(Vv nD D K), (Mv nL L K)]))]) Tryz.func20 rfl Tryz.ntmps20 (by simp) (args_cons rfl (h) args_nil) ?_
 intro a0 S0
 refine wq [.new (q6u3q0 nD nL K D L), kF] [.inl 0] [] S0 ?_ ?_
 ·apply jj2
  ·exact owe_box rfl wA rfl (oS 0 0) rfl (fun ρ w h => box_gso shp_sf2 ρ _ _ w h)
  ·exact mC
 intro _ a1 _ (S1 : Sta w 51 [(1, (q6u3q0 nD nL K D L))] [] _ _ _)
 refine wp_seq ?_
 refine wq [.val (Part a1 1 1), .val (Mv nL L K), .val (iV (nL : Nat)), kF, kF, .val (Part a1 1 0), .val (Vv nD D K), .val (iV (nD : Nat)), .val (Part a1 1 1), .val (Mv nL L K), .val (iV (nL : Nat)), .val (iV ((nL + 1 : Nat) : Int)), kF, kF, kF, .val (Part a1 1 0), .val (Vv nD D K), .val (AtE 2 (Zv (D.getD 0 0) K)), .val (Zv (D.getD 0 0) K), .val ((ZN (1)) w.heap.size), .val (iV (((D.getD 0 0) - 1).sign)), kF, kF] [.inr 0] [.inl 22] S1 ?_ ?_
 ·repeat' refine And.intro ?_ ?_
  ·trivial
  ·exact owe_part rfl wA rfl (k := 0) rfl (by kernel_rfl) rfl (fun ρ w b h => part_gso1 ρ _ _ w b 0 h)
  ·exact owe_pload rfl wA rfl (oO 0 5) (k := 0) rfl (by kernel_rfl) rfl (fun ρ w b u h1 h2 h3 => ploadS rfl load1_mat ρ _ _ w b u h1 h2 h3)
  ·exact owe_len rfl wA rfl (oO 1 6) ar_len Tryz.underlying22 rfl
  ·exact b_eql_int_f wA (oO 2 7) (opnd_const _)
  ·exact mO 3 8
  ·exact owe_part rfl (wI 4 9) rfl (k := 0) rfl (by kernel_rfl) rfl (fun ρ w b h => part_gso0 ρ _ _ w b 0 h)
  ·exact owe_pload rfl (wI 4 9) rfl (oO 5 10) (k := 0) rfl (by kernel_rfl) rfl (fun ρ w b u h1 h2 h3 => ploadS rfl load1_vec ρ _ _ w b u h1 h2 h3)
  ·exact owe_len rfl (wI 4 9) rfl (oO 6 11) ar_len Tryz.underlying23 rfl
  ·exact owe_part rfl (wI 4 9) rfl (k := 0) rfl (by kernel_rfl) rfl (fun ρ w b h => part_gso1 ρ _ _ w b 0 h)
  ·exact owe_pload rfl (wI 4 9) rfl (oO 8 13) (k := 0) rfl (by kernel_rfl) rfl (fun ρ w b u h1 h2 h3 => ploadS rfl load1_mat ρ _ _ w b u h1 h2 h3)
  ·exact owe_len rfl (wI 4 9) rfl (oO 9 14) ar_len Tryz.underlying22 rfl
  ·exact b_add_int (wI 4 9) (oO 10 15) (opnd_const _)
  ·exact b_neq_int_f (wI 4 9) (oO 7 12) (oO 11 16)
  ·exact pF wA (oO 4 9) (oO 12 17)
  ·exact mO 13 18
  ·exact owe_part rfl (wI 14 19) rfl (k := 0) rfl (by kernel_rfl) rfl (fun ρ w b h => part_gso0 ρ _ _ w b 0 h)
  ·exact owe_pload rfl (wI 14 19) rfl (oO 15 20) (k := 0) rfl (by kernel_rfl) rfl (fun ρ w b u h1 h2 h3 => ploadS rfl load1_vec ρ _ _ w b u h1 h2 h3)
  ·exact owe_aindex rfl (wI 14 19) rfl idx_ints (oO 16 21) (opnd_const _) (zv_at (k := 0) (by omega)) rfl
  ·exact owe_aload rfl (wI 14 19) rfl ldr_int (by decide) (cel_shp (by decide) shp_zv) (oO 17 22) rfl
  ·exact cc1 (wI 14 19) (opnd_const _) (fresh_zn _) (g_zof (1) (by omega) (by omega))
  ·exact cc2 (wI 14 19) (qO 18 23 rfl) (qO 19 24 rfl) (fresh_is _) (fun w u v h1 h2 => h_zcmp (by omega) (by omega) w u v ((fun _ _ h => h) _ _ h1) ((zn_zv one_dl) _ _ h2))
  ·exact b_neq_int_f (wI 14 19) (oO 20 25) (opnd_const _) (h := hone)
  ·exact pF wA (oO 14 19) (oO 21 26)
 intro _ a2 _ (S2 : Sta w 51 [(1, (q6u3q0 nD nL K D L))] [(27, bF)] _ _ _)
 refine wp_cond_false (S2.bool 0 27 rfl) (wp_skip (thenN (wp_seq ?_)))
 refine wq [.val (Part a2 1 1), .val (Mv nL L K), .val (iV (nL : Nat)), .val (iV 0)] [.inr 0] [.inl 1, .inl 2, .inl 3] S2 ?_ ?_
 ·apply jj4
  ·exact owe_part rfl wA rfl (k := 0) rfl (by kernel_rfl) rfl (fun ρ w b h => part_gso1 ρ _ _ w b 0 h)
  ·exact owe_pload rfl wA rfl (oO 0 28) (k := 0) rfl (by kernel_rfl) rfl (fun ρ w b u h1 h2 h3 => ploadS rfl load1_mat ρ _ _ w b u h1 h2 h3)
  ·exact owe_len rfl wA rfl (oO 1 29) ar_len Tryz.underlying22 rfl
  ·exact mC
 intro B3 a3 _ (S3 : Sta w 51 [(1, (q6u3q0 nD nL K D L))] [(29, Mv nL L K), (30, iV (nL : Nat)), (31, iV 0)] _ _ _)
 refine wp_block ?_
 refine wp_loop_ghost (fun (k0 : Nat) a W => (k0 ≤ nL) ∧ ∃ Bq, Sta w 51 [(1, (q6u3q0 nD nL K D L))] [(29, Mv nL L K), (30, iV (nL : Nat)), (31, iV (k0 : Nat))] Bq a W) (fun (k0 : Nat) => nL - k0) ?_ 0 ⟨Nat.zero_le _, B3, S3.sub [0] [0, 1, 2]⟩
 rintro k0 a4 _ ⟨hcond, _, S4⟩
 by_cases hlt : k0 < nL
 ·have hr := g.row k0 (by omega)
  have hp := sgn_pos (g.pos k0 (by omega))
  refine wq [kT] [.inr 0] [.inl 0, .inr 0, .inr 1, .inr 2] S4 ?_ ?_
  ·apply jj1
   ·exact b_lss_int_t wA (oS 2 31) (oS 1 30)
  intro B5 a5 W5 (S5 : Sta w 51 [(1, (q6u3q0 nD nL K D L))] [(32, bT), (29, Mv nL L K), (30, iV (nL : Nat)), (31, iV (k0 : Nat))] _ _ _)
  refine wp_seq (wp_cond_true (S5.bool 0 32 rfl) (wp_skip (thenN (wp_seq (wp_block ?_)))))
  refine wq [.val (iV (k0 : Nat)), .val (AtE 1 (Vv ((L.getD k0 []).length) (L.getD k0 []) K)), .val (Vv ((L.getD k0 []).length) (L.getD k0 []) K), .val (iV (k0 : Nat)), .val (Vv ((L.getD k0 []).length) (L.getD k0 []) K)] [.inr 0] [.inl 3, .inl 4, .inr 1, .inr 2, .inr 3] S5 ?_ ?_
  ·apply jj5
   ·exact mS 3 31
   ·exact owe_aindex rfl wA rfl idx_rows (oS 1 29) (oS 3 31) (vv_at (by omega)) rfl
   ·exact owe_aload rfl wA rfl ldr_row1 (by decide) cel_vv (oO 1 34) rfl
   ·exact mO 0 33
   ·exact mO 2 35
  intro B6 a6 W6 (S6 : Sta w 51 [(1, (q6u3q0 nD nL K D L))] [(3, iV (k0 : Nat)), (4, Vv ((L.getD k0 []).length) (L.getD k0 []) K), (29, Mv nL L K), (30, iV (nL : Nat)), (31, iV (k0 : Nat))] _ _ _)
  refine wq [.val (Vv ((L.getD k0 []).length) (L.getD k0 []) K), .val (iV ((L.getD k0 []).length : Nat)), .val (iV (k0 : Nat)), kF, kF, .val (Part a6 1 0), .val (Vv nD D K), .val (iV (k0 : Nat)), .val (iV ((k0 + 1 : Nat) : Int)), .val (AtE 2 (Zv (D.getD (k0 + 1) 0) K)), .val (Zv (D.getD (k0 + 1) 0) K), .val (iV ((D.getD (k0 + 1) 0).sign)), kF, kF] [.inr 0] [.inl 13, .inr 2, .inr 3, .inr 4] S6 ?_ ?_
  ·repeat' refine And.intro ?_ ?_
   ·trivial
   ·exact mS 1 4
   ·exact owe_len rfl wA rfl (oO 0 36) ar_len Tryz.underlying23 rfl
   ·exact mS 0 3
   ·exact b_neq_int_f wA (oO 1 37) (oO 2 38)
   ·exact mO 3 39
   ·exact owe_part rfl (wI 4 40) rfl (k := 0) rfl (by kernel_rfl) rfl (fun ρ w b h => part_gso0 ρ _ _ w b 0 h)
   ·exact owe_pload rfl (wI 4 40) rfl (oO 5 41) (k := 0) rfl (by kernel_rfl) rfl (fun ρ w b u h1 h2 h3 => ploadS rfl load1_vec ρ _ _ w b u h1 h2 h3)
   ·exact mW (wI 4 40) (oS 0 3)
   ·exact b_add_int (wI 4 40) (oO 7 43) (opnd_const _)
   ·exact owe_aindex rfl (wI 4 40) rfl idx_ints (oO 6 42) (oO 8 44) (zv_at (by omega)) rfl
   ·exact owe_aload rfl (wI 4 40) rfl ldr_int (by decide) (cel_shp (by decide) shp_zv) (oO 9 45) rfl
   ·exact cc1 (wI 4 40) (qO 10 46 rfl) (fresh_is _) (fun w u h1 => h_zsign (by omega) w u ((fun _ _ h => h) _ _ h1))
   ·exact b_leq_int_f (wI 4 40) (oO 11 47) (opnd_const _)
   ·exact pF wA (oO 4 40) (oO 12 48)
  intro _ a7 _ (S7 : Sta w 51 [(1, (q6u3q0 nD nL K D L))] [(49, bF), (29, Mv nL L K), (30, iV (nL : Nat)), (31, iV (k0 : Nat))] _ _ _)
  refine wp_cond_false (S7.bool 0 49 rfl) (wp_skip (inBlkN (thenN ?_)))
  refine wr [.val (iV (k0 + 1 : Nat)), .val (iV (k0 + 1 : Nat))] [.inr 0] [.inl 1, .inr 1, .inr 2] S7 ?_ ?_
  ·apply jj2
   ·exact b_add_int wA (oS 3 31) (opnd_const _)
   ·exact mO 0 50
  intro B8 a8 _ (S8 : Sta w 51 [(1, (q6u3q0 nD nL K D L))] [(31, iV (k0 + 1 : Nat)), (29, Mv nL L K), (30, iV (nL : Nat))] _ _ _)
  refine thenN ?_
  exact ⟨k0 + 1, ⟨by omega, B8, S8.sub [0] [1, 2, 0]⟩, by omega⟩
 ·skip
  refine wq [kF] [.inr 0] [.inl 0, .inr 0, .inr 1, .inr 2] S4 ?_ ?_
  ·apply jj1
   ·exact b_lss_int_f wA (oS 2 31) (oS 1 30)
  intro B5 a5 W5 (S5 : Sta w 51 [(1, (q6u3q0 nD nL K D L))] [(32, bF), (29, Mv nL L K), (30, iV (nL : Nat)), (31, iV (k0 : Nat))] _ _ _)
  refine wp_seq (wp_cond_false (S5.bool 0 32 rfl) (wp_exit (thenX (thenX (inBlkE (thenN ?_))))))
  refine wq [kT] [.inr 0] [.inl 0, .inr 1, .inr 2, .inr 3] S5 ?_ ?_
  ·apply jj1
   ·exact mC
  intro B6 a6 W6 (S6 : Sta w 51 [(1, (q6u3q0 nD nL K D L))] [(2, bT), (29, Mv nL L K), (30, iV (nL : Nat)), (31, iV (k0 : Nat))] _ _ _)
  refine wp_ret ?_
  exact end_one S6 rfl (res_tmp S6 0 2 rfl)

/-- How the document finds that it fails. -/
inductive RBad (D : List Int) (L : List (List Int)) : Prop
 | none : L.length = 0 → RBad D L
 | len : L.length ≠ 0 → D.length ≠ L.length + 1 → RBad D L
 | one : L.length ≠ 0 → D.length = L.length + 1 → D.getD 0 0 ≠ 1 → RBad D L
 | pos (i0 : Nat) : L.length ≠ 0 → D.length = L.length + 1 → D.getD 0 0 = 1 → i0 < D.length → (∀ j, j < i0 → 0 < D.getD j 0) → D.getD i0 0 ≤ 0 → RBad D L
 | row (i0 : Nat) : L.length ≠ 0 → D.length = L.length + 1 → D.getD 0 0 = 1 → (∀ j, j < D.length → 0 < D.getD j 0) → i0 < L.length → (∀ j, j < i0 → (L.getD j []).length = j) → (L.getD i0 []).length ≠ i0 → RBad D L
theorem Bad.r {D : List Int} {L : List (List Int)} (h : Bad D L) : RBad D L := by
 cases h with
 | none h => exact .none h
 | len h1 h2 => exact .len h1 h2
 | one h1 h2 h3 => exact .one h1 h2 h3
 | row i0 h1 h2 h3 h4 h5 h6 =>
  rcases first_off (fun j => decide (0 < D.getD j 0)) D.length with h | ⟨i, hi, h7, h8⟩
  ·rcases first_off (fun j => decide ((L.getD j []).length = j)) L.length with g | ⟨j, hj, g1, g2⟩
   ·rcases h6 with h6 | ⟨_, h6⟩
    ·exact absurd (of_decide_eq_true (g i0 h4)) h6
    ·have := of_decide_eq_true (h (i0 + 1) (by omega)); omega
   ·exact .row j h1 h2 h3 (fun k hk => of_decide_eq_true (h k hk)) hj (fun k hk => of_decide_eq_true (g2 k hk)) (of_decide_eq_false g1)
  ·exact .pos i h1 h2 h3 hi (fun j hj => of_decide_eq_true (h8 j hj)) (by have := of_decide_eq_false h7; omega)

end Go.Proofs.YtbgelajoomneiaaGreat

/-
 gso.Mu, gso.Star, what the document says of them.
-/
namespace Go.Proofs.YtbgelajoomneiaaGreat
open Go Go.RowKit Nt
set_option linter.unusedSimpArgs false
set_option linter.unusedVariables false
set_option maxRecDepth 20000


abbrev qrlf90 (nD : Nat) (nL : Nat) (K : Nat) (D : List Int) (L : List (List Int)) : Rk := .box 26 (SF [(Vv nD D K), (Mv nL L K)])
set_option maxHeartbeats 400000 in
theorem mu_e (w : World) (u : Value) (nD nL K : Nat) (D : List Int) (L : List (List Int)) (h : Hs w (SF [Vv nD D K, Mv nL L K]) u) (hD : nD ≤ 1048576) (hL : nL ≤ 1048576) (hK : K ≤ 1048576) (lD : D.length = nD) (lL : L.length = nL) (i : Nat) (g : Good D L) (hi : i < nL) :
  Calls Tryz.prog 34 #[u, .int .i64 (i : Nat), .int .i64 (i : Nat)] w (Gives (TWO (RN 1 1) (IS (.int .i64 0))) w) := by
 refine calls_sta (sl := [(0, (SF [(Vv nD D K), (Mv nL L K)])), (1, (iV (i : Nat))), (2, (iV (i : Nat)))]) Tryz.func34 rfl Tryz.ntmps34 (by simp) (args_cons rfl (h) (args_cons rfl (is_has _) (args_cons rfl (is_has _) args_nil))) ?_
 intro a0 S0
 refine wq [.new (qrlf90 nD nL K D L), .new (.box 34 zR), .val (iV 0)] [.inl 0, .inl 1] [.inr 1, .inr 2] S0 ?_ ?_
 ·apply jj3
  ·exact owe_box rfl wA rfl (oS 0 0) rfl (fun ρ w h => box_gso shp_sf2 ρ _ _ w h)
  ·exact owe_new rfl wA rfl rfl (fun ρ w => alloc_rat ρ _ w)
  ·exact mC
 intro _ a1 _ (S1 : Sta w 52 [(3, (qrlf90 nD nL K D L)), (6, (.box 34 zR))] [(1, iV (i : Nat)), (2, iV (i : Nat))] _ _ _)
 refine wp_seq (wp_block ?_)
 refine wq [.val (SF [(Vv nD D K), (Mv nL L K)]), kT, kF, kF] [.inr 0, .inr 1] [.inl 3, .inr 0, .inr 1] S1 ?_ ?_
 ·apply jj4
  ·exact lod 0 wA (loads_of strct_gso shp_sf2)
  ·exact ch1 wA (qO 0 9 rfl) (fresh_is _) (fun w u h => may_t w u nD nL K D L h hD hL hK lD lL g)
  ·exact b_not wA (oO 1 10)
  ·exact mO 2 11
 intro _ a2 _ (S2 : Sta w 52 [(3, (qrlf90 nD nL K D L)), (6, (.box 34 zR))] [(8, bF), (1, iV (i : Nat)), (2, iV (i : Nat))] _ _ _)
 refine wp_cond_false (S2.bool 0 8 rfl) ?_
 refine wq [.val (iV (i : Nat)), kF, kF, .val (iV (i : Nat)), .val (iV (i : Nat)), kF, kF, kF, .val (iV (i : Nat)), .val (Part a2 3 1), .val (Mv nL L K), .val (iV (nL : Nat)), kF, kF, kF] [.inr 0, .inr 1] [.inl 14, .inr 1, .inr 2] S2 ?_ ?_
 ·repeat' refine And.intro ?_ ?_
  ·trivial
  ·exact mS 2 2
  ·exact b_lss_int_f wA (oO 0 14) (opnd_const _)
  ·exact mO 1 15
  ·exact mW (wI 2 16) (oS 2 2)
  ·exact mW (wI 2 16) (oS 1 1)
  ·exact b_gtr_int_f (wI 2 16) (oO 3 17) (oO 4 18)
  ·exact pF wA (oO 2 16) (oO 5 19)
  ·exact mO 6 20
  ·exact mW (wI 7 21) (oS 1 1)
  ·exact owe_part rfl (wI 7 21) rfl (k := 0) rfl (by kernel_rfl) rfl (fun ρ w b h => part_gso1 ρ _ _ w b 0 h)
  ·exact owe_pload rfl (wI 7 21) rfl (oO 9 23) (k := 0) rfl (by kernel_rfl) rfl (fun ρ w b u h1 h2 h3 => ploadS rfl load1_mat ρ _ _ w b u h1 h2 h3)
  ·exact owe_len rfl (wI 7 21) rfl (oO 10 24) ar_len Tryz.underlying22 rfl
  ·exact b_geq_int_f (wI 7 21) (oO 8 22) (oO 11 25)
  ·exact pF wA (oO 7 21) (oO 12 26)
  ·exact mO 13 27
 intro _ a3 _ (S3 : Sta w 52 [(3, (qrlf90 nD nL K D L)), (6, (.box 34 zR))] [(13, bF), (1, iV (i : Nat)), (2, iV (i : Nat))] _ _ _)
 refine wp_cond_false (S3.bool 0 13 rfl) ?_
 refine wq [.val (iV (i : Nat)), .val (iV (i : Nat)), kT, kT] [.inr 0, .inr 1] [.inl 3, .inr 1, .inr 2] S3 ?_ ?_
 ·apply jj4
  ·exact mS 2 2
  ·exact mS 1 1
  ·exact b_eql_int_t wA (oO 0 30) (oO 1 31)
  ·exact mO 2 32
 intro _ a4 _ (S4 : Sta w 52 [(3, (qrlf90 nD nL K D L)), (6, (.box 34 zR))] [(29, bT), (1, iV (i : Nat)), (2, iV (i : Nat))] _ _ _)
 refine wp_cond_true (S4.bool 0 29 rfl) ?_
 refine wq [.val ((ZN (1)) w.heap.size), .val ((RN 1 1) w.heap.size), .put (.inl 6) (.box 34 ((RN 1 1) w.heap.size)), .val (iV 0)] [.inr 0, .inr 1] [.inl 3] S4 ?_ ?_
 ·apply jj4
  ·exact cc1 wA (opnd_const _) (fresh_zn _) (g_zof (1) (by omega) (by omega))
  ·exact cc1 wA (qO 0 33 rfl) (fresh_rn _ _) (fun w u h1 => g_ratof (k := 1) (by omega) w u (zn_zv one_dl _ _ h1))
  ·exact owe_set rfl wA rfl (k := 1) rfl (by kernel_rfl) (oO 1 34) (stores_of strct_rat shp_r0 (shp_pr shp_zn shp_zn)) rfl
  ·exact mC
 intro _ a5 _ (S5 : Sta w 52 [(3, (qrlf90 nD nL K D L)), (6, (.box 34 ((RN 1 1) w.heap.size)))] [(7, iV 0)] _ _ _)
 refine wp_ret (inBlkR (thenR ?_))
 exact end_two S5 rfl (res_cell S5 1 6 rfl strct_rat (shp_pr shp_zn shp_zn)) (res_tmp S5 0 7 rfl)

end Go.Proofs.YtbgelajoomneiaaGreat

/-
 Rationals by any quotient that they are: sums, products; what the norm by data comes to.
-/
namespace Go.Proofs.YtbgelajoomneiaaGreat
open Go Go.RowKit Nt
set_option linter.unusedSimpArgs false
set_option linter.unusedVariables false
set_option maxRecDepth 20000

/-- The rational P by Q, in new memory, in lowest terms. -/
def QQ (P : Int) (Q : Nat) : Nat → Pr := RN (nR P Q) (dR P Q)
theorem fresh_qq (P : Int) (Q : Nat) : Fresh (QQ P Q) := fresh_rn _ _
theorem qq_eq {P P' : Int} {Q Q' : Nat} (hQ : Q ≠ 0) (hQ' : Q' ≠ 0) (h : P * (Q' : Int) = P' * (Q : Int)) : QQ P Q = QQ P' Q' := by
 obtain ⟨a, b⟩ := low_one hQ hQ' h
 unfold QQ
 rw [a, b]
theorem qq_1 (A : Int) : RN A 1 = QQ A 1 := by
 unfold QQ nR dR
 rw [Nat.gcd_one_right, Nat.div_one, Nat.div_one]
 congr 1
 unfold sg ng
 by_cases h : A < 0
 ·simp [h]; omega
 ·simp [h]; omega
theorem shp_qq {P : Int} {Q lo : Nat} : Shp 4 (QQ P Q lo) := shp_pr shp_zn shp_zn
theorem qq_rv {P : Int} {Q k lo : Nat} (h : (digs P.natAbs).length ≤ k) (h' : (digs Q).length ≤ k) : ∀ v w, QQ P Q lo v w → Rv (nR P Q) ((dR P Q : Nat) : Int) k k v w := rn_rv (nR_len h) (dR_len h')
theorem q_cross {P P' : Int} {Q Q' : Nat} : (nR P Q * (dR P' Q' : Int) + nR P' Q' * (dR P Q : Int)) * ((Q * Q' : Nat) : Int) = (P * (Q' : Int) + P' * (Q : Int)) * ((dR P Q * dR P' Q' : Nat) : Int) := by
 have e1 := nR_mul P Q
 have e2 := nR_mul P' Q'
 rw [Int.natCast_mul, Int.natCast_mul]
 generalize nR P Q = n at *
 generalize nR P' Q' = n' at *
 generalize (dR P Q : Int) = d at *
 generalize (dR P' Q' : Int) = d' at *
 generalize (Q : Int) = q at *
 generalize (Q' : Int) = q' at *
 grind
theorem q_add {P P' : Int} {Q Q' k k' lo lo' : Nat} (hQ : Q ≠ 0) (hQ' : Q' ≠ 0) (b1 : (digs P.natAbs).length ≤ k) (b2 : (digs Q).length ≤ k) (b3 : (digs P'.natAbs).length ≤ k') (b4 : (digs Q').length ≤ k') (hk : k ≤ 8388608) (hk' : k' ≤ 8388608) :
  ∀ w u v, QQ P Q lo u w → QQ P' Q' lo' v w → Calls Tryz.prog 25 #[u, v] w (Gives (TWO (QQ (P * (Q' : Int) + P' * (Q : Int)) (Q * Q')) (IS (.int .i64 0))) w) := fun w u v h h' => by
 have := g_ratadd (dR_ne hQ) (dR_ne hQ') hk hk hk' hk' w u v (qq_rv b1 b2 u w h) (qq_rv b3 b4 v w h')
 exact Gives.cast this (congrArg (fun q => TWO q (IS (.int .i64 0))) (qq_eq (Nat.mul_ne_zero (dR_ne hQ) (dR_ne hQ')) (Nat.mul_ne_zero hQ hQ') q_cross))
/-! The norm by data. -/
def dN (D : List Int) (i : Nat) : Nat := (D.getD i 0).toNat
theorem dN_eq {D : List Int} {L : List (List Int)} (g : Good D L) {i : Nat} (hi : i < D.length) : D.getD i 0 = (dN D i : Int) ∧ dN D i ≠ 0 := by
 have := g.d i hi
 unfold dN
 omega
/-- What lies behind i, number by number. -/
def bhL (x : List Int) (L : List (List Int)) (i : Nat) : Nat → List Int
 | 0 => []
 | t + 1 => bhL x L i t ++ [x.getD (i + 1 + t) 0 * (L.getD (i + 1 + t) []).getD i 0]
theorem bhL_len (x : List Int) (L : List (List Int)) (i : Nat) : ∀ t, (bhL x L i t).length = t
 | 0 => rfl
 | t + 1 => by simp [bhL, bhL_len x L i t]
/-- D (i + 1) times how often the row i is in the sum, the first t behind it with it. -/
def nmT (D x : List Int) (L : List (List Int)) (i t : Nat) : Int := x.getD i 0 * D.getD (i + 1) 0 + sumZ (bhL x L i t)
def nmS (D x : List Int) (L : List (List Int)) (n i : Nat) : Int := nmT D x L i (n - 1 - i)
def nmQ (D : List Int) : Nat → Nat
 | 0 => 1
 | k + 1 => nmQ D k * (dN D k * dN D (k + 1))
def nmP (D x : List Int) (L : List (List Int)) (n : Nat) : Nat → Int
 | 0 => 0
 | k + 1 => nmP D x L n k * ((dN D k * dN D (k + 1) : Nat) : Int) + nmS D x L n k * nmS D x L n k * (nmQ D k : Int)
theorem nmQ_ne {D : List Int} {L : List (List Int)} (g : Good D L) : ∀ k, k ≤ L.length → nmQ D k ≠ 0
 | 0, _ => Nat.one_ne_zero
 | k + 1, h => Nat.mul_ne_zero (nmQ_ne g k (by omega)) (Nat.mul_ne_zero (dN_eq g (by have := g.len; omega)).2 (dN_eq g (by have := g.len; omega)).2)
/-! How long these are. -/
theorem mv_mdl {n k : Nat} {A : List (List Int)} {u : Value} {w : World} (h : Mv n A k u w) : Mdl A k := fun i r hr => by
 obtain ⟨p, c, _, _, _, hall⟩ := h
 obtain ⟨b, o, v, _, _, _, hv⟩ := hall i (Vv r.length r k) (by rw [List.getElem?_map, hr]; rfl)
 exact vv_dl hv
theorem sf_mdl {nD nL K : Nat} {D : List Int} {L : List (List Int)} {u : Value} {w : World} (h : SF [Vv nD D K, Mv nL L K] u w) : Mdl L K := by
 obtain ⟨cs, _, _, _, hp⟩ := h
 obtain ⟨v, _, hv⟩ := hp 1 _ rfl
 exact mv_mdl hv
theorem mdl_getD {L : List (List Int)} {K : Nat} (h : Mdl L K) (i : Nat) : Dl (L.getD i []) K := by
 rw [List.getD_eq_getElem?_getD]
 cases e : L[i]? with
 | none => exact fun j z hz => by simp at hz
 | some r => exact h i r e
def wtD (D : List Int) : Nat → Nat
 | 0 => 0
 | k + 1 => wtD D k + (digs (D.getD k 0).natAbs).length
theorem bhL_dl {x : List Int} {L : List (List Int)} {K : Nat} (hx : Dl x K) (hL : Mdl L K) (i : Nat) : ∀ t, Dl (bhL x L i t) (2 * K)
 | 0 => fun j z h => by simp [bhL] at h
 | t + 1 => fun j z h => by
  have hl := bhL_len x L i t
  rcases Nat.lt_or_ge j t with h1 | h1
  ·rw [bhL, List.getElem?_append_left (by omega)] at h
   exact bhL_dl hx hL i t j z h
  ·rw [bhL, List.getElem?_append_right (by omega)] at h
   cases hj : j - (bhL x L i t).length with
   | zero =>
    rw [hj] at h
    simp only [List.getElem?_cons_zero, Option.some.injEq] at h
    rw [← h, Int.natAbs_mul]
    exact Nat.le_trans (digs_mul_len (dl_getD hx _) (dl_getD (mdl_getD hL _) _)) (by omega)
   | succ s => rw [hj] at h; simp at h
theorem nmT_dl {D x : List Int} {L : List (List Int)} {K : Nat} (hD : Dl D K) (hx : Dl x K) (hL : Mdl L K) (i t : Nat) : (digs (nmT D x L i t).natAbs).length ≤ 2 * K + t + 1 := by
 have h1 : (digs (x.getD i 0 * D.getD (i + 1) 0).natAbs).length ≤ 2 * K + t := by
  rw [Int.natAbs_mul]
  exact Nat.le_trans (digs_mul_len (dl_getD hx _) (dl_getD hD _)) (by omega)
 have h2 := sumZ_len (bhL_dl hx hL i t) t
 rw [List.take_of_length_le (by rw [bhL_len]; omega)] at h2
 exact Nat.le_trans (digs_length_mono (Int.natAbs_add_le _ _)) (digs_add_len h1 h2)
theorem dN_dl {D : List Int} {L : List (List Int)} (g : Good D L) {i : Nat} (hi : i < D.length) : (digs (dN D i)).length = (digs (D.getD i 0).natAbs).length := by
 obtain ⟨h, _⟩ := dN_eq g hi
 rw [h]
 rfl
theorem nmQ_dl {D : List Int} {L : List (List Int)} (g : Good D L) : ∀ k, k ≤ L.length → (digs (nmQ D k)).length ≤ 1 + wtD D k + wtD D (k + 1)
 | 0, _ => Nat.le_trans (digs_length_le (k := 1) (show (1 : Nat) < 4294967296 ^ 1 by decide)) (by omega)
 | k + 1, h => by
  have hl := g.len
  have h1 := nmQ_dl g k (by omega)
  have h2 : (digs (dN D k * dN D (k + 1))).length ≤ (digs (D.getD k 0).natAbs).length + (digs (D.getD (k + 1) 0).natAbs).length := by
   rw [← dN_dl g (i := k) (by omega), ← dN_dl g (i := k + 1) (by omega)]
   exact digs_mul_len (Nat.le_refl _) (Nat.le_refl _)
  refine Nat.le_trans (digs_mul_len h1 h2) ?_
  simp only [wtD]
  omega
theorem nmP_dl {D x : List Int} {L : List (List Int)} {n S : Nat} (g : Good D L) (hS : ∀ i, i < n → (digs (nmS D x L n i).natAbs).length ≤ S) (hn : n = L.length) : ∀ k, k ≤ n → (digs (nmP D x L n k).natAbs).length ≤ 2 * S + 1 + wtD D k + wtD D (k + 1) + k
 | 0, _ => by
  have : (nmP D x L n 0).natAbs = 0 := rfl
  rw [this, digs_zero]
  exact Nat.zero_le _
 | k + 1, h => by
  have hl := g.len
  have h1 := nmP_dl g hS hn k (by omega)
  have h3 := nmQ_dl g k (by omega)
  have h2 : (digs (dN D k * dN D (k + 1))).length ≤ (digs (D.getD k 0).natAbs).length + (digs (D.getD (k + 1) 0).natAbs).length := by
   rw [← dN_dl g (i := k) (by omega), ← dN_dl g (i := k + 1) (by omega)]
   exact digs_mul_len (Nat.le_refl _) (Nat.le_refl _)
  have a1 : (digs (nmP D x L n k * ((dN D k * dN D (k + 1) : Nat) : Int)).natAbs).length ≤ 2 * S + 1 + wtD D (k + 1) + wtD D (k + 2) + k := by
   rw [Int.natAbs_mul, Int.natAbs_natCast]
   refine Nat.le_trans (digs_mul_len h1 h2) ?_
   simp only [wtD]
   omega
  have a2 : (digs (nmS D x L n k * nmS D x L n k * (nmQ D k : Int)).natAbs).length ≤ 2 * S + 1 + wtD D (k + 1) + wtD D (k + 2) + k := by
   rw [Int.natAbs_mul, Int.natAbs_mul, Int.natAbs_natCast]
   refine Nat.le_trans (digs_mul_len (digs_mul_len (hS k (by omega)) (hS k (by omega))) h3) ?_
   simp only [wtD]
   omega
  exact Nat.le_trans (digs_length_mono (Int.natAbs_add_le _ _)) (digs_add_len a1 a2)
theorem wtD_mono (D : List Int) {a b : Nat} (h : a ≤ b) : wtD D a ≤ wtD D b := by
 induction h with
 | refl => exact Nat.le_refl _
 | step h ih => simp only [wtD]; omega
end Go.Proofs.YtbgelajoomneiaaGreat

/-
 gso.behind, gso.Norm, what the document says of it.
-/
namespace Go.Proofs.YtbgelajoomneiaaGreat
open Go Go.RowKit Nt
set_option linter.unusedSimpArgs false
set_option linter.unusedVariables false
set_option maxRecDepth 20000

abbrev qgjla0 (nD : Nat) (nL : Nat) (K : Nat) (D : List Int) (L : List (List Int)) : Rk := .box 26 (SF [(Vv nD D K), (Mv nL L K)])
abbrev qgjla1  : Rk := .box 32 zI
set_option maxHeartbeats 2000000 in
theorem behind_w (w : World) (u v : Value) (nD nL n K : Nat) (D x : List Int) (L : List (List Int)) (h : Hs w (SF [Vv nD D K, Mv nL L K]) u) (hv : Hs w (Vv n x K) v) (hD : nD ≤ 1048576) (hL : nL ≤ 1048576) (hn : n ≤ 1048576) (hK : K ≤ 500000000) (lD : D.length = nD) (lL : L.length = nL) (lx : x.length = n) (i : Nat) (en : nL = n) (hi : i < n) (hr : ∀ j, j < nL → (L.getD j []).length = j) :
  Calls Tryz.prog 24 #[u, v, .int .i64 (i : Nat)] w (Gives (ZN (sumZ (bhL x L i (n - 1 - i)))) w) := by
 have hmdl := sf_mdl h.now
 have hdx := vv_dl hv.now
 refine calls_sta (sl := [(0, (SF [(Vv nD D K), (Mv nL L K)])), (1, (Vv n x K)), (2, (iV (i : Nat)))]) Tryz.func24 rfl Tryz.ntmps24 (by simp) (args_cons rfl (h) (args_cons rfl (hv) (args_cons rfl (is_has _) args_nil))) ?_
 intro a0 S0
 refine wq [.new (qgjla0 nD nL K D L), .new (qgjla1)] [.inl 0, .inl 1] [.inr 1, .inr 2] S0 ?_ ?_
 ·apply jj2
  ·exact owe_box rfl wA rfl (oS 0 0) rfl (fun ρ w h => box_gso shp_sf2 ρ _ _ w h)
  ·exact owe_new rfl wA rfl rfl (fun ρ w => alloc_int ρ _ w)
 intro _ a1 _ (S1 : Sta w 36 [(3, (qgjla0 nD nL K D L)), (6, (qgjla1))] [(1, Vv n x K), (2, iV (i : Nat))] _ _ _)
 refine wq [.new (.row 32 2 0 (CE 2 (((bhL x L i 0).map ZN).map (· w.heap.size)))), .ref 0] [.inr 0, .inr 1, .inl 1] [.inr 0, .inr 1] S1 ?_ ?_
 ·apply jj2
  ·exact owe_newb0 rfl wA rfl bld0_int ce_nil rfl
  ·exact owe_ref 0 rfl wA (Or.inr rfl) (by kernel_rfl) rfl rfl
 intro _ a2 _ (S2 : Sta w 36 [(3, (qgjla0 nD nL K D L)), (6, (qgjla1)), (7, (.row 32 2 0 (CE 2 (((bhL x L i 0).map ZN).map (· w.heap.size)))))] [(1, Vv n x K), (2, iV (i : Nat))] _ _ _)
 refine wp_seq ?_
 refine wq [.val (iV (i : Nat)), .val (iV ((i + 1 + 0 : Nat) : Int)), .val (iV ((i + 1 + 0 : Nat) : Int))] [.inr 0, .inr 1, .inr 2] [.inl 2, .inr 0, .inr 1] S2 ?_ ?_
 ·apply jj3
  ·exact mS 1 2
  ·exact b_add_int wA (oO 0 10) (opnd_const _)
  ·exact mO 1 11
 intro B3 a3 _ (S3 : Sta w 36 [(3, (qgjla0 nD nL K D L)), (6, (qgjla1)), (7, (.row 32 2 0 (CE 2 (((bhL x L i 0).map ZN).map (· w.heap.size)))))] [(8, iV ((i + 1 + 0 : Nat) : Int)), (1, Vv n x K), (2, iV (i : Nat))] _ _ _)
 refine wp_block ?_
 refine wp_loop_ghost (fun (t : Nat) a W => (t ≤ n - 1 - i) ∧ ∃ Bq, Sta w 36 [(3, (qgjla0 nD nL K D L)), (6, (qgjla1)), (7, (.row 32 2 t (CE 2 (((bhL x L i t).map ZN).map (· w.heap.size)))))] [(8, iV ((i + 1 + t : Nat) : Int)), (1, Vv n x K), (2, iV (i : Nat))] Bq a W) (fun (t : Nat) => n - 1 - i - t) ?_ 0 ⟨Nat.zero_le _, B3, S3.sub [0, 1, 2] [0, 1, 2]⟩
 rintro t a4 _ ⟨hcond, _, S4⟩
 by_cases hlt : t < n - 1 - i
 ·have hrj := hr (i + 1 + t) (by omega)
  refine wp_seq ?_
  refine wq [.val (iV ((i + 1 + t : Nat) : Int)), .val (Vv n x K), .val (iV (n : Nat)), kT] [.inr 0, .inr 1, .inr 2] [.inl 3, .inr 0, .inr 1, .inr 2] S4 ?_ ?_
  ·apply jj4
   ·exact mS 0 8
   ·exact mS 1 1
   ·exact owe_len rfl wA rfl (oO 1 13) ar_len Tryz.underlying23 rfl
   ·exact b_lss_int_t wA (oO 0 12) (oO 2 14)
  intro B5 a5 W5 (S5 : Sta w 36 [(3, (qgjla0 nD nL K D L)), (6, (qgjla1)), (7, (.row 32 2 t (CE 2 (((bhL x L i t).map ZN).map (· w.heap.size)))))] [(15, bT), (8, iV ((i + 1 + t : Nat) : Int)), (1, Vv n x K), (2, iV (i : Nat))] _ _ _)
  refine wp_cond_true (S5.bool 0 15 rfl) (wp_skip (thenN (wp_seq (wp_block ?_))))
  refine wr [.val (Is (a5.eval (.tmp 7))), .val (Vv n x K), .val (iV ((i + 1 + t : Nat) : Int)), .val (AtE 2 (Zv (x.getD (i + 1 + t) 0) K)), .val (Zv (x.getD (i + 1 + t) 0) K), .val (Part a5 3 1), .val (Mv nL L K), .val (iV ((i + 1 + t : Nat) : Int)), .val (AtE 1 (Vv (i + 1 + t) (L.getD (i + 1 + t) []) K)), .val (Vv (i + 1 + t) (L.getD (i + 1 + t) []) K), .val (iV (i : Nat)), .val (AtE 2 (Zv ((L.getD (i + 1 + t) []).getD i 0) K)), .val (Zv ((L.getD (i + 1 + t) []).getD i 0) K), .val ((ZN ((x.getD (i + 1 + t) 0) * ((L.getD (i + 1 + t) []).getD i 0))) w.heap.size), .val (Sng 32 2 ((ZN ((x.getD (i + 1 + t) 0) * ((L.getD (i + 1 + t) []).getD i 0))) w.heap.size) w.heap.size), .mov 7 (.row 32 2 (t + 1) (CE 2 (((bhL x L i (t + 1)).map ZN).map (· w.heap.size)))), .ref 15] [.inr 0, .inr 1, .inl 16] [.inr 1, .inr 2, .inr 3] S5 ?_ ?_
  ·repeat' refine And.intro ?_ ?_
   ·trivial
   ·exact owe_same rfl wA (Or.inl rfl) (by kernel_rfl) rfl
   ·exact mS 2 1
   ·exact mS 1 8
   ·exact owe_aindex rfl wA rfl idx_ints (oO 1 19) (oO 2 20) (zv_at (by omega)) rfl
   ·exact owe_aload rfl wA rfl ldr_int (by decide) (cel_shp (by decide) shp_zv) (oO 3 21) rfl
   ·exact owe_part rfl wA rfl (k := 0) rfl (by kernel_rfl) rfl (fun ρ w b h => part_gso1 ρ _ _ w b 0 h)
   ·exact owe_pload rfl wA rfl (oO 5 23) (k := 0) rfl (by kernel_rfl) rfl (fun ρ w b u h1 h2 h3 => ploadS rfl load1_mat ρ _ _ w b u h1 h2 h3)
   ·exact mS 1 8
   ·exact owe_aindex rfl wA rfl idx_rows (oO 6 24) (oO 7 25) (by have q := vv_at (A := L) (K := K) (k := i + 1 + t) (by omega); rw [hrj] at q; exact q) rfl
   ·exact owe_aload rfl wA rfl ldr_row1 (by decide) cel_vv (oO 8 26) rfl
   ·exact mS 3 2
   ·exact owe_aindex rfl wA rfl idx_ints (oO 9 27) (oO 10 28) (zv_at (by omega)) rfl
   ·exact owe_aload rfl wA rfl ldr_int (by decide) (cel_shp (by decide) shp_zv) (oO 11 29) rfl
   ·exact cc2 wA (qO 4 22 rfl) (qO 12 30 rfl) (fresh_zn _) (fun w u v h1 h2 => g_zmul (by omega) w u v ((fun _ _ h => h) _ _ h1) ((fun _ _ h => h) _ _ h2))
   ·exact owe_b1 rfl wA rfl bld_int (oO 13 31) (cel_shp (by decide) shp_zn) rfl
   ·exact owe_append rfl wA rfl (oO 0 18) (k := 2) rfl (by kernel_rfl) ((oO 14 32).imp b1_src) einf_int Tryz.underlying23 (by decide) ⟨by unfold maxLen; omega, by omega⟩ rfl (fun xs ys w h1 h2 => by rw [bhL, List.map_append, List.map_append]; exact ce_append _ _ _ h1 h2)
   ·exact owe_ref 15 rfl wA (Or.inr rfl) (by kernel_rfl) rfl rfl
  intro B6 a6 W6 (S6 : Sta w 36 [(3, (qgjla0 nD nL K D L)), (6, (qgjla1)), (7, (.row 32 2 (t + 1) (CE 2 (((bhL x L i (t + 1)).map ZN).map (· w.heap.size)))))] [(8, iV ((i + 1 + t : Nat) : Int)), (1, Vv n x K), (2, iV (i : Nat))] _ _ _)
  refine inBlkN (thenN ?_)
  refine wr [.val (iV ((i + 1 + t : Nat) : Int)), .val (Is (.int .i64 ((i + 1 + (t + 1) : Nat) : Int))), .val (Is (.int .i64 ((i + 1 + (t + 1) : Nat) : Int)))] [.inr 0, .inr 1, .inr 2] [.inl 2, .inr 1, .inr 2] S6 ?_ ?_
  ·apply jj3
   ·exact mS 0 8
   ·exact b_add_int wA (oO 0 16) (opnd_const _)
   ·exact mO 1 17
  intro B7 a7 W7 (S7 : Sta w 36 [(3, (qgjla0 nD nL K D L)), (6, (qgjla1)), (7, (.row 32 2 (t + 1) (CE 2 (((bhL x L i (t + 1)).map ZN).map (· w.heap.size)))))] [(8, Is (.int .i64 ((i + 1 + (t + 1) : Nat) : Int))), (1, Vv n x K), (2, iV (i : Nat))] _ _ _)
  refine thenN ?_
  exact ⟨t + 1, ⟨by omega, B7, S7.sub [0, 1, 2] [0, 1, 2]⟩, by omega⟩
 ·have et : t = n - 1 - i := by omega
  rw [et] at S4
  refine wp_seq ?_
  refine wq [.val (Is (.int .i64 ((i + 1 + (n - 1 - i) : Nat) : Int))), .val (Vv n x K), .val (iV (n : Nat)), kF] [.inr 0, .inr 1, .inr 2] [.inl 3, .inr 0, .inr 1, .inr 2] S4 ?_ ?_
  ·apply jj4
   ·exact mS 0 8
   ·exact mS 1 1
   ·exact owe_len rfl wA rfl (oO 1 13) ar_len Tryz.underlying23 rfl
   ·exact b_lss_int_f wA (oO 0 12) (oO 2 14)
  intro B5 a5 W5 (S5 : Sta w 36 [(3, (qgjla0 nD nL K D L)), (6, (qgjla1)), (7, (.row 32 2 ((n - 1 - i)) (CE 2 (((bhL x L i (n - 1 - i)).map ZN).map (· w.heap.size)))))] [(15, bF), (8, Is (.int .i64 ((i + 1 + (n - 1 - i) : Nat) : Int))), (1, Vv n x K), (2, iV (i : Nat))] _ _ _)
  refine wp_cond_false (S5.bool 0 15 rfl) (wp_exit (thenX (thenX (inBlkE (thenN ?_)))))
  obtain ⟨B6, S6⟩ : ∃ Bq, Sta w 36 [(3, (qgjla0 nD nL K D L)), (6, (qgjla1))] [(7, ((VN ((n - 1 - i)) (bhL x L i (n - 1 - i))) w.heap.size)), (15, bF), (8, Is (.int .i64 ((i + 1 + (n - 1 - i) : Nat) : Int))), (1, Vv n x K), (2, iV (i : Nat))] Bq a5 W5 := ⟨_, S5.freeze 2 rfl (by simp) (fun v w' xs ho hc => row_lf (by decide) v w' xs ho hc)⟩
  obtain ⟨a6, W6, e1, e2⟩ : ∃ a W, a5 = a ∧ W5 = W := ⟨_, _, rfl, rfl⟩
  rw [e1, e2] at S6 ⊢
  clear e1 e2
  refine wq [.val ((VN ((n - 1 - i)) (bhL x L i (n - 1 - i))) w.heap.size), .val ((ZN (sumZ (bhL x L i (n - 1 - i)))) w.heap.size), .put (.inl 6) (.box 32 ((ZN (sumZ (bhL x L i (n - 1 - i)))) w.heap.size))] [.inr 0, .inr 1] [.inr 0, .inr 2, .inr 3, .inr 4] S6 ?_ ?_
  ·apply jj3
   ·exact mS 0 7
   ·exact ch1 wA (qO 0 34 rfl) (fresh_zn _) (h_zsum (by omega) (bhL_len x L i _) (fun j z hz => Nat.le_trans (bhL_dl hdx hmdl i _ j z hz) (by omega)))
   ·exact owe_set rfl wA rfl (k := 1) rfl (by kernel_rfl) (oO 1 35) (stores_of strct_int shp_z0 shp_zn) rfl
  intro B7 a7 W7 (S7 : Sta w 36 [(3, (qgjla0 nD nL K D L)), (6, (.box 32 ((ZN (sumZ (bhL x L i (n - 1 - i)))) w.heap.size)))] [(7, ((VN ((n - 1 - i)) (bhL x L i (n - 1 - i))) w.heap.size)), (8, Is (.int .i64 ((i + 1 + (n - 1 - i) : Nat) : Int))), (1, Vv n x K), (2, iV (i : Nat))] _ _ _)
  refine wp_ret ?_
  exact end_one S7 rfl (res_cell S7 1 6 rfl strct_int shp_zn)

abbrev qxhe90 (nD : Nat) (nL : Nat) (K : Nat) (D : List Int) (L : List (List Int)) : Rk := .box 26 (SF [(Vv nD D K), (Mv nL L K)])
abbrev qxhe91  : Rk := .box 34 zR
abbrev qxhe92 (w : World) (n : Nat) (D : List Int) (x : List Int) (L : List (List Int)) (k0 : Nat) : Rk := .box 34 ((QQ (nmP D x L n k0) (nmQ D k0)) w.heap.size)
set_option maxHeartbeats 4000000 in
theorem nrm_w (w : World) (u v : Value) (nD nL n K : Nat) (D x : List Int) (L : List (List Int)) (h : Hs w (SF [Vv nD D K, Mv nL L K]) u) (hv : Hs w (Vv n x K) v) (hD : nD ≤ 1048576) (hL : nL ≤ 1048576) (hn : n ≤ 1048576) (hK : K ≤ 1048576) (lD : D.length = nD) (lL : L.length = nL) (lx : x.length = n) (g : Good D L) (en : nL = n) (dD : Dl D K) (dx : Dl x K) (dL : Mdl L K) (hKn : K + n ≤ 1048576) (hW : wtD D (n + 1) ≤ 1048576) :
  Calls Tryz.prog 7 #[u, v] w (Gives (TWO (QQ (nmP D x L n n) (nmQ D n)) (IS (.int .i64 0))) w) := by
 have hgl := g.len
 have hT : ∀ i t, t ≤ n → (digs (nmT D x L i t).natAbs).length ≤ 2097153 := fun i t ht => Nat.le_trans (nmT_dl dD dx dL i t) (by omega)
 have hS : ∀ i, i < n → (digs (nmS D x L n i).natAbs).length ≤ 2097153 := fun i hi => hT i _ (by omega)
 have hQd : ∀ k, k ≤ n → (digs (nmQ D k)).length ≤ 2097153 := fun k hk => by have q1 := nmQ_dl g k (by omega); have q2 := wtD_mono D (show k ≤ n + 1 by omega); have q3 := wtD_mono D (show k + 1 ≤ n + 1 by omega); omega
 have hPd : ∀ k, k ≤ n → (digs (nmP D x L n k).natAbs).length ≤ 8388608 := fun k hk => by have q1 := nmP_dl (n := n) g hS (by omega) k hk; have q2 := wtD_mono D (show k ≤ n + 1 by omega); have q3 := wtD_mono D (show k + 1 ≤ n + 1 by omega); omega
 refine calls_sta (sl := [(0, (SF [(Vv nD D K), (Mv nL L K)])), (1, (Vv n x K))]) Tryz.func7 rfl Tryz.ntmps7 (by simp) (args_cons rfl (h) (args_cons rfl (hv) args_nil)) ?_
 intro a0 S0
 refine wq [.new (qxhe90 nD nL K D L), .new (qxhe91), .val (iV 0)] [.inl 0, .inl 1] [.inr 1] S0 ?_ ?_
 ·apply jj3
  ·exact owe_box rfl wA rfl (oS 0 0) rfl (fun ρ w h => box_gso shp_sf2 ρ _ _ w h)
  ·exact owe_new rfl wA rfl rfl (fun ρ w => alloc_rat ρ _ w)
  ·exact mC
 intro _ a1 _ (S1 : Sta w 74 [(2, (qxhe90 nD nL K D L)), (4, (qxhe91))] [(1, Vv n x K)] _ _ _)
 refine wp_seq (wp_block ?_)
 refine wq [.val (SF [(Vv nD D K), (Mv nL L K)]), kT, kF, kF] [.inr 0, .inr 1] [.inl 3, .inr 0] S1 ?_ ?_
 ·apply jj4
  ·exact lod 0 wA (loads_of strct_gso shp_sf2)
  ·exact ch1 wA (qO 0 12 rfl) (fresh_is _) (fun w u h => may_t w u nD nL K D L h hD hL hK lD lL g)
  ·exact b_not wA (oO 1 13)
  ·exact mO 2 14
 intro _ a2 _ (S2 : Sta w 74 [(2, (qxhe90 nD nL K D L)), (4, (qxhe91))] [(11, bF), (1, Vv n x K)] _ _ _)
 refine wp_cond_false (S2.bool 0 11 rfl) ?_
 refine wq [.val (Vv n x K), .val (iV (n : Nat)), .val (Part a2 2 1), .val (Mv nL L K), .val (iV (nL : Nat)), kF, kF] [.inr 0, .inr 1] [.inl 6, .inr 1] S2 ?_ ?_
 ·repeat' refine And.intro ?_ ?_
  ·trivial
  ·exact mS 1 1
  ·exact owe_len rfl wA rfl (oO 0 17) ar_len Tryz.underlying23 rfl
  ·exact owe_part rfl wA rfl (k := 0) rfl (by kernel_rfl) rfl (fun ρ w b h => part_gso1 ρ _ _ w b 0 h)
  ·exact owe_pload rfl wA rfl (oO 2 19) (k := 0) rfl (by kernel_rfl) rfl (fun ρ w b u h1 h2 h3 => ploadS rfl load1_mat ρ _ _ w b u h1 h2 h3)
  ·exact owe_len rfl wA rfl (oO 3 20) ar_len Tryz.underlying22 rfl
  ·exact b_neq_int_f wA (oO 1 18) (oO 4 21)
  ·exact mO 5 22
 intro _ a3 _ (S3 : Sta w 74 [(2, (qxhe90 nD nL K D L)), (4, (qxhe91))] [(16, bF), (1, Vv n x K)] _ _ _)
 refine wp_cond_false (S3.bool 0 16 rfl) (wp_skip (inBlkN (thenN ?_)))
 refine wq [.val ((ZN (0)) w.heap.size), .val ((QQ (nmP D x L n 0) (nmQ D 0)) w.heap.size), .new (qxhe91), .put (.inr 2) (.box 34 ((QQ (nmP D x L n 0) (nmQ D 0)) w.heap.size))] [.inr 0, .inr 1, .inl 2] [.inr 1] S3 ?_ ?_
 ·apply jj4
  ·exact cc1 wA (opnd_const _) (fresh_zn _) (g_zof (0) (by omega) (by omega))
  ·exact cc1 wA (qO 0 24 rfl) (fresh_qq _ _) (fun w u h1 => Gives.cast (g_ratof (A := 0) (k := 1) (by omega) w u (zn_zv (by decide) _ _ h1)) (qq_1 0))
  ·exact owe_new rfl wA rfl rfl (fun ρ w => alloc_rat ρ _ w)
  ·exact owe_put 2 rfl wA rfl (by kernel_rfl) rfl (oO 1 25) (stores_of strct_rat shp_r0 shp_qq) rfl
 intro _ a4 _ (S4 : Sta w 74 [(2, (qxhe90 nD nL K D L)), (4, (qxhe91)), (6, (.box 34 ((QQ (nmP D x L n 0) (nmQ D 0)) w.heap.size)))] [(1, Vv n x K)] _ _ _)
 refine wp_seq ?_
 refine wq [.val (Vv n x K), .val (iV (n : Nat)), .val (iV 0)] [.inr 0, .inr 1, .inr 2] [.inl 1, .inl 2, .inr 0] S4 ?_ ?_
 ·apply jj3
  ·exact mS 0 1
  ·exact owe_len rfl wA rfl (oO 0 26) ar_len Tryz.underlying23 rfl
  ·exact mC
 intro B5 a5 _ (S5 : Sta w 74 [(2, (qxhe90 nD nL K D L)), (4, (qxhe91)), (6, (.box 34 ((QQ (nmP D x L n 0) (nmQ D 0)) w.heap.size)))] [(27, iV (n : Nat)), (28, iV 0), (1, Vv n x K)] _ _ _)
 refine wp_block ?_
 refine wp_loop_ghost (fun (k0 : Nat) a W => (k0 ≤ n) ∧ ∃ Bq, Sta w 74 [(2, (qxhe90 nD nL K D L)), (4, (qxhe91)), (6, (qxhe92 w n D x L k0))] [(27, iV (n : Nat)), (28, iV (k0 : Nat)), (1, Vv n x K)] Bq a W) (fun (k0 : Nat) => n - k0) ?_ 0 ⟨Nat.zero_le _, B5, S5.sub [0, 1, 2] [0, 1, 2]⟩
 rintro k0 a6 _ ⟨hcond, _, S6⟩
 by_cases hlt : k0 < n
 ·obtain ⟨hd0, hz0⟩ := dN_eq g (i := k0) (by omega)
  obtain ⟨hd1, hz1⟩ := dN_eq g (i := k0 + 1) (by omega)
  have hw0 := dN_dl g (i := k0) (by omega)
  have hw1 := dN_dl g (i := k0 + 1) (by omega)
  have hb0 := dl_getD dD k0
  have hb1 := dl_getD dD (k0 + 1)
  have hSk := hS k0 (by omega)
  have hSS : (digs (nmS D x L n k0 * nmS D x L n k0).natAbs).length ≤ 4194306 := by rw [Int.natAbs_mul]; exact Nat.le_trans (digs_mul_len hSk hSk) (by omega)
  have hDD : (digs (dN D k0 * dN D (k0 + 1))).length ≤ 2097152 := Nat.le_trans (digs_mul_len (Nat.le_refl _) (Nat.le_refl _)) (by omega)
  have hDDz : (digs ((dN D k0 * dN D (k0 + 1) : Nat) : Int).natAbs).length ≤ 2097152 := hDD
  have hnq := nmQ_ne g k0 (by omega)
  have hxD : (digs ((x.getD k0 0) * (D.getD (k0 + 1) 0)).natAbs).length ≤ 2097152 := by rw [Int.natAbs_mul]; exact Nat.le_trans (digs_mul_len (dl_getD dx _) (dl_getD dD _)) (by omega)
  have hbh : (digs (sumZ (bhL x L k0 (n - 1 - k0))).natAbs).length ≤ 3145728 := by have q := sumZ_len (bhL_dl dx dL k0 (n - 1 - k0)) (n - 1 - k0); rw [List.take_of_length_le (by rw [bhL_len]; omega)] at q; omega
  refine wq [kT] [.inr 0, .inr 1, .inr 2] [.inl 0, .inr 0, .inr 1, .inr 2] S6 ?_ ?_
  ·apply jj1
   ·exact b_lss_int_t wA (oS 1 28) (oS 0 27)
  intro B7 a7 W7 (S7 : Sta w 74 [(2, (qxhe90 nD nL K D L)), (4, (qxhe91)), (6, (qxhe92 w n D x L k0))] [(29, bT), (27, iV (n : Nat)), (28, iV (k0 : Nat)), (1, Vv n x K)] _ _ _)
  refine wp_seq (wp_cond_true (S7.bool 0 29 rfl) (wp_skip (thenN (wp_seq (wp_block ?_)))))
  refine wq [.val (iV (k0 : Nat)), .val (iV (k0 : Nat))] [.inr 0, .inr 1, .inr 2] [.inl 1, .inr 1, .inr 2, .inr 3] S7 ?_ ?_
  ·apply jj2
   ·exact mS 2 28
   ·exact mO 0 30
  intro B8 a8 W8 (S8 : Sta w 74 [(2, (qxhe90 nD nL K D L)), (4, (qxhe91)), (6, (qxhe92 w n D x L k0))] [(7, iV (k0 : Nat)), (27, iV (n : Nat)), (28, iV (k0 : Nat)), (1, Vv n x K)] _ _ _)
  refine wq [.val (Vv n x K), .val (iV (k0 : Nat)), .val (AtE 2 (Zv (x.getD k0 0) K)), .val (Zv (x.getD k0 0) K), .val (Part a8 2 0), .val (Vv nD D K), .val (iV (k0 : Nat)), .val (iV ((k0 + 1 : Nat) : Int)), .val (AtE 2 (Zv (D.getD (k0 + 1) 0) K)), .val (Zv (D.getD (k0 + 1) 0) K), .val ((ZN ((x.getD k0 0) * (D.getD (k0 + 1) 0))) w.heap.size), .val (SF [(Vv nD D K), (Mv nL L K)]), .val (Vv n x K), .val (iV (k0 : Nat)), .val ((ZN (sumZ (bhL x L k0 (n - 1 - k0)))) w.heap.size), .val ((ZN (nmS D x L n k0)) w.heap.size), .new (.box 32 zI), .put (.inr 16) (.box 32 ((ZN (nmS D x L n k0)) w.heap.size))] [.inr 0, .inr 1, .inr 2, .inl 16] [.inr 0, .inr 1, .inr 2, .inr 3] S8 ?_ ?_
  ·repeat' refine And.intro ?_ ?_
   ·trivial
   ·exact mS 3 1
   ·exact mS 0 7
   ·exact owe_aindex rfl wA rfl idx_ints (oO 0 31) (oO 1 32) (zv_at (by omega)) rfl
   ·exact owe_aload rfl wA rfl ldr_int (by decide) (cel_shp (by decide) shp_zv) (oO 2 33) rfl
   ·exact owe_part rfl wA rfl (k := 0) rfl (by kernel_rfl) rfl (fun ρ w b h => part_gso0 ρ _ _ w b 0 h)
   ·exact owe_pload rfl wA rfl (oO 4 35) (k := 0) rfl (by kernel_rfl) rfl (fun ρ w b u h1 h2 h3 => ploadS rfl load1_vec ρ _ _ w b u h1 h2 h3)
   ·exact mS 0 7
   ·exact b_add_int wA (oO 6 37) (opnd_const _)
   ·exact owe_aindex rfl wA rfl idx_ints (oO 5 36) (oO 7 38) (zv_at (by omega)) rfl
   ·exact owe_aload rfl wA rfl ldr_int (by decide) (cel_shp (by decide) shp_zv) (oO 8 39) rfl
   ·exact cc2 wA (qO 3 34 rfl) (qO 9 40 rfl) (fresh_zn _) (fun w u v h1 h2 => g_zmul (by omega) w u v ((fun _ _ h => h) _ _ h1) ((fun _ _ h => h) _ _ h2))
   ·exact lod 0 wA (loads_of strct_gso shp_sf2)
   ·exact mS 3 1
   ·exact mS 0 7
   ·exact ch3 wA (qO 11 42 rfl) (qO 12 43 rfl) (qO 13 44 rfl) (fresh_zn _) (fun w u v t h hv ht => by obtain rfl : t = _ := ht.now; exact behind_w w u v nD nL n K D x L h hv hD hL hn (by omega) lD lL lx k0 en (by omega) (fun j hj => g.row j (by omega)))
   ·exact cc2 wA (qO 10 41 rfl) (qO 14 45 rfl) (fresh_zn _) (fun w u0 u1 h0 h1 => Gives.cast ((fun w u v h1 h2 => g_zadd (by omega) (by omega) w u v ((zn_zv hxD) _ _ h1) ((zn_zv hbh) _ _ h2)) w u0 u1 h0 h1) (by rfl))
   ·exact owe_new rfl wA rfl rfl (fun ρ w => alloc_int ρ _ w)
   ·exact owe_put 16 rfl wA rfl (by kernel_rfl) rfl (oO 15 46) (stores_of strct_int shp_z0 shp_zn) rfl
  intro _ a9 _ (S9 : Sta w 74 [(2, (qxhe90 nD nL K D L)), (4, (qxhe91)), (6, (qxhe92 w n D x L k0)), (8, (.box 32 ((ZN (nmS D x L n k0)) w.heap.size)))] [(7, iV (k0 : Nat)), (27, iV (n : Nat)), (28, iV (k0 : Nat)), (1, Vv n x K)] _ _ _)
  refine wq [.val ((ZN (nmS D x L n k0)) w.heap.size), .val ((ZN (nmS D x L n k0)) w.heap.size), .val ((ZN ((nmS D x L n k0) * (nmS D x L n k0))) w.heap.size), .val (Part a9 2 0), .val (Vv nD D K), .val (iV (k0 : Nat)), .val (AtE 2 (Zv (D.getD k0 0) K)), .val (Zv (D.getD k0 0) K), .val (Part a9 2 0), .val (Vv nD D K), .val (iV (k0 : Nat)), .val (iV ((k0 + 1 : Nat) : Int)), .val (AtE 2 (Zv (D.getD (k0 + 1) 0) K)), .val (Zv (D.getD (k0 + 1) 0) K), .val ((ZN (((dN D k0 * dN D (k0 + 1) : Nat) : Int))) w.heap.size), .val ((TWO (QQ (nmS D x L n k0 * nmS D x L n k0) (dN D k0 * dN D (k0 + 1))) (IS (.int .i64 0))) w.heap.size), .val ((TWO (QQ (nmS D x L n k0 * nmS D x L n k0) (dN D k0 * dN D (k0 + 1))) (IS (.int .i64 0))) w.heap.size), .val ((QQ (nmS D x L n k0 * nmS D x L n k0) (dN D k0 * dN D (k0 + 1))) w.heap.size), .val (iV 0), .new (qxhe91), .put (.inr 19) (.box 34 ((QQ (nmS D x L n k0 * nmS D x L n k0) (dN D k0 * dN D (k0 + 1))) w.heap.size)), .val (iV 0)] [.inr 0, .inr 1, .inr 2, .inl 19] [.inr 1, .inr 2, .inr 3] S9 ?_ ?_
  ·repeat' refine And.intro ?_ ?_
   ·trivial
   ·exact lod 3 wA (loads_of strct_int shp_zn)
   ·exact lod 3 wA (loads_of strct_int shp_zn)
   ·exact cc2 wA (qO 0 48 rfl) (qO 1 49 rfl) (fresh_zn _) (fun w u v h1 h2 => g_zmul (by omega) w u v ((zn_zv hSk) _ _ h1) ((zn_zv hSk) _ _ h2))
   ·exact owe_part rfl wA rfl (k := 0) rfl (by kernel_rfl) rfl (fun ρ w b h => part_gso0 ρ _ _ w b 0 h)
   ·exact owe_pload rfl wA rfl (oO 3 51) (k := 0) rfl (by kernel_rfl) rfl (fun ρ w b u h1 h2 h3 => ploadS rfl load1_vec ρ _ _ w b u h1 h2 h3)
   ·exact mS 0 7
   ·exact owe_aindex rfl wA rfl idx_ints (oO 4 52) (oO 5 53) (zv_at (by omega)) rfl
   ·exact owe_aload rfl wA rfl ldr_int (by decide) (cel_shp (by decide) shp_zv) (oO 6 54) rfl
   ·exact owe_part rfl wA rfl (k := 0) rfl (by kernel_rfl) rfl (fun ρ w b h => part_gso0 ρ _ _ w b 0 h)
   ·exact owe_pload rfl wA rfl (oO 8 56) (k := 0) rfl (by kernel_rfl) rfl (fun ρ w b u h1 h2 h3 => ploadS rfl load1_vec ρ _ _ w b u h1 h2 h3)
   ·exact mS 0 7
   ·exact b_add_int wA (oO 10 58) (opnd_const _)
   ·exact owe_aindex rfl wA rfl idx_ints (oO 9 57) (oO 11 59) (zv_at (by omega)) rfl
   ·exact owe_aload rfl wA rfl ldr_int (by decide) (cel_shp (by decide) shp_zv) (oO 12 60) rfl
   ·exact cc2 wA (qO 7 55 rfl) (qO 13 61 rfl) (fresh_zn _) (fun w u0 u1 h0 h1 => Gives.cast ((fun w u v h1 h2 => g_zmul (by omega) w u v ((fun _ _ h => h) _ _ h1) ((fun _ _ h => h) _ _ h2)) w u0 u1 h0 h1) (by rw [hd0, hd1, ← Int.natCast_mul]))
   ·exact cc2 wA (qO 2 50 rfl) (qO 14 62 rfl) (fresh_two (fresh_qq _ _) (fresh_is _)) (fun w u v h1 h2 => g_ratmake (k := 4194306) (k' := 2097152) (Nat.mul_ne_zero hz0 hz1) (by omega) (by omega) w u v ((zn_zv hSS) _ _ h1) ((zn_zv hDDz) _ _ h2))
   ·exact mO 15 63
   ·exact e20 wA (oO 16 47)
   ·exact e21 wA (oO 16 47)
   ·exact owe_new rfl wA rfl rfl (fun ρ w => alloc_rat ρ _ w)
   ·exact owe_put 19 rfl wA rfl (by kernel_rfl) rfl (oO 17 64) (stores_of strct_rat shp_r0 shp_qq) rfl
   ·exact mO 18 65
  intro _ a10 _ (S10 : Sta w 74 [(2, (qxhe90 nD nL K D L)), (4, (qxhe91)), (6, (qxhe92 w n D x L k0)), (9, (.box 34 ((QQ (nmS D x L n k0 * nmS D x L n k0) (dN D k0 * dN D (k0 + 1))) w.heap.size)))] [(27, iV (n : Nat)), (28, iV (k0 : Nat)), (1, Vv n x K)] _ _ _)
  refine wr [.val ((QQ (nmP D x L n k0) (nmQ D k0)) w.heap.size), .val ((QQ (nmS D x L n k0 * nmS D x L n k0) (dN D k0 * dN D (k0 + 1))) w.heap.size), .val ((TWO (QQ (nmP D x L n (k0 + 1)) (nmQ D (k0 + 1))) (IS (.int .i64 0))) w.heap.size), .val ((TWO (QQ (nmP D x L n (k0 + 1)) (nmQ D (k0 + 1))) (IS (.int .i64 0))) w.heap.size), .val ((QQ (nmP D x L n (k0 + 1)) (nmQ D (k0 + 1))) w.heap.size), .val (iV 0), .put (.inl 6) (.box 34 ((QQ (nmP D x L n (k0 + 1)) (nmQ D (k0 + 1))) w.heap.size))] [.inr 0, .inr 1, .inr 2] [.inr 0, .inr 1, .inr 2] S10 ?_ ?_
  ·repeat' refine And.intro ?_ ?_
   ·trivial
   ·exact lod 2 wA (loads_of strct_rat shp_qq)
   ·exact lod 3 wA (loads_of strct_rat shp_qq)
   ·exact cc2 wA (qO 0 67 rfl) (qO 1 68 rfl) (fresh_two (fresh_qq _ _) (fresh_is _)) (fun w u v h1 h2 => q_add (k := 8388608) (k' := 8388608) hnq (Nat.mul_ne_zero hz0 hz1) (hPd k0 (by omega)) (Nat.le_trans (hQd k0 (by omega)) (by omega)) (by omega) (by omega) (Nat.le_refl _) (Nat.le_refl _) w u v h1 h2)
   ·exact mO 2 69
   ·exact e20 wA (oO 3 66)
   ·exact e21 wA (oO 3 66)
   ·exact owe_set rfl wA rfl (k := 2) rfl (by kernel_rfl) (oO 4 70) (stores_of strct_rat shp_qq shp_qq) rfl
  intro _ a11 _ (S11 : Sta w 74 [(2, (qxhe90 nD nL K D L)), (4, (qxhe91)), (6, (.box 34 ((QQ (nmP D x L n (k0 + 1)) (nmQ D (k0 + 1))) w.heap.size)))] [(27, iV (n : Nat)), (28, iV (k0 : Nat)), (1, Vv n x K)] _ _ _)
  refine inBlkN (thenN ?_)
  refine wr [.val (iV (k0 + 1 : Nat)), .val (iV (k0 + 1 : Nat))] [.inr 0, .inr 1, .inr 2] [.inl 1, .inr 0, .inr 2] S11 ?_ ?_
  ·apply jj2
   ·exact b_add_int wA (oS 1 28) (opnd_const _)
   ·exact mO 0 72
  intro B12 a12 _ (S12 : Sta w 74 [(2, (qxhe90 nD nL K D L)), (4, (qxhe91)), (6, (.box 34 ((QQ (nmP D x L n (k0 + 1)) (nmQ D (k0 + 1))) w.heap.size)))] [(28, iV (k0 + 1 : Nat)), (27, iV (n : Nat)), (1, Vv n x K)] _ _ _)
  refine thenN ?_
  exact ⟨k0 + 1, ⟨by omega, B12, S12.sub [0, 1, 2] [1, 0, 2]⟩, by omega⟩
 ·have ek : k0 = n := by omega
  rw [ek] at S6
  refine wq [kF] [.inr 0, .inr 1, .inr 2] [.inl 0, .inr 0, .inr 1, .inr 2] S6 ?_ ?_
  ·apply jj1
   ·exact b_lss_int_f wA (oS 1 28) (oS 0 27)
  intro B7 a7 W7 (S7 : Sta w 74 [(2, (qxhe90 nD nL K D L)), (4, (qxhe91)), (6, (.box 34 ((QQ (nmP D x L n n) (nmQ D n)) w.heap.size)))] [(29, bF), (27, iV (n : Nat)), (28, iV (n : Nat)), (1, Vv n x K)] _ _ _)
  refine wp_seq (wp_cond_false (S7.bool 0 29 rfl) (wp_exit (thenX (thenX (inBlkE (thenN ?_))))))
  refine wq [.val ((QQ (nmP D x L n n) (nmQ D n)) w.heap.size), .put (.inl 4) (.box 34 ((QQ (nmP D x L n n) (nmQ D n)) w.heap.size)), .val (iV 0)] [.inr 0, .inr 1, .inr 2] [.inl 2, .inr 1, .inr 2, .inr 3] S7 ?_ ?_
  ·apply jj3
   ·exact lod 2 wA (loads_of strct_rat shp_qq)
   ·exact owe_set rfl wA rfl (k := 1) rfl (by kernel_rfl) (oO 0 73) (stores_of strct_rat shp_r0 shp_qq) rfl
   ·exact mC
  intro B8 a8 W8 (S8 : Sta w 74 [(2, (qxhe90 nD nL K D L)), (4, (.box 34 ((QQ (nmP D x L n n) (nmQ D n)) w.heap.size))), (6, (.box 34 ((QQ (nmP D x L n n) (nmQ D n)) w.heap.size)))] [(5, iV 0), (27, iV (n : Nat)), (28, iV (n : Nat)), (1, Vv n x K)] _ _ _)
  refine wp_ret ?_
  exact end_two S8 rfl (res_cell S8 1 4 rfl strct_rat shp_qq) (res_tmp S8 0 5 rfl)

end Go.Proofs.YtbgelajoomneiaaGreat
