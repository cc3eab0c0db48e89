import Derived.Test.YthmccopeigpelaaGreatGlA
import Derived.Test.YthmccopeigpelaaGreatRsK
import Derived.Test.YthmccopeigpelaaGreatRRMul
/-
 gso.mayBe and what the document says of it.
-/
namespace Go.Proofs.YthmccopeigpelaaGreat
open Go Go.RowKit Nt
set_option linter.unusedSimpArgs false
set_option linter.unusedVariables false
set_option maxRecDepth 20000


theorem first_off (p : Nat → Bool) : ∀ n, (∀ j, j < n → p j = true) ∨ ∃ i, i < n ∧ p i = false ∧ ∀ j, j < i → p j = true
 | 0 => Or.inl (fun j h => by omega)
 | n + 1 => by
  rcases first_off p n with h | ⟨i, h1, h2, h3⟩
  ·cases e : p n with
   | true => exact Or.inl (fun j hj => by rcases Nat.lt_or_ge j n with h' | h'; exact h j h'; rw [show j = n by omega]; exact e)
   | false => exact Or.inr ⟨n, by omega, e, h⟩
  ·exact Or.inr ⟨i, by omega, h2, h3⟩
/-- May these be data? -/
structure Good (D : List Int) (L : List (List Int)) : Prop where
 some : L.length ≠ 0
 len : D.length = L.length + 1
 one : D.getD 0 0 = 1
 row : ∀ i, i < L.length → (L.getD i []).length = i
 pos : ∀ i, i < L.length → 0 < D.getD (i + 1) 0
/-- How it fails. -/
inductive Bad (D : List Int) (L : List (List Int)) : Prop
 | none : L.length = 0 → Bad D L
 | len : L.length ≠ 0 → D.length ≠ L.length + 1 → Bad D L
 | one : L.length ≠ 0 → D.length = L.length + 1 → D.getD 0 0 ≠ 1 → Bad D L
 | row (i0 : Nat) : L.length ≠ 0 → D.length = L.length + 1 → D.getD 0 0 = 1 → i0 < L.length → (∀ j, j < i0 → (L.getD j []).length = j ∧ 0 < D.getD (j + 1) 0) → ((L.getD i0 []).length ≠ i0 ∨ ((L.getD i0 []).length = i0 ∧ D.getD (i0 + 1) 0 ≤ 0)) → Bad D L
theorem Good.d {D : List Int} {L : List (List Int)} (h : Good D L) (i : Nat) (hi : i < D.length) : 0 < D.getD i 0 := by
 cases i with
 | zero => rw [h.one]; decide
 | succ i => exact h.pos i (by have := h.len; omega)
theorem sgn_pos {z : Int} (h : 0 < z) : z.sign = 1 := Int.sign_eq_one_of_pos h
theorem sgn0 {z : Int} (h : z = 0) : z.sign = 0 := by rw [h]; rfl
abbrev q6u3q0 (nD : Nat) (nL : Nat) (K : Nat) (D : List Int) (L : List (List Int)) : Rk := .box 29 (SF [(Vv nD D K), (Mv nL L K)])
set_option maxHeartbeats 2000000 in
theorem may_t (w : World) (u : Value) (nD nL K : Nat) (D : List Int) (L : List (List Int)) (h : Hs w (SF [Vv nD D K, Mv nL L K]) u) (hD : nD ≤ 1048576) (hL : nL ≤ 1048576) (hK : K ≤ 1048576) (lD : D.length = nD) (lL : L.length = nL) (g : Good D L) :
  Calls Tryz.prog 25 #[u] w (Gives (IS (.bool true)) w) := by
 have hs := g.some
 have hl := g.len
 have h1 := g.one
 have hone : ((D.getD 0 0) - (1)).sign = 0 := sgn0 (by omega)
 refine calls_sta (sl := [(0, (SF [(Vv nD D K), (Mv nL L K)]))]) Tryz.func25 rfl Tryz.ntmps25 (by simp) (args_cons rfl (h) args_nil) ?_
 intro a0 S0
 refine wq [.new (q6u3q0 nD nL K D L), kF] [.inl 0] [] S0 ?_ ?_
 ·apply jj2
  ·exact owe_box rfl wA rfl (oS 0 0) rfl (fun ρ w h => box_gso shp_sf2 ρ _ _ w h)
  ·exact mC
 intro _ a1 _ (S1 : Sta w 51 [(1, (q6u3q0 nD nL K D L))] [] _ _ _)
 refine wp_seq ?_
 refine wq [.val (Part a1 1 1), .val (Mv nL L K), .val (iV (nL : Nat)), kF, kF, .val (Part a1 1 0), .val (Vv nD D K), .val (iV (nD : Nat)), .val (Part a1 1 1), .val (Mv nL L K), .val (iV (nL : Nat)), .val (iV ((nL + 1 : Nat) : Int)), kF, kF, kF, .val (Part a1 1 0), .val (Vv nD D K), .val (AtE 2 (Zv (D.getD 0 0) K)), .val (Zv (D.getD 0 0) K), .val ((ZN (1)) w.heap.size), .val (iV (((D.getD 0 0) - 1).sign)), kF, kF] [.inr 0] [.inl 22] S1 ?_ ?_
 ·repeat' refine And.intro ?_ ?_
  ·trivial
  ·exact owe_part rfl wA rfl (k := 0) rfl (by kernel_rfl) rfl (fun ρ w b h => part_gso1 ρ _ _ w b 0 h)
  ·exact owe_pload rfl wA rfl (oO 0 5) (k := 0) rfl (by kernel_rfl) rfl (fun ρ w b u h1 h2 h3 => ploadS rfl load1_mat ρ _ _ w b u h1 h2 h3)
  ·exact owe_len rfl wA rfl (oO 1 6) ar_len Tryz.underlying22 rfl
  ·exact b_eql_int_f wA (oO 2 7) (opnd_const _)
  ·exact mO 3 8
  ·exact owe_part rfl (wI 4 9) rfl (k := 0) rfl (by kernel_rfl) rfl (fun ρ w b h => part_gso0 ρ _ _ w b 0 h)
  ·exact owe_pload rfl (wI 4 9) rfl (oO 5 10) (k := 0) rfl (by kernel_rfl) rfl (fun ρ w b u h1 h2 h3 => ploadS rfl load1_vec ρ _ _ w b u h1 h2 h3)
  ·exact owe_len rfl (wI 4 9) rfl (oO 6 11) ar_len Tryz.underlying27 rfl
  ·exact owe_part rfl (wI 4 9) rfl (k := 0) rfl (by kernel_rfl) rfl (fun ρ w b h => part_gso1 ρ _ _ w b 0 h)
  ·exact owe_pload rfl (wI 4 9) rfl (oO 8 13) (k := 0) rfl (by kernel_rfl) rfl (fun ρ w b u h1 h2 h3 => ploadS rfl load1_mat ρ _ _ w b u h1 h2 h3)
  ·exact owe_len rfl (wI 4 9) rfl (oO 9 14) ar_len Tryz.underlying22 rfl
  ·exact b_add_int (wI 4 9) (oO 10 15) (opnd_const _)
  ·exact b_neq_int_f (wI 4 9) (oO 7 12) (oO 11 16)
  ·exact pF wA (oO 4 9) (oO 12 17)
  ·exact mO 13 18
  ·exact owe_part rfl (wI 14 19) rfl (k := 0) rfl (by kernel_rfl) rfl (fun ρ w b h => part_gso0 ρ _ _ w b 0 h)
  ·exact owe_pload rfl (wI 14 19) rfl (oO 15 20) (k := 0) rfl (by kernel_rfl) rfl (fun ρ w b u h1 h2 h3 => ploadS rfl load1_vec ρ _ _ w b u h1 h2 h3)
  ·exact owe_aindex rfl (wI 14 19) rfl idx_ints (oO 16 21) (opnd_const _) (zv_at (k := 0) (by omega)) rfl
  ·exact owe_aload rfl (wI 14 19) rfl ldr_int (by decide) (cel_shp (by decide) shp_zv) (oO 17 22) rfl
  ·exact cc1 (wI 14 19) (opnd_const _) (fresh_zn _) (g_zof (1) (by omega) (by omega))
  ·exact cc2 (wI 14 19) (qO 18 23 rfl) (qO 19 24 rfl) (fresh_is _) (fun w u v h1 h2 => h_zcmp (by omega) (by omega) w u v ((fun _ _ h => h) _ _ h1) ((zn_zv one_dl) _ _ h2))
  ·exact b_neq_int_f (wI 14 19) (oO 20 25) (opnd_const _) (h := hone)
  ·exact pF wA (oO 14 19) (oO 21 26)
 intro _ a2 _ (S2 : Sta w 51 [(1, (q6u3q0 nD nL K D L))] [(27, bF)] _ _ _)
 refine wp_cond_false (S2.bool 0 27 rfl) (wp_skip (thenN (wp_seq ?_)))
 refine wq [.val (Part a2 1 1), .val (Mv nL L K), .val (iV (nL : Nat)), .val (iV 0)] [.inr 0] [.inl 1, .inl 2, .inl 3] S2 ?_ ?_
 ·apply jj4
  ·exact owe_part rfl wA rfl (k := 0) rfl (by kernel_rfl) rfl (fun ρ w b h => part_gso1 ρ _ _ w b 0 h)
  ·exact owe_pload rfl wA rfl (oO 0 28) (k := 0) rfl (by kernel_rfl) rfl (fun ρ w b u h1 h2 h3 => ploadS rfl load1_mat ρ _ _ w b u h1 h2 h3)
  ·exact owe_len rfl wA rfl (oO 1 29) ar_len Tryz.underlying22 rfl
  ·exact mC
 intro B3 a3 _ (S3 : Sta w 51 [(1, (q6u3q0 nD nL K D L))] [(29, Mv nL L K), (30, iV (nL : Nat)), (31, iV 0)] _ _ _)
 refine wp_block ?_
 refine wp_loop_ghost (fun (k0 : Nat) a W => (k0 ≤ nL) ∧ ∃ Bq, Sta w 51 [(1, (q6u3q0 nD nL K D L))] [(29, Mv nL L K), (30, iV (nL : Nat)), (31, iV (k0 : Nat))] Bq a W) (fun (k0 : Nat) => nL - k0) ?_ 0 ⟨Nat.zero_le _, B3, S3.sub [0] [0, 1, 2]⟩
 rintro k0 a4 _ ⟨hcond, _, S4⟩
 by_cases hlt : k0 < nL
 ·have hr := g.row k0 (by omega)
  have hp := sgn_pos (g.pos k0 (by omega))
  refine wq [kT] [.inr 0] [.inl 0, .inr 0, .inr 1, .inr 2] S4 ?_ ?_
  ·apply jj1
   ·exact b_lss_int_t wA (oS 2 31) (oS 1 30)
  intro B5 a5 W5 (S5 : Sta w 51 [(1, (q6u3q0 nD nL K D L))] [(32, bT), (29, Mv nL L K), (30, iV (nL : Nat)), (31, iV (k0 : Nat))] _ _ _)
  refine wp_seq (wp_cond_true (S5.bool 0 32 rfl) (wp_skip (thenN (wp_seq (wp_block ?_)))))
  refine wq [.val (iV (k0 : Nat)), .val (AtE 1 (Vv ((L.getD k0 []).length) (L.getD k0 []) K)), .val (Vv ((L.getD k0 []).length) (L.getD k0 []) K), .val (iV (k0 : Nat)), .val (Vv ((L.getD k0 []).length) (L.getD k0 []) K)] [.inr 0] [.inl 3, .inl 4, .inr 1, .inr 2, .inr 3] S5 ?_ ?_
  ·apply jj5
   ·exact mS 3 31
   ·exact owe_aindex rfl wA rfl idx_rows (oS 1 29) (oS 3 31) (vv_at (by omega)) rfl
   ·exact owe_aload rfl wA rfl ldr_row1 (by decide) cel_vv (oO 1 34) rfl
   ·exact mO 0 33
   ·exact mO 2 35
  intro B6 a6 W6 (S6 : Sta w 51 [(1, (q6u3q0 nD nL K D L))] [(3, iV (k0 : Nat)), (4, Vv ((L.getD k0 []).length) (L.getD k0 []) K), (29, Mv nL L K), (30, iV (nL : Nat)), (31, iV (k0 : Nat))] _ _ _)
  refine wq [.val (Vv ((L.getD k0 []).length) (L.getD k0 []) K), .val (iV ((L.getD k0 []).length : Nat)), .val (iV (k0 : Nat)), kF, kF, .val (Part a6 1 0), .val (Vv nD D K), .val (iV (k0 : Nat)), .val (iV ((k0 + 1 : Nat) : Int)), .val (AtE 2 (Zv (D.getD (k0 + 1) 0) K)), .val (Zv (D.getD (k0 + 1) 0) K), .val (iV ((D.getD (k0 + 1) 0).sign)), kF, kF] [.inr 0] [.inl 13, .inr 2, .inr 3, .inr 4] S6 ?_ ?_
  ·repeat' refine And.intro ?_ ?_
   ·trivial
   ·exact mS 1 4
   ·exact owe_len rfl wA rfl (oO 0 36) ar_len Tryz.underlying27 rfl
   ·exact mS 0 3
   ·exact b_neq_int_f wA (oO 1 37) (oO 2 38)
   ·exact mO 3 39
   ·exact owe_part rfl (wI 4 40) rfl (k := 0) rfl (by kernel_rfl) rfl (fun ρ w b h => part_gso0 ρ _ _ w b 0 h)
   ·exact owe_pload rfl (wI 4 40) rfl (oO 5 41) (k := 0) rfl (by kernel_rfl) rfl (fun ρ w b u h1 h2 h3 => ploadS rfl load1_vec ρ _ _ w b u h1 h2 h3)
   ·exact mW (wI 4 40) (oS 0 3)
   ·exact b_add_int (wI 4 40) (oO 7 43) (opnd_const _)
   ·exact owe_aindex rfl (wI 4 40) rfl idx_ints (oO 6 42) (oO 8 44) (zv_at (by omega)) rfl
   ·exact owe_aload rfl (wI 4 40) rfl ldr_int (by decide) (cel_shp (by decide) shp_zv) (oO 9 45) rfl
   ·exact cc1 (wI 4 40) (qO 10 46 rfl) (fresh_is _) (fun w u h1 => h_zsign (by omega) w u ((fun _ _ h => h) _ _ h1))
   ·exact b_leq_int_f (wI 4 40) (oO 11 47) (opnd_const _)
   ·exact pF wA (oO 4 40) (oO 12 48)
  intro _ a7 _ (S7 : Sta w 51 [(1, (q6u3q0 nD nL K D L))] [(49, bF), (29, Mv nL L K), (30, iV (nL : Nat)), (31, iV (k0 : Nat))] _ _ _)
  refine wp_cond_false (S7.bool 0 49 rfl) (wp_skip (inBlkN (thenN ?_)))
  refine wr [.val (iV (k0 + 1 : Nat)), .val (iV (k0 + 1 : Nat))] [.inr 0] [.inl 1, .inr 1, .inr 2] S7 ?_ ?_
  ·apply jj2
   ·exact b_add_int wA (oS 3 31) (opnd_const _)
   ·exact mO 0 50
  intro B8 a8 _ (S8 : Sta w 51 [(1, (q6u3q0 nD nL K D L))] [(31, iV (k0 + 1 : Nat)), (29, Mv nL L K), (30, iV (nL : Nat))] _ _ _)
  refine thenN ?_
  exact ⟨k0 + 1, ⟨by omega, B8, S8.sub [0] [1, 2, 0]⟩, by omega⟩
 ·skip
  refine wq [kF] [.inr 0] [.inl 0, .inr 0, .inr 1, .inr 2] S4 ?_ ?_
  ·apply jj1
   ·exact b_lss_int_f wA (oS 2 31) (oS 1 30)
  intro B5 a5 W5 (S5 : Sta w 51 [(1, (q6u3q0 nD nL K D L))] [(32, bF), (29, Mv nL L K), (30, iV (nL : Nat)), (31, iV (k0 : Nat))] _ _ _)
  refine wp_seq (wp_cond_false (S5.bool 0 32 rfl) (wp_exit (thenX (thenX (inBlkE (thenN ?_))))))
  refine wq [kT] [.inr 0] [.inl 0, .inr 1, .inr 2, .inr 3] S5 ?_ ?_
  ·apply jj1
   ·exact mC
  intro B6 a6 W6 (S6 : Sta w 51 [(1, (q6u3q0 nD nL K D L))] [(2, bT), (29, Mv nL L K), (30, iV (nL : Nat)), (31, iV (k0 : Nat))] _ _ _)
  refine wp_ret ?_
  exact end_one S6 rfl (res_tmp S6 0 2 rfl)

/-- How the document finds that it fails. -/
inductive RBad (D : List Int) (L : List (List Int)) : Prop
 | none : L.length = 0 → RBad D L
 | len : L.length ≠ 0 → D.length ≠ L.length + 1 → RBad D L
 | one : L.length ≠ 0 → D.length = L.length + 1 → D.getD 0 0 ≠ 1 → RBad D L
 | pos (i0 : Nat) : L.length ≠ 0 → D.length = L.length + 1 → D.getD 0 0 = 1 → i0 < D.length → (∀ j, j < i0 → 0 < D.getD j 0) → D.getD i0 0 ≤ 0 → RBad D L
 | row (i0 : Nat) : L.length ≠ 0 → D.length = L.length + 1 → D.getD 0 0 = 1 → (∀ j, j < D.length → 0 < D.getD j 0) → i0 < L.length → (∀ j, j < i0 → (L.getD j []).length = j) → (L.getD i0 []).length ≠ i0 → RBad D L
theorem Bad.r {D : List Int} {L : List (List Int)} (h : Bad D L) : RBad D L := by
 cases h with
 | none h => exact .none h
 | len h1 h2 => exact .len h1 h2
 | one h1 h2 h3 => exact .one h1 h2 h3
 | row i0 h1 h2 h3 h4 h5 h6 =>
  rcases first_off (fun j => decide (0 < D.getD j 0)) D.length with h | ⟨i, hi, h7, h8⟩
  ·rcases first_off (fun j => decide ((L.getD j []).length = j)) L.length with g | ⟨j, hj, g1, g2⟩
   ·rcases h6 with h6 | ⟨_, h6⟩
    ·exact absurd (of_decide_eq_true (g i0 h4)) h6
    ·have := of_decide_eq_true (h (i0 + 1) (by omega)); omega
   ·exact .row j h1 h2 h3 (fun k hk => of_decide_eq_true (h k hk)) hj (fun k hk => of_decide_eq_true (g2 k hk)) (of_decide_eq_false g1)
  ·exact .pos i h1 h2 h3 hi (fun j hj => of_decide_eq_true (h8 j hj)) (by have := of_decide_eq_false h7; omega)

end Go.Proofs.YthmccopeigpelaaGreat

/-
 gso.Mu, gso.Star, what the document says of them.
-/
namespace Go.Proofs.YthmccopeigpelaaGreat
open Go Go.RowKit Nt
set_option linter.unusedSimpArgs false
set_option linter.unusedVariables false
set_option maxRecDepth 20000


abbrev qrlf90 (nD : Nat) (nL : Nat) (K : Nat) (D : List Int) (L : List (List Int)) : Rk := .box 29 (SF [(Vv nD D K), (Mv nL L K)])
set_option maxHeartbeats 400000 in
theorem mu_e (w : World) (u : Value) (nD nL K : Nat) (D : List Int) (L : List (List Int)) (h : Hs w (SF [Vv nD D K, Mv nL L K]) u) (hD : nD ≤ 1048576) (hL : nL ≤ 1048576) (hK : K ≤ 1048576) (lD : D.length = nD) (lL : L.length = nL) (i : Nat) (g : Good D L) (hi : i < nL) :
  Calls Tryz.prog 15 #[u, .int .i64 (i : Nat), .int .i64 (i : Nat)] w (Gives (TWO (RN 1 1) (IS (.int .i64 0))) w) := by
 refine calls_sta (sl := [(0, (SF [(Vv nD D K), (Mv nL L K)])), (1, (iV (i : Nat))), (2, (iV (i : Nat)))]) Tryz.func15 rfl Tryz.ntmps15 (by simp) (args_cons rfl (h) (args_cons rfl (is_has _) (args_cons rfl (is_has _) args_nil))) ?_
 intro a0 S0
 refine wq [.new (qrlf90 nD nL K D L), .new (.box 35 zR), .val (iV 0)] [.inl 0, .inl 1] [.inr 1, .inr 2] S0 ?_ ?_
 ·apply jj3
  ·exact owe_box rfl wA rfl (oS 0 0) rfl (fun ρ w h => box_gso shp_sf2 ρ _ _ w h)
  ·exact owe_new rfl wA rfl rfl (fun ρ w => alloc_rat ρ _ w)
  ·exact mC
 intro _ a1 _ (S1 : Sta w 52 [(3, (qrlf90 nD nL K D L)), (6, (.box 35 zR))] [(1, iV (i : Nat)), (2, iV (i : Nat))] _ _ _)
 refine wp_seq (wp_block ?_)
 refine wq [.val (SF [(Vv nD D K), (Mv nL L K)]), kT, kF, kF] [.inr 0, .inr 1] [.inl 3, .inr 0, .inr 1] S1 ?_ ?_
 ·apply jj4
  ·exact lod 0 wA (loads_of strct_gso shp_sf2)
  ·exact ch1 wA (qO 0 9 rfl) (fresh_is _) (fun w u h => may_t w u nD nL K D L h hD hL hK lD lL g)
  ·exact b_not wA (oO 1 10)
  ·exact mO 2 11
 intro _ a2 _ (S2 : Sta w 52 [(3, (qrlf90 nD nL K D L)), (6, (.box 35 zR))] [(8, bF), (1, iV (i : Nat)), (2, iV (i : Nat))] _ _ _)
 refine wp_cond_false (S2.bool 0 8 rfl) ?_
 refine wq [.val (iV (i : Nat)), kF, kF, .val (iV (i : Nat)), .val (iV (i : Nat)), kF, kF, kF, .val (iV (i : Nat)), .val (Part a2 3 1), .val (Mv nL L K), .val (iV (nL : Nat)), kF, kF, kF] [.inr 0, .inr 1] [.inl 14, .inr 1, .inr 2] S2 ?_ ?_
 ·repeat' refine And.intro ?_ ?_
  ·trivial
  ·exact mS 2 2
  ·exact b_lss_int_f wA (oO 0 14) (opnd_const _)
  ·exact mO 1 15
  ·exact mW (wI 2 16) (oS 2 2)
  ·exact mW (wI 2 16) (oS 1 1)
  ·exact b_gtr_int_f (wI 2 16) (oO 3 17) (oO 4 18)
  ·exact pF wA (oO 2 16) (oO 5 19)
  ·exact mO 6 20
  ·exact mW (wI 7 21) (oS 1 1)
  ·exact owe_part rfl (wI 7 21) rfl (k := 0) rfl (by kernel_rfl) rfl (fun ρ w b h => part_gso1 ρ _ _ w b 0 h)
  ·exact owe_pload rfl (wI 7 21) rfl (oO 9 23) (k := 0) rfl (by kernel_rfl) rfl (fun ρ w b u h1 h2 h3 => ploadS rfl load1_mat ρ _ _ w b u h1 h2 h3)
  ·exact owe_len rfl (wI 7 21) rfl (oO 10 24) ar_len Tryz.underlying22 rfl
  ·exact b_geq_int_f (wI 7 21) (oO 8 22) (oO 11 25)
  ·exact pF wA (oO 7 21) (oO 12 26)
  ·exact mO 13 27
 intro _ a3 _ (S3 : Sta w 52 [(3, (qrlf90 nD nL K D L)), (6, (.box 35 zR))] [(13, bF), (1, iV (i : Nat)), (2, iV (i : Nat))] _ _ _)
 refine wp_cond_false (S3.bool 0 13 rfl) ?_
 refine wq [.val (iV (i : Nat)), .val (iV (i : Nat)), kT, kT] [.inr 0, .inr 1] [.inl 3, .inr 1, .inr 2] S3 ?_ ?_
 ·apply jj4
  ·exact mS 2 2
  ·exact mS 1 1
  ·exact b_eql_int_t wA (oO 0 30) (oO 1 31)
  ·exact mO 2 32
 intro _ a4 _ (S4 : Sta w 52 [(3, (qrlf90 nD nL K D L)), (6, (.box 35 zR))] [(29, bT), (1, iV (i : Nat)), (2, iV (i : Nat))] _ _ _)
 refine wp_cond_true (S4.bool 0 29 rfl) ?_
 refine wq [.val ((ZN (1)) w.heap.size), .val ((RN 1 1) w.heap.size), .put (.inl 6) (.box 35 ((RN 1 1) w.heap.size)), .val (iV 0)] [.inr 0, .inr 1] [.inl 3] S4 ?_ ?_
 ·apply jj4
  ·exact cc1 wA (opnd_const _) (fresh_zn _) (g_zof (1) (by omega) (by omega))
  ·exact cc1 wA (qO 0 33 rfl) (fresh_rn _ _) (fun w u h1 => g_ratof (k := 1) (by omega) w u (zn_zv one_dl _ _ h1))
  ·exact owe_set rfl wA rfl (k := 1) rfl (by kernel_rfl) (oO 1 34) (stores_of strct_rat shp_r0 (shp_pr shp_zn shp_zn)) rfl
  ·exact mC
 intro _ a5 _ (S5 : Sta w 52 [(3, (qrlf90 nD nL K D L)), (6, (.box 35 ((RN 1 1) w.heap.size)))] [(7, iV 0)] _ _ _)
 refine wp_ret (inBlkR (thenR ?_))
 exact end_two S5 rfl (res_cell S5 1 6 rfl strct_rat (shp_pr shp_zn shp_zn)) (res_tmp S5 0 7 rfl)

end Go.Proofs.YthmccopeigpelaaGreat

/-
 Rationals by any quotient that they are: sums, products; what the norm by data comes to.
-/
namespace Go.Proofs.YthmccopeigpelaaGreat
open Go Go.RowKit Nt
set_option linter.unusedSimpArgs false
set_option linter.unusedVariables false
set_option maxRecDepth 20000

end Go.Proofs.YthmccopeigpelaaGreat
