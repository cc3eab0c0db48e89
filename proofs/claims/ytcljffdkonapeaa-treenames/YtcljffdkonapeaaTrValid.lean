/-
  scale.MayBe, tree.Valid.
-/
import Derived.Test.YtcljffdkonapeaaTrBase
namespace Go.Proofs.Ytcljffdkonapeaa
open Go Go.RowKit Nt
set_option linter.unusedSimpArgs false
set_option linter.unusedVariables false


theorem sgn_nn {z : Int} (h : 0 ≤ z) : 0 ≤ z.sign := by
  by_cases h0 : z = 0
  · rw [h0]; decide
  · rw [Int.sign_eq_one_of_pos (by omega)]; decide
theorem one_lt {rn rd : Int} (h : 0 < rd) : ∀ i, i < 1 → 0 < (([(rn, rd)] : List (Int × Int)).getD i (0, 0)).2 := fun i hi => by
  match i, hi with
  | 0, _ => exact h
theorem sng_ar1 {E lo k : Nat} {a b : Int} : ∀ v w, Sng E 4 (PR (Zv a k) (Zv b k)) lo v w → QV 1 [(a, b)] k v w := by
  rintro v w ⟨g, u, rfl, h1, h2, h3, h4⟩
  refine ⟨_, _, rfl, rfl, ⟨Nat.le_refl _, by unfold maxLen; omega, fun e => by cases e⟩, fun i φ hφ => ?_⟩
  match i, hφ with
  | 0, hφ =>
    simp at hφ
    subst hφ
    refine ⟨g, 0, u, rfl, fun j x hx => ?_, h3.siz, h4⟩
    rw [Nat.mul_zero, Nat.add_zero, Nat.zero_add, cell_of h2]
    exact hx
  | i + 1, hφ => simp at hφ
/-- A tree that may be. -/
structure TGood (D : List Int) (L : List (List Int)) (ts : List (Int × Int)) (rn rd : Int) : Prop where
  g : Good D L
  dim : L.length ≤ 12
  len : ts.length = 0 ∨ (ts.length ≠ 0 ∧ ts.length = L.length)
  t : ∀ i, i < ts.length → 0 < (ts.getD i (0, 0)).2
  rd : 0 < rd
  rn : 0 ≤ rn
inductive TBad (D : List Int) (L : List (List Int)) (ts : List (Int × Int)) (rn rd : Int) : Prop
  | g : Bad D L → TBad D L ts rn rd
  | dim : Good D L → 12 < L.length → TBad D L ts rn rd
  | len : Good D L → L.length ≤ 12 → ts.length ≠ 0 → ts.length ≠ L.length → TBad D L ts rn rd
  | t (i0 : Nat) : Good D L → L.length ≤ 12 → ts.length ≠ 0 → ts.length = L.length → i0 < ts.length → (∀ j, j < i0 → 0 < (ts.getD j (0, 0)).2) → (ts.getD i0 (0, 0)).2 ≤ 0 → TBad D L ts rn rd
  | rd : Good D L → L.length ≤ 12 → (ts.length = 0 ∨ (ts.length ≠ 0 ∧ ts.length = L.length)) → (∀ i, i < ts.length → 0 < (ts.getD i (0, 0)).2) → rd ≤ 0 → TBad D L ts rn rd
  | rn : Good D L → L.length ≤ 12 → (ts.length = 0 ∨ (ts.length ≠ 0 ∧ ts.length = L.length)) → (∀ i, i < ts.length → 0 < (ts.getD i (0, 0)).2) → 0 < rd → rn < 0 → TBad D L ts rn rd
set_option maxHeartbeats 400000 in
theorem mayb_t (w : World) (u : Value) (n k : Nat) (ts : List (Int × Int)) (h : Hs w (QV n ts k) u) (hn : n ≤ 1048576) (hk : k ≤ 8388608) (lt : ts.length = n) (ht : ∀ i, i < n → 0 < (ts.getD i (0, 0)).2) :
    Calls Try.prog 7 #[u] w (Gives (IS (.bool true)) w) := by
  refine calls_sta (sl := [(0, (QV n ts k))]) Try.func7 rfl Try.ntmps7 (by simp) (args_cons rfl (h) args_nil) ?_
  intro a0 S0
  refine wp_stmt_seq [kF] [] [.inr 0] follows S0 rfl (by kernel_rfl) ?_ ?_
  · refine ⟨trivial, ?_⟩
    · exact mC
  intro B1 a1 W1 (S1 : Sta w 16 [] [(0, (QV n ts k))] _ _ _)
  refine wp_seq ?_
  refine wp_stmt_seq [.val (QV n ts k), .val (iV (n : Nat)), .val (iV 0)] [] [.inl 0, .inl 1, .inl 2] follows S1 rfl (by kernel_rfl) ?_ ?_
  · refine ⟨⟨⟨trivial, ?_⟩, ?_⟩, ?_⟩
    · exact mS 0 0
    · exact owe_len rfl wA rfl (oO 0 5) ar_len Try.underlying28 rfl
    · exact mC
  intro B2 a2 W2 (S2 : Sta w 16 [] [(5, (QV n ts k)), (6, iV (n : Nat)), (7, iV 0)] _ _ _)
  refine wp_block ?_
  refine wp_loop_ghost (fun (k0 : Nat) a W => (k0 ≤ n) ∧ ∃ Bq, Sta w 16 [] [(5, (QV n ts k)), (6, iV (n : Nat)), (7, iV (k0 : Nat))] Bq a W) (fun (k0 : Nat) => n - k0) ?_ 0 ⟨Nat.zero_le _, B2, S2.sub [] [0, 1, 2]⟩
  rintro k0 a3 W3 ⟨hcond, B3, S3⟩
  by_cases hlt : k0 < n
  · have hp := sgn_pos (ht k0 hlt)
    refine wp_stmt_seq [kT] [] [.inl 0, .inr 0, .inr 1, .inr 2] follows S3 rfl (by kernel_rfl) ?_ ?_
    · refine ⟨trivial, ?_⟩
      · exact b_lss_int_t wA (oS 2 7) (oS 1 6)
    intro B4 a4 W4 (S4 : Sta w 16 [] [(8, bT), (5, (QV n ts k)), (6, iV (n : Nat)), (7, iV (k0 : Nat))] _ _ _)
    refine wp_seq ?_
    refine wp_cond_true (S4.bool 0 8 rfl) ?_
    refine wp_skip ?_
    refine thenN ?_
    refine wp_seq ?_
    refine wp_block ?_
    refine wp_stmt_seq [.val (AtE 4 (PR (Zv ((ts.getD k0 (0, 0)).1) k) (Zv ((ts.getD k0 (0, 0)).2) k))), .val (PR (Zv ((ts.getD k0 (0, 0)).1) k) (Zv ((ts.getD k0 (0, 0)).2) k)), .new (.box 33 zR), .put (.inr 2) (.box 33 (PR (Zv ((ts.getD k0 (0, 0)).1) k) (Zv ((ts.getD k0 (0, 0)).2) k)))] [.inl 2] [.inr 1, .inr 2, .inr 3] follows S4 rfl (by kernel_rfl) ?_ ?_
    · refine ⟨⟨⟨⟨trivial, ?_⟩, ?_⟩, ?_⟩, ?_⟩
      · exact owe_aindex rfl wA rfl idx_rats (oS 1 5) (oS 3 7) (qv_at (by omega)) rfl
      · exact owe_aload rfl wA rfl ldr_rat4 (by decide) (cel_shp (by decide) (shp_pr shp_zv shp_zv)) (oO 0 9) rfl
      · exact owe_new rfl wA rfl rfl (fun ρ w => alloc_rat ρ _ w)
      · exact owe_put 2 rfl wA rfl (by kernel_rfl) rfl (oO 1 10) (stores_of strct_rat shp_r0 (shp_pr shp_zv shp_zv)) rfl
    intro B5 a5 W5 (S5 : Sta w 16 [(4, (.box 33 (PR (Zv ((ts.getD k0 (0, 0)).1) k) (Zv ((ts.getD k0 (0, 0)).2) k))))] [(5, (QV n ts k)), (6, iV (n : Nat)), (7, iV (k0 : Nat))] _ _ _)
    refine wp_stmt_seq [.val (Part a5 4 2), .val (Zv ((ts.getD k0 (0, 0)).2) k), .val (Is (.int .i64 ((ts.getD k0 (0, 0)).2).sign)), kF] [] [.inl 3, .inr 0, .inr 1, .inr 2] follows S5 rfl (by kernel_rfl) ?_ ?_
    · refine ⟨⟨⟨⟨trivial, ?_⟩, ?_⟩, ?_⟩, ?_⟩
      · exact owe_part rfl wA rfl (k := 0) rfl (by kernel_rfl) rfl (fun ρ w b h => part_rat1 ρ _ _ w b 0 h)
      · exact owe_pload rfl wA rfl (oO 0 11) (k := 0) rfl (by kernel_rfl) rfl (fun ρ w b u h1 h2 h3 => pload_den ρ _ _ w b u h1 h2 h3)
      · exact cc1 wA (qO 1 12 rfl) (fresh_is _) (fun w u h1 => h_zsign (by omega) w u ((fun _ _ h => h) _ _ h1))
      · exact b_leq_int_f wA (oO 2 13) (opnd_const _)
    intro B6 a6 W6 (S6 : Sta w 16 [] [(14, bF), (5, (QV n ts k)), (6, iV (n : Nat)), (7, iV (k0 : Nat))] _ _ _)
    refine wp_cond_false (S6.bool 0 14 rfl) ?_
    refine wp_skip ?_
    refine inBlkN ?_
    refine thenN ?_
    refine wp_stmt [.val (iV (k0 + 1 : Nat)), .val (iV (k0 + 1 : Nat))] [] [.inl 1, .inr 1, .inr 2] follows S6 rfl (by kernel_rfl) ?_ ?_
    · refine ⟨⟨trivial, ?_⟩, ?_⟩
      · exact b_add_int wA (oS 3 7) (opnd_const _)
      · exact mO 0 15
    intro B7 a7 W7 (S7 : Sta w 16 [] [(7, iV (k0 + 1 : Nat)), (5, (QV n ts k)), (6, iV (n : Nat))] _ _ _)
    refine thenN ?_
    exact ⟨k0 + 1, ⟨by omega, B7, S7.sub [] [1, 2, 0]⟩, by omega⟩
  · skip
    refine wp_stmt_seq [kF] [] [.inl 0, .inr 0, .inr 1, .inr 2] follows S3 rfl (by kernel_rfl) ?_ ?_
    · refine ⟨trivial, ?_⟩
      · exact b_lss_int_f wA (oS 2 7) (oS 1 6)
    intro B4 a4 W4 (S4 : Sta w 16 [] [(8, bF), (5, (QV n ts k)), (6, iV (n : Nat)), (7, iV (k0 : Nat))] _ _ _)
    refine wp_seq ?_
    refine wp_cond_false (S4.bool 0 8 rfl) ?_
    refine wp_exit ?_
    refine thenX ?_
    refine thenX ?_
    refine inBlkE ?_
    refine thenN ?_
    refine wp_stmt_seq [kT] [] [.inl 0, .inr 1, .inr 2, .inr 3] follows S4 rfl (by kernel_rfl) ?_ ?_
    · refine ⟨trivial, ?_⟩
      · exact mC
    intro B5 a5 W5 (S5 : Sta w 16 [] [(2, bT), (5, (QV n ts k)), (6, iV (n : Nat)), (7, iV (k0 : Nat))] _ _ _)
    refine wp_ret ?_
    exact end_one S5 rfl (res_tmp S5 0 2 rfl)

set_option maxHeartbeats 400000 in
theorem mayb_f (w : World) (u : Value) (n k : Nat) (ts : List (Int × Int)) (h : Hs w (QV n ts k) u) (hn : n ≤ 1048576) (hk : k ≤ 8388608) (lt : ts.length = n) (i0 : Nat) (hi : i0 < n) (ht : ∀ i, i < i0 → 0 < (ts.getD i (0, 0)).2) (hz : (ts.getD i0 (0, 0)).2 ≤ 0) :
    Calls Try.prog 7 #[u] w (Gives (IS (.bool false)) w) := by
  refine calls_sta (sl := [(0, (QV n ts k))]) Try.func7 rfl Try.ntmps7 (by simp) (args_cons rfl (h) args_nil) ?_
  intro a0 S0
  refine wp_stmt_seq [kF] [] [.inr 0] follows S0 rfl (by kernel_rfl) ?_ ?_
  · refine ⟨trivial, ?_⟩
    · exact mC
  intro B1 a1 W1 (S1 : Sta w 16 [] [(0, (QV n ts k))] _ _ _)
  refine wp_seq ?_
  refine wp_stmt_seq [.val (QV n ts k), .val (iV (n : Nat)), .val (iV 0)] [] [.inl 0, .inl 1, .inl 2] follows S1 rfl (by kernel_rfl) ?_ ?_
  · refine ⟨⟨⟨trivial, ?_⟩, ?_⟩, ?_⟩
    · exact mS 0 0
    · exact owe_len rfl wA rfl (oO 0 5) ar_len Try.underlying28 rfl
    · exact mC
  intro B2 a2 W2 (S2 : Sta w 16 [] [(5, (QV n ts k)), (6, iV (n : Nat)), (7, iV 0)] _ _ _)
  refine wp_block ?_
  refine wp_loop_ghost (fun (k0 : Nat) a W => (k0 ≤ i0) ∧ ∃ Bq, Sta w 16 [] [(5, (QV n ts k)), (6, iV (n : Nat)), (7, iV (k0 : Nat))] Bq a W) (fun (k0 : Nat) => n - k0) ?_ 0 ⟨Nat.zero_le _, B2, S2.sub [] [0, 1, 2]⟩
  rintro k0 a3 W3 ⟨hcond, B3, S3⟩
  by_cases hlt : k0 < i0
  · have hp := sgn_pos (ht k0 hlt)
    refine wp_stmt_seq [kT] [] [.inl 0, .inr 0, .inr 1, .inr 2] follows S3 rfl (by kernel_rfl) ?_ ?_
    · refine ⟨trivial, ?_⟩
      · exact b_lss_int_t wA (oS 2 7) (oS 1 6)
    intro B4 a4 W4 (S4 : Sta w 16 [] [(8, bT), (5, (QV n ts k)), (6, iV (n : Nat)), (7, iV (k0 : Nat))] _ _ _)
    refine wp_seq ?_
    refine wp_cond_true (S4.bool 0 8 rfl) ?_
    refine wp_skip ?_
    refine thenN ?_
    refine wp_seq ?_
    refine wp_block ?_
    refine wp_stmt_seq [.val (AtE 4 (PR (Zv ((ts.getD k0 (0, 0)).1) k) (Zv ((ts.getD k0 (0, 0)).2) k))), .val (PR (Zv ((ts.getD k0 (0, 0)).1) k) (Zv ((ts.getD k0 (0, 0)).2) k)), .new (.box 33 zR), .put (.inr 2) (.box 33 (PR (Zv ((ts.getD k0 (0, 0)).1) k) (Zv ((ts.getD k0 (0, 0)).2) k)))] [.inl 2] [.inr 1, .inr 2, .inr 3] follows S4 rfl (by kernel_rfl) ?_ ?_
    · refine ⟨⟨⟨⟨trivial, ?_⟩, ?_⟩, ?_⟩, ?_⟩
      · exact owe_aindex rfl wA rfl idx_rats (oS 1 5) (oS 3 7) (qv_at (by omega)) rfl
      · exact owe_aload rfl wA rfl ldr_rat4 (by decide) (cel_shp (by decide) (shp_pr shp_zv shp_zv)) (oO 0 9) rfl
      · exact owe_new rfl wA rfl rfl (fun ρ w => alloc_rat ρ _ w)
      · exact owe_put 2 rfl wA rfl (by kernel_rfl) rfl (oO 1 10) (stores_of strct_rat shp_r0 (shp_pr shp_zv shp_zv)) rfl
    intro B5 a5 W5 (S5 : Sta w 16 [(4, (.box 33 (PR (Zv ((ts.getD k0 (0, 0)).1) k) (Zv ((ts.getD k0 (0, 0)).2) k))))] [(5, (QV n ts k)), (6, iV (n : Nat)), (7, iV (k0 : Nat))] _ _ _)
    refine wp_stmt_seq [.val (Part a5 4 2), .val (Zv ((ts.getD k0 (0, 0)).2) k), .val (Is (.int .i64 ((ts.getD k0 (0, 0)).2).sign)), kF] [] [.inl 3, .inr 0, .inr 1, .inr 2] follows S5 rfl (by kernel_rfl) ?_ ?_
    · refine ⟨⟨⟨⟨trivial, ?_⟩, ?_⟩, ?_⟩, ?_⟩
      · exact owe_part rfl wA rfl (k := 0) rfl (by kernel_rfl) rfl (fun ρ w b h => part_rat1 ρ _ _ w b 0 h)
      · exact owe_pload rfl wA rfl (oO 0 11) (k := 0) rfl (by kernel_rfl) rfl (fun ρ w b u h1 h2 h3 => pload_den ρ _ _ w b u h1 h2 h3)
      · exact cc1 wA (qO 1 12 rfl) (fresh_is _) (fun w u h1 => h_zsign (by omega) w u ((fun _ _ h => h) _ _ h1))
      · exact b_leq_int_f wA (oO 2 13) (opnd_const _)
    intro B6 a6 W6 (S6 : Sta w 16 [] [(14, bF), (5, (QV n ts k)), (6, iV (n : Nat)), (7, iV (k0 : Nat))] _ _ _)
    refine wp_cond_false (S6.bool 0 14 rfl) ?_
    refine wp_skip ?_
    refine inBlkN ?_
    refine thenN ?_
    refine wp_stmt [.val (iV (k0 + 1 : Nat)), .val (iV (k0 + 1 : Nat))] [] [.inl 1, .inr 1, .inr 2] follows S6 rfl (by kernel_rfl) ?_ ?_
    · refine ⟨⟨trivial, ?_⟩, ?_⟩
      · exact b_add_int wA (oS 3 7) (opnd_const _)
      · exact mO 0 15
    intro B7 a7 W7 (S7 : Sta w 16 [] [(7, iV (k0 + 1 : Nat)), (5, (QV n ts k)), (6, iV (n : Nat))] _ _ _)
    refine thenN ?_
    exact ⟨k0 + 1, ⟨by omega, B7, S7.sub [] [1, 2, 0]⟩, by omega⟩
  · have ek : k0 = i0 := by omega
    rw [← ek] at hz
    have hp := sgn_npos hz
    refine wp_stmt_seq [kT] [] [.inl 0, .inr 0, .inr 1, .inr 2] follows S3 rfl (by kernel_rfl) ?_ ?_
    · refine ⟨trivial, ?_⟩
      · exact b_lss_int_t wA (oS 2 7) (oS 1 6)
    intro B4 a4 W4 (S4 : Sta w 16 [] [(8, bT), (5, (QV n ts k)), (6, iV (n : Nat)), (7, iV (k0 : Nat))] _ _ _)
    refine wp_seq ?_
    refine wp_cond_true (S4.bool 0 8 rfl) ?_
    refine wp_skip ?_
    refine thenN ?_
    refine wp_seq ?_
    refine wp_block ?_
    refine wp_stmt_seq [.val (AtE 4 (PR (Zv ((ts.getD k0 (0, 0)).1) k) (Zv ((ts.getD k0 (0, 0)).2) k))), .val (PR (Zv ((ts.getD k0 (0, 0)).1) k) (Zv ((ts.getD k0 (0, 0)).2) k)), .new (.box 33 zR), .put (.inr 2) (.box 33 (PR (Zv ((ts.getD k0 (0, 0)).1) k) (Zv ((ts.getD k0 (0, 0)).2) k)))] [.inl 2] [.inr 1, .inr 2, .inr 3] follows S4 rfl (by kernel_rfl) ?_ ?_
    · refine ⟨⟨⟨⟨trivial, ?_⟩, ?_⟩, ?_⟩, ?_⟩
      · exact owe_aindex rfl wA rfl idx_rats (oS 1 5) (oS 3 7) (qv_at (by omega)) rfl
      · exact owe_aload rfl wA rfl ldr_rat4 (by decide) (cel_shp (by decide) (shp_pr shp_zv shp_zv)) (oO 0 9) rfl
      · exact owe_new rfl wA rfl rfl (fun ρ w => alloc_rat ρ _ w)
      · exact owe_put 2 rfl wA rfl (by kernel_rfl) rfl (oO 1 10) (stores_of strct_rat shp_r0 (shp_pr shp_zv shp_zv)) rfl
    intro B5 a5 W5 (S5 : Sta w 16 [(4, (.box 33 (PR (Zv ((ts.getD k0 (0, 0)).1) k) (Zv ((ts.getD k0 (0, 0)).2) k))))] [(5, (QV n ts k)), (6, iV (n : Nat)), (7, iV (k0 : Nat))] _ _ _)
    refine wp_stmt_seq [.val (Part a5 4 2), .val (Zv ((ts.getD k0 (0, 0)).2) k), .val (Is (.int .i64 ((ts.getD k0 (0, 0)).2).sign)), kT] [] [.inl 3, .inr 0, .inr 1, .inr 2] follows S5 rfl (by kernel_rfl) ?_ ?_
    · refine ⟨⟨⟨⟨trivial, ?_⟩, ?_⟩, ?_⟩, ?_⟩
      · exact owe_part rfl wA rfl (k := 0) rfl (by kernel_rfl) rfl (fun ρ w b h => part_rat1 ρ _ _ w b 0 h)
      · exact owe_pload rfl wA rfl (oO 0 11) (k := 0) rfl (by kernel_rfl) rfl (fun ρ w b u h1 h2 h3 => pload_den ρ _ _ w b u h1 h2 h3)
      · exact cc1 wA (qO 1 12 rfl) (fresh_is _) (fun w u h1 => h_zsign (by omega) w u ((fun _ _ h => h) _ _ h1))
      · exact b_leq_int_t wA (oO 2 13) (opnd_const _)
    intro B6 a6 W6 (S6 : Sta w 16 [] [(14, bT), (5, (QV n ts k)), (6, iV (n : Nat)), (7, iV (k0 : Nat))] _ _ _)
    refine wp_cond_true (S6.bool 0 14 rfl) ?_
    refine wp_stmt_seq [kF] [] [.inl 0, .inr 1, .inr 2, .inr 3] follows S6 rfl (by kernel_rfl) ?_ ?_
    · refine ⟨trivial, ?_⟩
      · exact mC
    intro B7 a7 W7 (S7 : Sta w 16 [] [(2, bF), (5, (QV n ts k)), (6, iV (n : Nat)), (7, iV (k0 : Nat))] _ _ _)
    refine wp_ret ?_
    refine inBlkR ?_
    refine thenR ?_
    refine thenR ?_
    refine inBlkR ?_
    refine thenR ?_
    exact end_one S7 rfl (res_tmp S7 0 2 rfl)

set_option maxHeartbeats 4000000 in
theorem tval_b (w : World) (u : Value) (nD nL nT K : Nat) (D : List Int) (L : List (List Int)) (ts : List (Int × Int)) (rn rd : Int) (h : Hs w (TR (Vv nD D K) (Mv nL L K) (QV nT ts K) (PR (Zv rn K) (Zv rd K))) u) (hD : nD ≤ 1048576) (hL : nL ≤ 1048576) (hT : nT ≤ 1048576) (hK : K ≤ 1048576) (lD : D.length = nD) (lL : L.length = nL) (lT : ts.length = nT) (tg : TBad D L ts rn rd) :
    Calls Try.prog 4 #[u] w (Gives (IS (.int .i64 110)) w) := by
  refine calls_sta (sl := [(0, (TR (Vv nD D K) (Mv nL L K) (QV nT ts K) (PR (Zv rn K) (Zv rd K))))]) Try.func4 rfl Try.ntmps4 (by simp) (args_cons rfl (h) args_nil) ?_
  intro a0 S0
  refine wp_stmt_seq [.new (.box 35 (TR (Vv nD D K) (Mv nL L K) (QV nT ts K) (PR (Zv rn K) (Zv rd K)))), .val (iV 0)] [.inl 0] [] follows S0 rfl (by kernel_rfl) ?_ ?_
  · refine ⟨⟨trivial, ?_⟩, ?_⟩
    · exact owe_box rfl wA rfl (oS 0 0) rfl (fun ρ w h => box_tree shp_tr ρ _ _ w h)
    · exact mC
  intro B1 a1 W1 (S1 : Sta w 54 [(1, (.box 35 (TR (Vv nD D K) (Mv nL L K) (QV nT ts K) (PR (Zv rn K) (Zv rd K)))))] [] _ _ _)
  rcases tg with g | ⟨g, g1⟩ | ⟨g, g1, g2, g3⟩ | ⟨i0, g, g1, g2, g3, g4, g6, g7⟩ | ⟨g, g1, hl, g5, g6⟩ | ⟨g, g1, hl, g5, g6, g7⟩
  · skip
    refine wp_stmt_seq [.val (Part a1 1 0), .val (SF [(Vv nD D K), (Mv nL L K)]), .val ((TWO (IS (.agg #[.bool false, .slice none 0 0, .bool false, .slice none 0 0])) (IS (.int .i64 51))) w.heap.size), .val ((TWO (IS (.agg #[.bool false, .slice none 0 0, .bool false, .slice none 0 0])) (IS (.int .i64 51))) w.heap.size), .val zR, .val (iV 51), .new (.box 33 zR), .put (.inr 6) (.box 33 zR), .val (iV 51)] [.inr 0, .inl 6] [.inl 8] follows S1 rfl (by kernel_rfl) ?_ ?_
    · repeat' refine And.intro ?_ ?_
      · trivial
      · exact owe_part rfl wA rfl (k := 0) rfl (by kernel_rfl) rfl (fun ρ w b h => part_tree0 ρ _ _ w b 0 h)
      · exact owe_pload rfl wA rfl (oO 0 7) (k := 0) rfl (by kernel_rfl) rfl (fun ρ w b u h1 h2 h3 => pload_tr0 ρ _ _ w b u h1 h2 h3)
      · exact ch3 wA (qO 1 8 rfl) (opnd_const _) (opnd_const _) (fresh_two (fresh_is _) (fresh_is _)) (fun w u0 u1 u2 h0 h1 h2 => by obtain rfl : u1 = _ := h1.now; obtain rfl : u2 = _ := h2.now; exact mu_b w u0 nD nL K D L h0 hD hL hK lD lL 0 0 g)
      · exact mO 2 9
      · exact e20 wA (oO 3 6)
      · exact e21 wA (oO 3 6)
      · exact owe_new rfl wA rfl rfl (fun ρ w => alloc_rat ρ _ w)
      · exact owe_put 6 rfl wA rfl (by kernel_rfl) rfl (oO 4 10) (stores_of strct_rat shp_r0 shp_r0) rfl
      · exact mO 5 11
    intro B2 a2 W2 (S2 : Sta w 54 [(1, (.box 35 (TR (Vv nD D K) (Mv nL L K) (QV nT ts K) (PR (Zv rn K) (Zv rd K))))), (3, (.box 33 zR))] [(4, iV 51)] _ _ _)
    refine wp_stmt_seq [.val (Part a2 1 0), .val (Part a2 1 1), .val (Mv nL L K), .val (iV (nL : Nat)), .val (iV (nL : Nat))] [.inr 0] [.inl 4, .inr 0] follows S2 rfl (by kernel_rfl) ?_ ?_
    · refine ⟨⟨⟨⟨⟨trivial, ?_⟩, ?_⟩, ?_⟩, ?_⟩, ?_⟩
      · exact owe_part rfl wA rfl (k := 0) rfl (by kernel_rfl) rfl (fun ρ w b h => part_tree0 ρ _ _ w b 0 h)
      · exact owe_part2 rfl wA rfl (oO 0 12) rfl (fun ρ w b h => part_gso1 ρ _ _ w b 0 h)
      · exact owe_pload rfl wA rfl (oO 1 13) (k := 0) rfl (by kernel_rfl) rfl (fun ρ w b u h1 h2 h3 => pload_tr1 ρ _ _ w b u h1 h2 h3)
      · exact owe_len rfl wA rfl (oO 2 14) ar_len Try.underlying25 rfl
      · exact mO 3 15
    intro B3 a3 W3 (S3 : Sta w 54 [(1, (.box 35 (TR (Vv nD D K) (Mv nL L K) (QV nT ts K) (PR (Zv rn K) (Zv rd K)))))] [(5, iV (nL : Nat)), (4, iV 51)] _ _ _)
    refine wp_seq ?_
    refine wp_block ?_
    refine wp_stmt_seq [.val (iV 51), kT, kT, .off, .off, kT, kT] [.inr 0] [.inl 6, .inr 0] follows S3 rfl (by kernel_rfl) ?_ ?_
    · repeat' refine And.intro ?_ ?_
      · trivial
      · exact mS 1 4
      · exact b_neq_errno_t wA (oO 0 17) (opnd_const _) (h := by decide)
      · exact mO 1 18
      · exact oF 2 19
      · exact oF 2 19
      · exact pT wA (oO 2 19) (opnd_const _)
      · exact mO 5 22
    intro B4 a4 W4 (S4 : Sta w 54 [(1, (.box 35 (TR (Vv nD D K) (Mv nL L K) (QV nT ts K) (PR (Zv rn K) (Zv rd K)))))] [(16, bT), (5, iV (nL : Nat))] _ _ _)
    refine wp_cond_true (S4.bool 0 16 rfl) ?_
    refine wp_stmt_seq [.val (iV 110)] [.inr 0] [.inl 0] follows S4 rfl (by kernel_rfl) ?_ ?_
    · refine ⟨trivial, ?_⟩
      · exact mC
    intro B5 a5 W5 (S5 : Sta w 54 [(1, (.box 35 (TR (Vv nD D K) (Mv nL L K) (QV nT ts K) (PR (Zv rn K) (Zv rd K)))))] [(2, iV 110)] _ _ _)
    refine wp_ret ?_
    refine inBlkR ?_
    refine thenR ?_
    exact end_one S5 rfl (res_tmp S5 0 2 rfl)
  · skip
    refine wp_stmt_seq [.val (Part a1 1 0), .val (SF [(Vv nD D K), (Mv nL L K)]), .val ((TWO (RN 1 1) (IS (.int .i64 0))) w.heap.size), .val ((TWO (RN 1 1) (IS (.int .i64 0))) w.heap.size), .val ((RN 1 1) w.heap.size), .val (iV 0), .new (.box 33 zR), .put (.inr 6) (.box 33 ((RN 1 1) w.heap.size)), .val (iV 0)] [.inr 0, .inl 6] [.inl 8] follows S1 rfl (by kernel_rfl) ?_ ?_
    · repeat' refine And.intro ?_ ?_
      · trivial
      · exact owe_part rfl wA rfl (k := 0) rfl (by kernel_rfl) rfl (fun ρ w b h => part_tree0 ρ _ _ w b 0 h)
      · exact owe_pload rfl wA rfl (oO 0 7) (k := 0) rfl (by kernel_rfl) rfl (fun ρ w b u h1 h2 h3 => pload_tr0 ρ _ _ w b u h1 h2 h3)
      · exact ch3 wA (qO 1 8 rfl) (opnd_const _) (opnd_const _) (fresh_two (fresh_rn _ _) (fresh_is _)) (fun w u0 u1 u2 h0 h1 h2 => by obtain rfl : u1 = _ := h1.now; obtain rfl : u2 = _ := h2.now; exact mu_e w u0 nD nL K D L h0 hD hL hK lD lL 0 g (by have := g.some; omega))
      · exact mO 2 9
      · exact e20 wA (oO 3 6)
      · exact e21 wA (oO 3 6)
      · exact owe_new rfl wA rfl rfl (fun ρ w => alloc_rat ρ _ w)
      · exact owe_put 6 rfl wA rfl (by kernel_rfl) rfl (oO 4 10) (stores_of strct_rat shp_r0 (shp_pr shp_zn shp_zn)) rfl
      · exact mO 5 11
    intro B2 a2 W2 (S2 : Sta w 54 [(1, (.box 35 (TR (Vv nD D K) (Mv nL L K) (QV nT ts K) (PR (Zv rn K) (Zv rd K))))), (3, (.box 33 ((RN 1 1) w.heap.size)))] [(4, iV 0)] _ _ _)
    refine wp_stmt_seq [.val (Part a2 1 0), .val (Part a2 1 1), .val (Mv nL L K), .val (iV (nL : Nat)), .val (iV (nL : Nat))] [.inr 0] [.inl 4, .inr 0] follows S2 rfl (by kernel_rfl) ?_ ?_
    · refine ⟨⟨⟨⟨⟨trivial, ?_⟩, ?_⟩, ?_⟩, ?_⟩, ?_⟩
      · exact owe_part rfl wA rfl (k := 0) rfl (by kernel_rfl) rfl (fun ρ w b h => part_tree0 ρ _ _ w b 0 h)
      · exact owe_part2 rfl wA rfl (oO 0 12) rfl (fun ρ w b h => part_gso1 ρ _ _ w b 0 h)
      · exact owe_pload rfl wA rfl (oO 1 13) (k := 0) rfl (by kernel_rfl) rfl (fun ρ w b u h1 h2 h3 => pload_tr1 ρ _ _ w b u h1 h2 h3)
      · exact owe_len rfl wA rfl (oO 2 14) ar_len Try.underlying25 rfl
      · exact mO 3 15
    intro B3 a3 W3 (S3 : Sta w 54 [(1, (.box 35 (TR (Vv nD D K) (Mv nL L K) (QV nT ts K) (PR (Zv rn K) (Zv rd K)))))] [(5, iV (nL : Nat)), (4, iV 0)] _ _ _)
    refine wp_seq ?_
    refine wp_block ?_
    refine wp_stmt_seq [.val (iV 0), kF, kF, .val (iV (nL : Nat)), kT, kT, kT] [.inr 0] [.inl 6, .inr 0] follows S3 rfl (by kernel_rfl) ?_ ?_
    · repeat' refine And.intro ?_ ?_
      · trivial
      · exact mS 1 4
      · exact b_neq_errno_f wA (oO 0 17) (opnd_const _) (h := by decide)
      · exact mO 1 18
      · exact mW (wI 2 19) (oS 0 5)
      · exact b_gtr_int_t (wI 2 19) (oO 3 20) (opnd_const _)
      · exact pF wA (oO 2 19) (oO 4 21)
      · exact mO 5 22
    intro B4 a4 W4 (S4 : Sta w 54 [(1, (.box 35 (TR (Vv nD D K) (Mv nL L K) (QV nT ts K) (PR (Zv rn K) (Zv rd K)))))] [(16, bT), (5, iV (nL : Nat))] _ _ _)
    refine wp_cond_true (S4.bool 0 16 rfl) ?_
    refine wp_stmt_seq [.val (iV 110)] [.inr 0] [.inl 0] follows S4 rfl (by kernel_rfl) ?_ ?_
    · refine ⟨trivial, ?_⟩
      · exact mC
    intro B5 a5 W5 (S5 : Sta w 54 [(1, (.box 35 (TR (Vv nD D K) (Mv nL L K) (QV nT ts K) (PR (Zv rn K) (Zv rd K)))))] [(2, iV 110)] _ _ _)
    refine wp_ret ?_
    refine inBlkR ?_
    refine thenR ?_
    exact end_one S5 rfl (res_tmp S5 0 2 rfl)
  · skip
    refine wp_stmt_seq [.val (Part a1 1 0), .val (SF [(Vv nD D K), (Mv nL L K)]), .val ((TWO (RN 1 1) (IS (.int .i64 0))) w.heap.size), .val ((TWO (RN 1 1) (IS (.int .i64 0))) w.heap.size), .val ((RN 1 1) w.heap.size), .val (iV 0), .new (.box 33 zR), .put (.inr 6) (.box 33 ((RN 1 1) w.heap.size)), .val (iV 0)] [.inr 0, .inl 6] [.inl 8] follows S1 rfl (by kernel_rfl) ?_ ?_
    · repeat' refine And.intro ?_ ?_
      · trivial
      · exact owe_part rfl wA rfl (k := 0) rfl (by kernel_rfl) rfl (fun ρ w b h => part_tree0 ρ _ _ w b 0 h)
      · exact owe_pload rfl wA rfl (oO 0 7) (k := 0) rfl (by kernel_rfl) rfl (fun ρ w b u h1 h2 h3 => pload_tr0 ρ _ _ w b u h1 h2 h3)
      · exact ch3 wA (qO 1 8 rfl) (opnd_const _) (opnd_const _) (fresh_two (fresh_rn _ _) (fresh_is _)) (fun w u0 u1 u2 h0 h1 h2 => by obtain rfl : u1 = _ := h1.now; obtain rfl : u2 = _ := h2.now; exact mu_e w u0 nD nL K D L h0 hD hL hK lD lL 0 g (by have := g.some; omega))
      · exact mO 2 9
      · exact e20 wA (oO 3 6)
      · exact e21 wA (oO 3 6)
      · exact owe_new rfl wA rfl rfl (fun ρ w => alloc_rat ρ _ w)
      · exact owe_put 6 rfl wA rfl (by kernel_rfl) rfl (oO 4 10) (stores_of strct_rat shp_r0 (shp_pr shp_zn shp_zn)) rfl
      · exact mO 5 11
    intro B2 a2 W2 (S2 : Sta w 54 [(1, (.box 35 (TR (Vv nD D K) (Mv nL L K) (QV nT ts K) (PR (Zv rn K) (Zv rd K))))), (3, (.box 33 ((RN 1 1) w.heap.size)))] [(4, iV 0)] _ _ _)
    refine wp_stmt_seq [.val (Part a2 1 0), .val (Part a2 1 1), .val (Mv nL L K), .val (iV (nL : Nat)), .val (iV (nL : Nat))] [.inr 0] [.inl 4, .inr 0] follows S2 rfl (by kernel_rfl) ?_ ?_
    · refine ⟨⟨⟨⟨⟨trivial, ?_⟩, ?_⟩, ?_⟩, ?_⟩, ?_⟩
      · exact owe_part rfl wA rfl (k := 0) rfl (by kernel_rfl) rfl (fun ρ w b h => part_tree0 ρ _ _ w b 0 h)
      · exact owe_part2 rfl wA rfl (oO 0 12) rfl (fun ρ w b h => part_gso1 ρ _ _ w b 0 h)
      · exact owe_pload rfl wA rfl (oO 1 13) (k := 0) rfl (by kernel_rfl) rfl (fun ρ w b u h1 h2 h3 => pload_tr1 ρ _ _ w b u h1 h2 h3)
      · exact owe_len rfl wA rfl (oO 2 14) ar_len Try.underlying25 rfl
      · exact mO 3 15
    intro B3 a3 W3 (S3 : Sta w 54 [(1, (.box 35 (TR (Vv nD D K) (Mv nL L K) (QV nT ts K) (PR (Zv rn K) (Zv rd K)))))] [(5, iV (nL : Nat)), (4, iV 0)] _ _ _)
    refine wp_seq ?_
    refine wp_block ?_
    refine wp_stmt_seq [.val (iV 0), kF, kF, .val (iV (nL : Nat)), kF, kF, kF] [.inr 0] [.inl 6, .inr 0] follows S3 rfl (by kernel_rfl) ?_ ?_
    · repeat' refine And.intro ?_ ?_
      · trivial
      · exact mS 1 4
      · exact b_neq_errno_f wA (oO 0 17) (opnd_const _) (h := by decide)
      · exact mO 1 18
      · exact mW (wI 2 19) (oS 0 5)
      · exact b_gtr_int_f (wI 2 19) (oO 3 20) (opnd_const _)
      · exact pF wA (oO 2 19) (oO 4 21)
      · exact mO 5 22
    intro B4 a4 W4 (S4 : Sta w 54 [(1, (.box 35 (TR (Vv nD D K) (Mv nL L K) (QV nT ts K) (PR (Zv rn K) (Zv rd K)))))] [(16, bF), (5, iV (nL : Nat))] _ _ _)
    refine wp_cond_false (S4.bool 0 16 rfl) ?_
    refine wp_stmt_seq [.val (Part a4 1 2), .val (QV nT ts K), .val (iV (nT : Nat)), kT, kT, .val (Part a4 1 2), .val (QV nT ts K), .val (iV (nT : Nat)), .val (iV (nL : Nat)), kT, kT, kT] [.inr 0] [.inl 11] follows S4 rfl (by kernel_rfl) ?_ ?_
    · repeat' refine And.intro ?_ ?_
      · trivial
      · exact owe_part rfl wA rfl (k := 0) rfl (by kernel_rfl) rfl (fun ρ w b h => part_tree1 ρ _ _ w b 0 h)
      · exact owe_pload rfl wA rfl (oO 0 24) (k := 0) rfl (by kernel_rfl) rfl (fun ρ w b u h1 h2 h3 => pload_tr2 ρ _ _ w b u h1 h2 h3)
      · exact owe_len rfl wA rfl (oO 1 25) ar_len Try.underlying28 rfl
      · exact b_neq_int_t wA (oO 2 26) (opnd_const _)
      · exact mO 3 27
      · exact owe_part rfl (wI 4 28) rfl (k := 0) rfl (by kernel_rfl) rfl (fun ρ w b h => part_tree1 ρ _ _ w b 0 h)
      · exact owe_pload rfl (wI 4 28) rfl (oO 5 29) (k := 0) rfl (by kernel_rfl) rfl (fun ρ w b u h1 h2 h3 => pload_tr2 ρ _ _ w b u h1 h2 h3)
      · exact owe_len rfl (wI 4 28) rfl (oO 6 30) ar_len Try.underlying28 rfl
      · exact mW (wI 4 28) (oS 1 5)
      · exact b_neq_int_t (wI 4 28) (oO 7 31) (oO 8 32)
      · exact pT wA (oO 4 28) (oO 9 33)
      · exact mO 10 34
    intro B5 a5 W5 (S5 : Sta w 54 [(1, (.box 35 (TR (Vv nD D K) (Mv nL L K) (QV nT ts K) (PR (Zv rn K) (Zv rd K)))))] [(23, bT)] _ _ _)
    refine wp_cond_true (S5.bool 0 23 rfl) ?_
    refine wp_stmt_seq [.val (iV 110)] [.inr 0] [.inl 0] follows S5 rfl (by kernel_rfl) ?_ ?_
    · refine ⟨trivial, ?_⟩
      · exact mC
    intro B6 a6 W6 (S6 : Sta w 54 [(1, (.box 35 (TR (Vv nD D K) (Mv nL L K) (QV nT ts K) (PR (Zv rn K) (Zv rd K)))))] [(2, iV 110)] _ _ _)
    refine wp_ret ?_
    refine inBlkR ?_
    refine thenR ?_
    exact end_one S6 rfl (res_tmp S6 0 2 rfl)
  · skip
    refine wp_stmt_seq [.val (Part a1 1 0), .val (SF [(Vv nD D K), (Mv nL L K)]), .val ((TWO (RN 1 1) (IS (.int .i64 0))) w.heap.size), .val ((TWO (RN 1 1) (IS (.int .i64 0))) w.heap.size), .val ((RN 1 1) w.heap.size), .val (iV 0), .new (.box 33 zR), .put (.inr 6) (.box 33 ((RN 1 1) w.heap.size)), .val (iV 0)] [.inr 0, .inl 6] [.inl 8] follows S1 rfl (by kernel_rfl) ?_ ?_
    · repeat' refine And.intro ?_ ?_
      · trivial
      · exact owe_part rfl wA rfl (k := 0) rfl (by kernel_rfl) rfl (fun ρ w b h => part_tree0 ρ _ _ w b 0 h)
      · exact owe_pload rfl wA rfl (oO 0 7) (k := 0) rfl (by kernel_rfl) rfl (fun ρ w b u h1 h2 h3 => pload_tr0 ρ _ _ w b u h1 h2 h3)
      · exact ch3 wA (qO 1 8 rfl) (opnd_const _) (opnd_const _) (fresh_two (fresh_rn _ _) (fresh_is _)) (fun w u0 u1 u2 h0 h1 h2 => by obtain rfl : u1 = _ := h1.now; obtain rfl : u2 = _ := h2.now; exact mu_e w u0 nD nL K D L h0 hD hL hK lD lL 0 g (by have := g.some; omega))
      · exact mO 2 9
      · exact e20 wA (oO 3 6)
      · exact e21 wA (oO 3 6)
      · exact owe_new rfl wA rfl rfl (fun ρ w => alloc_rat ρ _ w)
      · exact owe_put 6 rfl wA rfl (by kernel_rfl) rfl (oO 4 10) (stores_of strct_rat shp_r0 (shp_pr shp_zn shp_zn)) rfl
      · exact mO 5 11
    intro B2 a2 W2 (S2 : Sta w 54 [(1, (.box 35 (TR (Vv nD D K) (Mv nL L K) (QV nT ts K) (PR (Zv rn K) (Zv rd K))))), (3, (.box 33 ((RN 1 1) w.heap.size)))] [(4, iV 0)] _ _ _)
    refine wp_stmt_seq [.val (Part a2 1 0), .val (Part a2 1 1), .val (Mv nL L K), .val (iV (nL : Nat)), .val (iV (nL : Nat))] [.inr 0] [.inl 4, .inr 0] follows S2 rfl (by kernel_rfl) ?_ ?_
    · refine ⟨⟨⟨⟨⟨trivial, ?_⟩, ?_⟩, ?_⟩, ?_⟩, ?_⟩
      · exact owe_part rfl wA rfl (k := 0) rfl (by kernel_rfl) rfl (fun ρ w b h => part_tree0 ρ _ _ w b 0 h)
      · exact owe_part2 rfl wA rfl (oO 0 12) rfl (fun ρ w b h => part_gso1 ρ _ _ w b 0 h)
      · exact owe_pload rfl wA rfl (oO 1 13) (k := 0) rfl (by kernel_rfl) rfl (fun ρ w b u h1 h2 h3 => pload_tr1 ρ _ _ w b u h1 h2 h3)
      · exact owe_len rfl wA rfl (oO 2 14) ar_len Try.underlying25 rfl
      · exact mO 3 15
    intro B3 a3 W3 (S3 : Sta w 54 [(1, (.box 35 (TR (Vv nD D K) (Mv nL L K) (QV nT ts K) (PR (Zv rn K) (Zv rd K)))))] [(5, iV (nL : Nat)), (4, iV 0)] _ _ _)
    refine wp_seq ?_
    refine wp_block ?_
    refine wp_stmt_seq [.val (iV 0), kF, kF, .val (iV (nL : Nat)), kF, kF, kF] [.inr 0] [.inl 6, .inr 0] follows S3 rfl (by kernel_rfl) ?_ ?_
    · repeat' refine And.intro ?_ ?_
      · trivial
      · exact mS 1 4
      · exact b_neq_errno_f wA (oO 0 17) (opnd_const _) (h := by decide)
      · exact mO 1 18
      · exact mW (wI 2 19) (oS 0 5)
      · exact b_gtr_int_f (wI 2 19) (oO 3 20) (opnd_const _)
      · exact pF wA (oO 2 19) (oO 4 21)
      · exact mO 5 22
    intro B4 a4 W4 (S4 : Sta w 54 [(1, (.box 35 (TR (Vv nD D K) (Mv nL L K) (QV nT ts K) (PR (Zv rn K) (Zv rd K)))))] [(16, bF), (5, iV (nL : Nat))] _ _ _)
    refine wp_cond_false (S4.bool 0 16 rfl) ?_
    refine wp_stmt_seq [.val (Part a4 1 2), .val (QV nT ts K), .val (iV (nT : Nat)), kT, kT, .val (Part a4 1 2), .val (QV nT ts K), .val (iV (nT : Nat)), .val (iV (nL : Nat)), kF, kF, kF] [.inr 0] [.inl 11] follows S4 rfl (by kernel_rfl) ?_ ?_
    · repeat' refine And.intro ?_ ?_
      · trivial
      · exact owe_part rfl wA rfl (k := 0) rfl (by kernel_rfl) rfl (fun ρ w b h => part_tree1 ρ _ _ w b 0 h)
      · exact owe_pload rfl wA rfl (oO 0 24) (k := 0) rfl (by kernel_rfl) rfl (fun ρ w b u h1 h2 h3 => pload_tr2 ρ _ _ w b u h1 h2 h3)
      · exact owe_len rfl wA rfl (oO 1 25) ar_len Try.underlying28 rfl
      · exact b_neq_int_t wA (oO 2 26) (opnd_const _)
      · exact mO 3 27
      · exact owe_part rfl (wI 4 28) rfl (k := 0) rfl (by kernel_rfl) rfl (fun ρ w b h => part_tree1 ρ _ _ w b 0 h)
      · exact owe_pload rfl (wI 4 28) rfl (oO 5 29) (k := 0) rfl (by kernel_rfl) rfl (fun ρ w b u h1 h2 h3 => pload_tr2 ρ _ _ w b u h1 h2 h3)
      · exact owe_len rfl (wI 4 28) rfl (oO 6 30) ar_len Try.underlying28 rfl
      · exact mW (wI 4 28) (oS 1 5)
      · exact b_neq_int_f (wI 4 28) (oO 7 31) (oO 8 32)
      · exact pT wA (oO 4 28) (oO 9 33)
      · exact mO 10 34
    intro B5 a5 W5 (S5 : Sta w 54 [(1, (.box 35 (TR (Vv nD D K) (Mv nL L K) (QV nT ts K) (PR (Zv rn K) (Zv rd K)))))] [(23, bF)] _ _ _)
    refine wp_cond_false (S5.bool 0 23 rfl) ?_
    refine wp_stmt_seq [.val (Part a5 1 2), .val (QV nT ts K), kF, kT, kT, .off, .off, .off, .off, .off, kT, kT, .off, .off, .off, .off, .off, kT, kT] [.inr 0] [.inl 18] follows S5 rfl (by kernel_rfl) ?_ ?_
    · repeat' refine And.intro ?_ ?_
      · trivial
      · exact owe_part rfl wA rfl (k := 0) rfl (by kernel_rfl) rfl (fun ρ w b h => part_tree1 ρ _ _ w b 0 h)
      · exact owe_pload rfl wA rfl (oO 0 36) (k := 0) rfl (by kernel_rfl) rfl (fun ρ w b u h1 h2 h3 => pload_tr2 ρ _ _ w b u h1 h2 h3)
      · exact ch1 wA (qO 1 37 rfl) (fresh_is _) (fun w u h => mayb_f w u nT K ts h (by omega) (by omega) lT i0 (by omega) g6 g7)
      · exact b_not wA (oO 2 38)
      · exact mO 3 39
      · exact oF 4 40
      · exact oF 4 40
      · exact oF 4 40
      · exact oF 4 40
      · exact oF 4 40
      · exact pT wA (oO 4 40) (opnd_const _)
      · exact mO 10 46
      · exact oF 11 47
      · exact oF 11 47
      · exact oF 11 47
      · exact oF 11 47
      · exact oF 11 47
      · exact pT wA (oO 11 47) (opnd_const _)
      · exact mO 17 53
    intro B6 a6 W6 (S6 : Sta w 54 [(1, (.box 35 (TR (Vv nD D K) (Mv nL L K) (QV nT ts K) (PR (Zv rn K) (Zv rd K)))))] [(35, bT)] _ _ _)
    refine wp_cond_true (S6.bool 0 35 rfl) ?_
    refine wp_stmt_seq [.val (iV 110)] [.inr 0] [.inl 0] follows S6 rfl (by kernel_rfl) ?_ ?_
    · refine ⟨trivial, ?_⟩
      · exact mC
    intro B7 a7 W7 (S7 : Sta w 54 [(1, (.box 35 (TR (Vv nD D K) (Mv nL L K) (QV nT ts K) (PR (Zv rn K) (Zv rd K)))))] [(2, iV 110)] _ _ _)
    refine wp_ret ?_
    refine inBlkR ?_
    refine thenR ?_
    exact end_one S7 rfl (res_tmp S7 0 2 rfl)
  · skip
    refine wp_stmt_seq [.val (Part a1 1 0), .val (SF [(Vv nD D K), (Mv nL L K)]), .val ((TWO (RN 1 1) (IS (.int .i64 0))) w.heap.size), .val ((TWO (RN 1 1) (IS (.int .i64 0))) w.heap.size), .val ((RN 1 1) w.heap.size), .val (iV 0), .new (.box 33 zR), .put (.inr 6) (.box 33 ((RN 1 1) w.heap.size)), .val (iV 0)] [.inr 0, .inl 6] [.inl 8] follows S1 rfl (by kernel_rfl) ?_ ?_
    · repeat' refine And.intro ?_ ?_
      · trivial
      · exact owe_part rfl wA rfl (k := 0) rfl (by kernel_rfl) rfl (fun ρ w b h => part_tree0 ρ _ _ w b 0 h)
      · exact owe_pload rfl wA rfl (oO 0 7) (k := 0) rfl (by kernel_rfl) rfl (fun ρ w b u h1 h2 h3 => pload_tr0 ρ _ _ w b u h1 h2 h3)
      · exact ch3 wA (qO 1 8 rfl) (opnd_const _) (opnd_const _) (fresh_two (fresh_rn _ _) (fresh_is _)) (fun w u0 u1 u2 h0 h1 h2 => by obtain rfl : u1 = _ := h1.now; obtain rfl : u2 = _ := h2.now; exact mu_e w u0 nD nL K D L h0 hD hL hK lD lL 0 g (by have := g.some; omega))
      · exact mO 2 9
      · exact e20 wA (oO 3 6)
      · exact e21 wA (oO 3 6)
      · exact owe_new rfl wA rfl rfl (fun ρ w => alloc_rat ρ _ w)
      · exact owe_put 6 rfl wA rfl (by kernel_rfl) rfl (oO 4 10) (stores_of strct_rat shp_r0 (shp_pr shp_zn shp_zn)) rfl
      · exact mO 5 11
    intro B2 a2 W2 (S2 : Sta w 54 [(1, (.box 35 (TR (Vv nD D K) (Mv nL L K) (QV nT ts K) (PR (Zv rn K) (Zv rd K))))), (3, (.box 33 ((RN 1 1) w.heap.size)))] [(4, iV 0)] _ _ _)
    refine wp_stmt_seq [.val (Part a2 1 0), .val (Part a2 1 1), .val (Mv nL L K), .val (iV (nL : Nat)), .val (iV (nL : Nat))] [.inr 0] [.inl 4, .inr 0] follows S2 rfl (by kernel_rfl) ?_ ?_
    · refine ⟨⟨⟨⟨⟨trivial, ?_⟩, ?_⟩, ?_⟩, ?_⟩, ?_⟩
      · exact owe_part rfl wA rfl (k := 0) rfl (by kernel_rfl) rfl (fun ρ w b h => part_tree0 ρ _ _ w b 0 h)
      · exact owe_part2 rfl wA rfl (oO 0 12) rfl (fun ρ w b h => part_gso1 ρ _ _ w b 0 h)
      · exact owe_pload rfl wA rfl (oO 1 13) (k := 0) rfl (by kernel_rfl) rfl (fun ρ w b u h1 h2 h3 => pload_tr1 ρ _ _ w b u h1 h2 h3)
      · exact owe_len rfl wA rfl (oO 2 14) ar_len Try.underlying25 rfl
      · exact mO 3 15
    intro B3 a3 W3 (S3 : Sta w 54 [(1, (.box 35 (TR (Vv nD D K) (Mv nL L K) (QV nT ts K) (PR (Zv rn K) (Zv rd K)))))] [(5, iV (nL : Nat)), (4, iV 0)] _ _ _)
    refine wp_seq ?_
    refine wp_block ?_
    refine wp_stmt_seq [.val (iV 0), kF, kF, .val (iV (nL : Nat)), kF, kF, kF] [.inr 0] [.inl 6, .inr 0] follows S3 rfl (by kernel_rfl) ?_ ?_
    · repeat' refine And.intro ?_ ?_
      · trivial
      · exact mS 1 4
      · exact b_neq_errno_f wA (oO 0 17) (opnd_const _) (h := by decide)
      · exact mO 1 18
      · exact mW (wI 2 19) (oS 0 5)
      · exact b_gtr_int_f (wI 2 19) (oO 3 20) (opnd_const _)
      · exact pF wA (oO 2 19) (oO 4 21)
      · exact mO 5 22
    intro B4 a4 W4 (S4 : Sta w 54 [(1, (.box 35 (TR (Vv nD D K) (Mv nL L K) (QV nT ts K) (PR (Zv rn K) (Zv rd K)))))] [(16, bF), (5, iV (nL : Nat))] _ _ _)
    refine wp_cond_false (S4.bool 0 16 rfl) ?_
    rcases hl with hl | ⟨hl, hl2⟩
    · skip
      refine wp_stmt_seq [.val (Part a4 1 2), .val (QV nT ts K), .val (iV (nT : Nat)), kF, kF, .off, .off, .off, .off, .off, kF, kF] [.inr 0] [.inl 11] follows S4 rfl (by kernel_rfl) ?_ ?_
      · repeat' refine And.intro ?_ ?_
        · trivial
        · exact owe_part rfl wA rfl (k := 0) rfl (by kernel_rfl) rfl (fun ρ w b h => part_tree1 ρ _ _ w b 0 h)
        · exact owe_pload rfl wA rfl (oO 0 24) (k := 0) rfl (by kernel_rfl) rfl (fun ρ w b u h1 h2 h3 => pload_tr2 ρ _ _ w b u h1 h2 h3)
        · exact owe_len rfl wA rfl (oO 1 25) ar_len Try.underlying28 rfl
        · exact b_neq_int_f wA (oO 2 26) (opnd_const _)
        · exact mO 3 27
        · exact oF 4 28
        · exact oF 4 28
        · exact oF 4 28
        · exact oF 4 28
        · exact oF 4 28
        · exact pF wA (oO 4 28) (opnd_const _)
        · exact mO 10 34
      intro B5 a5 W5 (S5 : Sta w 54 [(1, (.box 35 (TR (Vv nD D K) (Mv nL L K) (QV nT ts K) (PR (Zv rn K) (Zv rd K)))))] [(23, bF)] _ _ _)
      refine wp_cond_false (S5.bool 0 23 rfl) ?_
      refine wp_stmt_seq [.val (Part a5 1 2), .val (QV nT ts K), kT, kF, kF, .val (Part a5 1 3), .val (PR (Zv rn K) (Zv rd K)), .val (Sng 33 4 (PR (Zv rn K) (Zv rd K)) w.heap.size), kF, kT, kT, kT, .off, .off, .off, .off, .off, kT, kT] [.inr 0] [.inl 18] follows S5 rfl (by kernel_rfl) ?_ ?_
      · repeat' refine And.intro ?_ ?_
        · trivial
        · exact owe_part rfl wA rfl (k := 0) rfl (by kernel_rfl) rfl (fun ρ w b h => part_tree1 ρ _ _ w b 0 h)
        · exact owe_pload rfl wA rfl (oO 0 36) (k := 0) rfl (by kernel_rfl) rfl (fun ρ w b u h1 h2 h3 => pload_tr2 ρ _ _ w b u h1 h2 h3)
        · exact ch1 wA (qO 1 37 rfl) (fresh_is _) (fun w u h => mayb_t w u nT K ts h (by omega) (by omega) lT (fun i hi => g5 i (by omega)))
        · exact b_not wA (oO 2 38)
        · exact mO 3 39
        · exact owe_part rfl (wI 4 40) rfl (k := 0) rfl (by kernel_rfl) rfl (fun ρ w b h => part_tree2 ρ _ _ w b 0 h)
        · exact owe_pload rfl (wI 4 40) rfl (oO 5 41) (k := 0) rfl (by kernel_rfl) rfl (fun ρ w b u h1 h2 h3 => pload_tr3 ρ _ _ w b u h1 h2 h3)
        · exact owe_b1 rfl (wI 4 40) rfl bld_rat4 (oO 6 42) (cel_shp (by decide) (shp_pr shp_zv shp_zv)) rfl
        · exact ch1 (wI 4 40) ((qO 7 43 rfl).imp sng_ar1) (fresh_is _) (fun w u h => mayb_f w u 1 K [(rn, rd)] h (by omega) (by omega) rfl 0 (by omega) (fun i hi => by omega) g6)
        · exact b_not (wI 4 40) (oO 8 44)
        · exact pF wA (oO 4 40) (oO 9 45)
        · exact mO 10 46
        · exact oF 11 47
        · exact oF 11 47
        · exact oF 11 47
        · exact oF 11 47
        · exact oF 11 47
        · exact pT wA (oO 11 47) (opnd_const _)
        · exact mO 17 53
      intro B6 a6 W6 (S6 : Sta w 54 [(1, (.box 35 (TR (Vv nD D K) (Mv nL L K) (QV nT ts K) (PR (Zv rn K) (Zv rd K)))))] [(35, bT)] _ _ _)
      refine wp_cond_true (S6.bool 0 35 rfl) ?_
      refine wp_stmt_seq [.val (iV 110)] [.inr 0] [.inl 0] follows S6 rfl (by kernel_rfl) ?_ ?_
      · refine ⟨trivial, ?_⟩
        · exact mC
      intro B7 a7 W7 (S7 : Sta w 54 [(1, (.box 35 (TR (Vv nD D K) (Mv nL L K) (QV nT ts K) (PR (Zv rn K) (Zv rd K)))))] [(2, iV 110)] _ _ _)
      refine wp_ret ?_
      refine inBlkR ?_
      refine thenR ?_
      exact end_one S7 rfl (res_tmp S7 0 2 rfl)
    · skip
      refine wp_stmt_seq [.val (Part a4 1 2), .val (QV nT ts K), .val (iV (nT : Nat)), kT, kT, .val (Part a4 1 2), .val (QV nT ts K), .val (iV (nT : Nat)), .val (iV (nL : Nat)), kF, kF, kF] [.inr 0] [.inl 11] follows S4 rfl (by kernel_rfl) ?_ ?_
      · repeat' refine And.intro ?_ ?_
        · trivial
        · exact owe_part rfl wA rfl (k := 0) rfl (by kernel_rfl) rfl (fun ρ w b h => part_tree1 ρ _ _ w b 0 h)
        · exact owe_pload rfl wA rfl (oO 0 24) (k := 0) rfl (by kernel_rfl) rfl (fun ρ w b u h1 h2 h3 => pload_tr2 ρ _ _ w b u h1 h2 h3)
        · exact owe_len rfl wA rfl (oO 1 25) ar_len Try.underlying28 rfl
        · exact b_neq_int_t wA (oO 2 26) (opnd_const _)
        · exact mO 3 27
        · exact owe_part rfl (wI 4 28) rfl (k := 0) rfl (by kernel_rfl) rfl (fun ρ w b h => part_tree1 ρ _ _ w b 0 h)
        · exact owe_pload rfl (wI 4 28) rfl (oO 5 29) (k := 0) rfl (by kernel_rfl) rfl (fun ρ w b u h1 h2 h3 => pload_tr2 ρ _ _ w b u h1 h2 h3)
        · exact owe_len rfl (wI 4 28) rfl (oO 6 30) ar_len Try.underlying28 rfl
        · exact mW (wI 4 28) (oS 1 5)
        · exact b_neq_int_f (wI 4 28) (oO 7 31) (oO 8 32)
        · exact pT wA (oO 4 28) (oO 9 33)
        · exact mO 10 34
      intro B5 a5 W5 (S5 : Sta w 54 [(1, (.box 35 (TR (Vv nD D K) (Mv nL L K) (QV nT ts K) (PR (Zv rn K) (Zv rd K)))))] [(23, bF)] _ _ _)
      refine wp_cond_false (S5.bool 0 23 rfl) ?_
      refine wp_stmt_seq [.val (Part a5 1 2), .val (QV nT ts K), kT, kF, kF, .val (Part a5 1 3), .val (PR (Zv rn K) (Zv rd K)), .val (Sng 33 4 (PR (Zv rn K) (Zv rd K)) w.heap.size), kF, kT, kT, kT, .off, .off, .off, .off, .off, kT, kT] [.inr 0] [.inl 18] follows S5 rfl (by kernel_rfl) ?_ ?_
      · repeat' refine And.intro ?_ ?_
        · trivial
        · exact owe_part rfl wA rfl (k := 0) rfl (by kernel_rfl) rfl (fun ρ w b h => part_tree1 ρ _ _ w b 0 h)
        · exact owe_pload rfl wA rfl (oO 0 36) (k := 0) rfl (by kernel_rfl) rfl (fun ρ w b u h1 h2 h3 => pload_tr2 ρ _ _ w b u h1 h2 h3)
        · exact ch1 wA (qO 1 37 rfl) (fresh_is _) (fun w u h => mayb_t w u nT K ts h (by omega) (by omega) lT (fun i hi => g5 i (by omega)))
        · exact b_not wA (oO 2 38)
        · exact mO 3 39
        · exact owe_part rfl (wI 4 40) rfl (k := 0) rfl (by kernel_rfl) rfl (fun ρ w b h => part_tree2 ρ _ _ w b 0 h)
        · exact owe_pload rfl (wI 4 40) rfl (oO 5 41) (k := 0) rfl (by kernel_rfl) rfl (fun ρ w b u h1 h2 h3 => pload_tr3 ρ _ _ w b u h1 h2 h3)
        · exact owe_b1 rfl (wI 4 40) rfl bld_rat4 (oO 6 42) (cel_shp (by decide) (shp_pr shp_zv shp_zv)) rfl
        · exact ch1 (wI 4 40) ((qO 7 43 rfl).imp sng_ar1) (fresh_is _) (fun w u h => mayb_f w u 1 K [(rn, rd)] h (by omega) (by omega) rfl 0 (by omega) (fun i hi => by omega) g6)
        · exact b_not (wI 4 40) (oO 8 44)
        · exact pF wA (oO 4 40) (oO 9 45)
        · exact mO 10 46
        · exact oF 11 47
        · exact oF 11 47
        · exact oF 11 47
        · exact oF 11 47
        · exact oF 11 47
        · exact pT wA (oO 11 47) (opnd_const _)
        · exact mO 17 53
      intro B6 a6 W6 (S6 : Sta w 54 [(1, (.box 35 (TR (Vv nD D K) (Mv nL L K) (QV nT ts K) (PR (Zv rn K) (Zv rd K)))))] [(35, bT)] _ _ _)
      refine wp_cond_true (S6.bool 0 35 rfl) ?_
      refine wp_stmt_seq [.val (iV 110)] [.inr 0] [.inl 0] follows S6 rfl (by kernel_rfl) ?_ ?_
      · refine ⟨trivial, ?_⟩
        · exact mC
      intro B7 a7 W7 (S7 : Sta w 54 [(1, (.box 35 (TR (Vv nD D K) (Mv nL L K) (QV nT ts K) (PR (Zv rn K) (Zv rd K)))))] [(2, iV 110)] _ _ _)
      refine wp_ret ?_
      refine inBlkR ?_
      refine thenR ?_
      exact end_one S7 rfl (res_tmp S7 0 2 rfl)
  · skip
    have hs : rn.sign < 0 := by rw [Int.sign_eq_neg_one_of_neg g7]; omega
    refine wp_stmt_seq [.val (Part a1 1 0), .val (SF [(Vv nD D K), (Mv nL L K)]), .val ((TWO (RN 1 1) (IS (.int .i64 0))) w.heap.size), .val ((TWO (RN 1 1) (IS (.int .i64 0))) w.heap.size), .val ((RN 1 1) w.heap.size), .val (iV 0), .new (.box 33 zR), .put (.inr 6) (.box 33 ((RN 1 1) w.heap.size)), .val (iV 0)] [.inr 0, .inl 6] [.inl 8] follows S1 rfl (by kernel_rfl) ?_ ?_
    · repeat' refine And.intro ?_ ?_
      · trivial
      · exact owe_part rfl wA rfl (k := 0) rfl (by kernel_rfl) rfl (fun ρ w b h => part_tree0 ρ _ _ w b 0 h)
      · exact owe_pload rfl wA rfl (oO 0 7) (k := 0) rfl (by kernel_rfl) rfl (fun ρ w b u h1 h2 h3 => pload_tr0 ρ _ _ w b u h1 h2 h3)
      · exact ch3 wA (qO 1 8 rfl) (opnd_const _) (opnd_const _) (fresh_two (fresh_rn _ _) (fresh_is _)) (fun w u0 u1 u2 h0 h1 h2 => by obtain rfl : u1 = _ := h1.now; obtain rfl : u2 = _ := h2.now; exact mu_e w u0 nD nL K D L h0 hD hL hK lD lL 0 g (by have := g.some; omega))
      · exact mO 2 9
      · exact e20 wA (oO 3 6)
      · exact e21 wA (oO 3 6)
      · exact owe_new rfl wA rfl rfl (fun ρ w => alloc_rat ρ _ w)
      · exact owe_put 6 rfl wA rfl (by kernel_rfl) rfl (oO 4 10) (stores_of strct_rat shp_r0 (shp_pr shp_zn shp_zn)) rfl
      · exact mO 5 11
    intro B2 a2 W2 (S2 : Sta w 54 [(1, (.box 35 (TR (Vv nD D K) (Mv nL L K) (QV nT ts K) (PR (Zv rn K) (Zv rd K))))), (3, (.box 33 ((RN 1 1) w.heap.size)))] [(4, iV 0)] _ _ _)
    refine wp_stmt_seq [.val (Part a2 1 0), .val (Part a2 1 1), .val (Mv nL L K), .val (iV (nL : Nat)), .val (iV (nL : Nat))] [.inr 0] [.inl 4, .inr 0] follows S2 rfl (by kernel_rfl) ?_ ?_
    · refine ⟨⟨⟨⟨⟨trivial, ?_⟩, ?_⟩, ?_⟩, ?_⟩, ?_⟩
      · exact owe_part rfl wA rfl (k := 0) rfl (by kernel_rfl) rfl (fun ρ w b h => part_tree0 ρ _ _ w b 0 h)
      · exact owe_part2 rfl wA rfl (oO 0 12) rfl (fun ρ w b h => part_gso1 ρ _ _ w b 0 h)
      · exact owe_pload rfl wA rfl (oO 1 13) (k := 0) rfl (by kernel_rfl) rfl (fun ρ w b u h1 h2 h3 => pload_tr1 ρ _ _ w b u h1 h2 h3)
      · exact owe_len rfl wA rfl (oO 2 14) ar_len Try.underlying25 rfl
      · exact mO 3 15
    intro B3 a3 W3 (S3 : Sta w 54 [(1, (.box 35 (TR (Vv nD D K) (Mv nL L K) (QV nT ts K) (PR (Zv rn K) (Zv rd K)))))] [(5, iV (nL : Nat)), (4, iV 0)] _ _ _)
    refine wp_seq ?_
    refine wp_block ?_
    refine wp_stmt_seq [.val (iV 0), kF, kF, .val (iV (nL : Nat)), kF, kF, kF] [.inr 0] [.inl 6, .inr 0] follows S3 rfl (by kernel_rfl) ?_ ?_
    · repeat' refine And.intro ?_ ?_
      · trivial
      · exact mS 1 4
      · exact b_neq_errno_f wA (oO 0 17) (opnd_const _) (h := by decide)
      · exact mO 1 18
      · exact mW (wI 2 19) (oS 0 5)
      · exact b_gtr_int_f (wI 2 19) (oO 3 20) (opnd_const _)
      · exact pF wA (oO 2 19) (oO 4 21)
      · exact mO 5 22
    intro B4 a4 W4 (S4 : Sta w 54 [(1, (.box 35 (TR (Vv nD D K) (Mv nL L K) (QV nT ts K) (PR (Zv rn K) (Zv rd K)))))] [(16, bF), (5, iV (nL : Nat))] _ _ _)
    refine wp_cond_false (S4.bool 0 16 rfl) ?_
    rcases hl with hl | ⟨hl, hl2⟩
    · skip
      refine wp_stmt_seq [.val (Part a4 1 2), .val (QV nT ts K), .val (iV (nT : Nat)), kF, kF, .off, .off, .off, .off, .off, kF, kF] [.inr 0] [.inl 11] follows S4 rfl (by kernel_rfl) ?_ ?_
      · repeat' refine And.intro ?_ ?_
        · trivial
        · exact owe_part rfl wA rfl (k := 0) rfl (by kernel_rfl) rfl (fun ρ w b h => part_tree1 ρ _ _ w b 0 h)
        · exact owe_pload rfl wA rfl (oO 0 24) (k := 0) rfl (by kernel_rfl) rfl (fun ρ w b u h1 h2 h3 => pload_tr2 ρ _ _ w b u h1 h2 h3)
        · exact owe_len rfl wA rfl (oO 1 25) ar_len Try.underlying28 rfl
        · exact b_neq_int_f wA (oO 2 26) (opnd_const _)
        · exact mO 3 27
        · exact oF 4 28
        · exact oF 4 28
        · exact oF 4 28
        · exact oF 4 28
        · exact oF 4 28
        · exact pF wA (oO 4 28) (opnd_const _)
        · exact mO 10 34
      intro B5 a5 W5 (S5 : Sta w 54 [(1, (.box 35 (TR (Vv nD D K) (Mv nL L K) (QV nT ts K) (PR (Zv rn K) (Zv rd K)))))] [(23, bF)] _ _ _)
      refine wp_cond_false (S5.bool 0 23 rfl) ?_
      refine wp_stmt_seq [.val (Part a5 1 2), .val (QV nT ts K), kT, kF, kF, .val (Part a5 1 3), .val (PR (Zv rn K) (Zv rd K)), .val (Sng 33 4 (PR (Zv rn K) (Zv rd K)) w.heap.size), kT, kF, kF, kF, .val (Part a5 1 3), .val (Part a5 1 3), .val (Zv rn K), .val (iV ((rn).sign)), kT, kT, kT] [.inr 0] [.inl 18] follows S5 rfl (by kernel_rfl) ?_ ?_
      · repeat' refine And.intro ?_ ?_
        · trivial
        · exact owe_part rfl wA rfl (k := 0) rfl (by kernel_rfl) rfl (fun ρ w b h => part_tree1 ρ _ _ w b 0 h)
        · exact owe_pload rfl wA rfl (oO 0 36) (k := 0) rfl (by kernel_rfl) rfl (fun ρ w b u h1 h2 h3 => pload_tr2 ρ _ _ w b u h1 h2 h3)
        · exact ch1 wA (qO 1 37 rfl) (fresh_is _) (fun w u h => mayb_t w u nT K ts h (by omega) (by omega) lT (fun i hi => g5 i (by omega)))
        · exact b_not wA (oO 2 38)
        · exact mO 3 39
        · exact owe_part rfl (wI 4 40) rfl (k := 0) rfl (by kernel_rfl) rfl (fun ρ w b h => part_tree2 ρ _ _ w b 0 h)
        · exact owe_pload rfl (wI 4 40) rfl (oO 5 41) (k := 0) rfl (by kernel_rfl) rfl (fun ρ w b u h1 h2 h3 => pload_tr3 ρ _ _ w b u h1 h2 h3)
        · exact owe_b1 rfl (wI 4 40) rfl bld_rat4 (oO 6 42) (cel_shp (by decide) (shp_pr shp_zv shp_zv)) rfl
        · exact ch1 (wI 4 40) ((qO 7 43 rfl).imp sng_ar1) (fresh_is _) (fun w u h => mayb_t w u 1 K [(rn, rd)] h (by omega) (by omega) rfl (one_lt g6))
        · exact b_not (wI 4 40) (oO 8 44)
        · exact pF wA (oO 4 40) (oO 9 45)
        · exact mO 10 46
        · exact owe_part rfl (wI 11 47) rfl (k := 0) rfl (by kernel_rfl) rfl (fun ρ w b h => part_tree2 ρ _ _ w b 0 h)
        · exact owe_part2 rfl (wI 11 47) rfl (oO 12 48) rfl (fun ρ w b h => part_rat0 ρ _ _ w b 3 h)
        · exact owe_pload rfl (wI 11 47) rfl (oO 13 49) (k := 0) rfl (by kernel_rfl) rfl (fun ρ w b u h1 h2 h3 => pload_trn ρ _ _ w b u h1 h2 h3)
        · exact cc1 (wI 11 47) (qO 14 50 rfl) (fresh_is _) (fun w u h1 => h_zsign (by omega) w u ((fun _ _ h => h) _ _ h1))
        · exact b_lss_int_t (wI 11 47) (oO 15 51) (opnd_const _)
        · exact pF wA (oO 11 47) (oO 16 52)
        · exact mO 17 53
      intro B6 a6 W6 (S6 : Sta w 54 [(1, (.box 35 (TR (Vv nD D K) (Mv nL L K) (QV nT ts K) (PR (Zv rn K) (Zv rd K)))))] [(35, bT)] _ _ _)
      refine wp_cond_true (S6.bool 0 35 rfl) ?_
      refine wp_stmt_seq [.val (iV 110)] [.inr 0] [.inl 0] follows S6 rfl (by kernel_rfl) ?_ ?_
      · refine ⟨trivial, ?_⟩
        · exact mC
      intro B7 a7 W7 (S7 : Sta w 54 [(1, (.box 35 (TR (Vv nD D K) (Mv nL L K) (QV nT ts K) (PR (Zv rn K) (Zv rd K)))))] [(2, iV 110)] _ _ _)
      refine wp_ret ?_
      refine inBlkR ?_
      refine thenR ?_
      exact end_one S7 rfl (res_tmp S7 0 2 rfl)
    · skip
      refine wp_stmt_seq [.val (Part a4 1 2), .val (QV nT ts K), .val (iV (nT : Nat)), kT, kT, .val (Part a4 1 2), .val (QV nT ts K), .val (iV (nT : Nat)), .val (iV (nL : Nat)), kF, kF, kF] [.inr 0] [.inl 11] follows S4 rfl (by kernel_rfl) ?_ ?_
      · repeat' refine And.intro ?_ ?_
        · trivial
        · exact owe_part rfl wA rfl (k := 0) rfl (by kernel_rfl) rfl (fun ρ w b h => part_tree1 ρ _ _ w b 0 h)
        · exact owe_pload rfl wA rfl (oO 0 24) (k := 0) rfl (by kernel_rfl) rfl (fun ρ w b u h1 h2 h3 => pload_tr2 ρ _ _ w b u h1 h2 h3)
        · exact owe_len rfl wA rfl (oO 1 25) ar_len Try.underlying28 rfl
        · exact b_neq_int_t wA (oO 2 26) (opnd_const _)
        · exact mO 3 27
        · exact owe_part rfl (wI 4 28) rfl (k := 0) rfl (by kernel_rfl) rfl (fun ρ w b h => part_tree1 ρ _ _ w b 0 h)
        · exact owe_pload rfl (wI 4 28) rfl (oO 5 29) (k := 0) rfl (by kernel_rfl) rfl (fun ρ w b u h1 h2 h3 => pload_tr2 ρ _ _ w b u h1 h2 h3)
        · exact owe_len rfl (wI 4 28) rfl (oO 6 30) ar_len Try.underlying28 rfl
        · exact mW (wI 4 28) (oS 1 5)
        · exact b_neq_int_f (wI 4 28) (oO 7 31) (oO 8 32)
        · exact pT wA (oO 4 28) (oO 9 33)
        · exact mO 10 34
      intro B5 a5 W5 (S5 : Sta w 54 [(1, (.box 35 (TR (Vv nD D K) (Mv nL L K) (QV nT ts K) (PR (Zv rn K) (Zv rd K)))))] [(23, bF)] _ _ _)
      refine wp_cond_false (S5.bool 0 23 rfl) ?_
      refine wp_stmt_seq [.val (Part a5 1 2), .val (QV nT ts K), kT, kF, kF, .val (Part a5 1 3), .val (PR (Zv rn K) (Zv rd K)), .val (Sng 33 4 (PR (Zv rn K) (Zv rd K)) w.heap.size), kT, kF, kF, kF, .val (Part a5 1 3), .val (Part a5 1 3), .val (Zv rn K), .val (iV ((rn).sign)), kT, kT, kT] [.inr 0] [.inl 18] follows S5 rfl (by kernel_rfl) ?_ ?_
      · repeat' refine And.intro ?_ ?_
        · trivial
        · exact owe_part rfl wA rfl (k := 0) rfl (by kernel_rfl) rfl (fun ρ w b h => part_tree1 ρ _ _ w b 0 h)
        · exact owe_pload rfl wA rfl (oO 0 36) (k := 0) rfl (by kernel_rfl) rfl (fun ρ w b u h1 h2 h3 => pload_tr2 ρ _ _ w b u h1 h2 h3)
        · exact ch1 wA (qO 1 37 rfl) (fresh_is _) (fun w u h => mayb_t w u nT K ts h (by omega) (by omega) lT (fun i hi => g5 i (by omega)))
        · exact b_not wA (oO 2 38)
        · exact mO 3 39
        · exact owe_part rfl (wI 4 40) rfl (k := 0) rfl (by kernel_rfl) rfl (fun ρ w b h => part_tree2 ρ _ _ w b 0 h)
        · exact owe_pload rfl (wI 4 40) rfl (oO 5 41) (k := 0) rfl (by kernel_rfl) rfl (fun ρ w b u h1 h2 h3 => pload_tr3 ρ _ _ w b u h1 h2 h3)
        · exact owe_b1 rfl (wI 4 40) rfl bld_rat4 (oO 6 42) (cel_shp (by decide) (shp_pr shp_zv shp_zv)) rfl
        · exact ch1 (wI 4 40) ((qO 7 43 rfl).imp sng_ar1) (fresh_is _) (fun w u h => mayb_t w u 1 K [(rn, rd)] h (by omega) (by omega) rfl (one_lt g6))
        · exact b_not (wI 4 40) (oO 8 44)
        · exact pF wA (oO 4 40) (oO 9 45)
        · exact mO 10 46
        · exact owe_part rfl (wI 11 47) rfl (k := 0) rfl (by kernel_rfl) rfl (fun ρ w b h => part_tree2 ρ _ _ w b 0 h)
        · exact owe_part2 rfl (wI 11 47) rfl (oO 12 48) rfl (fun ρ w b h => part_rat0 ρ _ _ w b 3 h)
        · exact owe_pload rfl (wI 11 47) rfl (oO 13 49) (k := 0) rfl (by kernel_rfl) rfl (fun ρ w b u h1 h2 h3 => pload_trn ρ _ _ w b u h1 h2 h3)
        · exact cc1 (wI 11 47) (qO 14 50 rfl) (fresh_is _) (fun w u h1 => h_zsign (by omega) w u ((fun _ _ h => h) _ _ h1))
        · exact b_lss_int_t (wI 11 47) (oO 15 51) (opnd_const _)
        · exact pF wA (oO 11 47) (oO 16 52)
        · exact mO 17 53
      intro B6 a6 W6 (S6 : Sta w 54 [(1, (.box 35 (TR (Vv nD D K) (Mv nL L K) (QV nT ts K) (PR (Zv rn K) (Zv rd K)))))] [(35, bT)] _ _ _)
      refine wp_cond_true (S6.bool 0 35 rfl) ?_
      refine wp_stmt_seq [.val (iV 110)] [.inr 0] [.inl 0] follows S6 rfl (by kernel_rfl) ?_ ?_
      · refine ⟨trivial, ?_⟩
        · exact mC
      intro B7 a7 W7 (S7 : Sta w 54 [(1, (.box 35 (TR (Vv nD D K) (Mv nL L K) (QV nT ts K) (PR (Zv rn K) (Zv rd K)))))] [(2, iV 110)] _ _ _)
      refine wp_ret ?_
      refine inBlkR ?_
      refine thenR ?_
      exact end_one S7 rfl (res_tmp S7 0 2 rfl)

set_option maxHeartbeats 4000000 in
theorem tval_g (w : World) (u : Value) (nD nL nT K : Nat) (D : List Int) (L : List (List Int)) (ts : List (Int × Int)) (rn rd : Int) (h : Hs w (TR (Vv nD D K) (Mv nL L K) (QV nT ts K) (PR (Zv rn K) (Zv rd K))) u) (hD : nD ≤ 1048576) (hL : nL ≤ 1048576) (hT : nT ≤ 1048576) (hK : K ≤ 1048576) (lD : D.length = nD) (lL : L.length = nL) (lT : ts.length = nT) (tg : TGood D L ts rn rd) :
    Calls Try.prog 4 #[u] w (Gives (IS (.int .i64 0)) w) := by
  obtain ⟨g, g1, hl, g5, g6, g7⟩ := tg
  have hs : 0 ≤ rn.sign := sgn_nn g7
  refine calls_sta (sl := [(0, (TR (Vv nD D K) (Mv nL L K) (QV nT ts K) (PR (Zv rn K) (Zv rd K))))]) Try.func4 rfl Try.ntmps4 (by simp) (args_cons rfl (h) args_nil) ?_
  intro a0 S0
  refine wp_stmt_seq [.new (.box 35 (TR (Vv nD D K) (Mv nL L K) (QV nT ts K) (PR (Zv rn K) (Zv rd K)))), .val (iV 0)] [.inl 0] [] follows S0 rfl (by kernel_rfl) ?_ ?_
  · refine ⟨⟨trivial, ?_⟩, ?_⟩
    · exact owe_box rfl wA rfl (oS 0 0) rfl (fun ρ w h => box_tree shp_tr ρ _ _ w h)
    · exact mC
  intro B1 a1 W1 (S1 : Sta w 54 [(1, (.box 35 (TR (Vv nD D K) (Mv nL L K) (QV nT ts K) (PR (Zv rn K) (Zv rd K)))))] [] _ _ _)
  refine wp_stmt_seq [.val (Part a1 1 0), .val (SF [(Vv nD D K), (Mv nL L K)]), .val ((TWO (RN 1 1) (IS (.int .i64 0))) w.heap.size), .val ((TWO (RN 1 1) (IS (.int .i64 0))) w.heap.size), .val ((RN 1 1) w.heap.size), .val (iV 0), .new (.box 33 zR), .put (.inr 6) (.box 33 ((RN 1 1) w.heap.size)), .val (iV 0)] [.inr 0, .inl 6] [.inl 8] follows S1 rfl (by kernel_rfl) ?_ ?_
  · repeat' refine And.intro ?_ ?_
    · trivial
    · exact owe_part rfl wA rfl (k := 0) rfl (by kernel_rfl) rfl (fun ρ w b h => part_tree0 ρ _ _ w b 0 h)
    · exact owe_pload rfl wA rfl (oO 0 7) (k := 0) rfl (by kernel_rfl) rfl (fun ρ w b u h1 h2 h3 => pload_tr0 ρ _ _ w b u h1 h2 h3)
    · exact ch3 wA (qO 1 8 rfl) (opnd_const _) (opnd_const _) (fresh_two (fresh_rn _ _) (fresh_is _)) (fun w u0 u1 u2 h0 h1 h2 => by obtain rfl : u1 = _ := h1.now; obtain rfl : u2 = _ := h2.now; exact mu_e w u0 nD nL K D L h0 hD hL hK lD lL 0 g (by have := g.some; omega))
    · exact mO 2 9
    · exact e20 wA (oO 3 6)
    · exact e21 wA (oO 3 6)
    · exact owe_new rfl wA rfl rfl (fun ρ w => alloc_rat ρ _ w)
    · exact owe_put 6 rfl wA rfl (by kernel_rfl) rfl (oO 4 10) (stores_of strct_rat shp_r0 (shp_pr shp_zn shp_zn)) rfl
    · exact mO 5 11
  intro B2 a2 W2 (S2 : Sta w 54 [(1, (.box 35 (TR (Vv nD D K) (Mv nL L K) (QV nT ts K) (PR (Zv rn K) (Zv rd K))))), (3, (.box 33 ((RN 1 1) w.heap.size)))] [(4, iV 0)] _ _ _)
  refine wp_stmt_seq [.val (Part a2 1 0), .val (Part a2 1 1), .val (Mv nL L K), .val (iV (nL : Nat)), .val (iV (nL : Nat))] [.inr 0] [.inl 4, .inr 0] follows S2 rfl (by kernel_rfl) ?_ ?_
  · refine ⟨⟨⟨⟨⟨trivial, ?_⟩, ?_⟩, ?_⟩, ?_⟩, ?_⟩
    · exact owe_part rfl wA rfl (k := 0) rfl (by kernel_rfl) rfl (fun ρ w b h => part_tree0 ρ _ _ w b 0 h)
    · exact owe_part2 rfl wA rfl (oO 0 12) rfl (fun ρ w b h => part_gso1 ρ _ _ w b 0 h)
    · exact owe_pload rfl wA rfl (oO 1 13) (k := 0) rfl (by kernel_rfl) rfl (fun ρ w b u h1 h2 h3 => pload_tr1 ρ _ _ w b u h1 h2 h3)
    · exact owe_len rfl wA rfl (oO 2 14) ar_len Try.underlying25 rfl
    · exact mO 3 15
  intro B3 a3 W3 (S3 : Sta w 54 [(1, (.box 35 (TR (Vv nD D K) (Mv nL L K) (QV nT ts K) (PR (Zv rn K) (Zv rd K)))))] [(5, iV (nL : Nat)), (4, iV 0)] _ _ _)
  refine wp_seq ?_
  refine wp_block ?_
  refine wp_stmt_seq [.val (iV 0), kF, kF, .val (iV (nL : Nat)), kF, kF, kF] [.inr 0] [.inl 6, .inr 0] follows S3 rfl (by kernel_rfl) ?_ ?_
  · repeat' refine And.intro ?_ ?_
    · trivial
    · exact mS 1 4
    · exact b_neq_errno_f wA (oO 0 17) (opnd_const _) (h := by decide)
    · exact mO 1 18
    · exact mW (wI 2 19) (oS 0 5)
    · exact b_gtr_int_f (wI 2 19) (oO 3 20) (opnd_const _)
    · exact pF wA (oO 2 19) (oO 4 21)
    · exact mO 5 22
  intro B4 a4 W4 (S4 : Sta w 54 [(1, (.box 35 (TR (Vv nD D K) (Mv nL L K) (QV nT ts K) (PR (Zv rn K) (Zv rd K)))))] [(16, bF), (5, iV (nL : Nat))] _ _ _)
  refine wp_cond_false (S4.bool 0 16 rfl) ?_
  rcases hl with hl | ⟨hl, hl2⟩
  · skip
    refine wp_stmt_seq [.val (Part a4 1 2), .val (QV nT ts K), .val (iV (nT : Nat)), kF, kF, .off, .off, .off, .off, .off, kF, kF] [.inr 0] [.inl 11] follows S4 rfl (by kernel_rfl) ?_ ?_
    · repeat' refine And.intro ?_ ?_
      · trivial
      · exact owe_part rfl wA rfl (k := 0) rfl (by kernel_rfl) rfl (fun ρ w b h => part_tree1 ρ _ _ w b 0 h)
      · exact owe_pload rfl wA rfl (oO 0 24) (k := 0) rfl (by kernel_rfl) rfl (fun ρ w b u h1 h2 h3 => pload_tr2 ρ _ _ w b u h1 h2 h3)
      · exact owe_len rfl wA rfl (oO 1 25) ar_len Try.underlying28 rfl
      · exact b_neq_int_f wA (oO 2 26) (opnd_const _)
      · exact mO 3 27
      · exact oF 4 28
      · exact oF 4 28
      · exact oF 4 28
      · exact oF 4 28
      · exact oF 4 28
      · exact pF wA (oO 4 28) (opnd_const _)
      · exact mO 10 34
    intro B5 a5 W5 (S5 : Sta w 54 [(1, (.box 35 (TR (Vv nD D K) (Mv nL L K) (QV nT ts K) (PR (Zv rn K) (Zv rd K)))))] [(23, bF)] _ _ _)
    refine wp_cond_false (S5.bool 0 23 rfl) ?_
    refine wp_stmt_seq [.val (Part a5 1 2), .val (QV nT ts K), kT, kF, kF, .val (Part a5 1 3), .val (PR (Zv rn K) (Zv rd K)), .val (Sng 33 4 (PR (Zv rn K) (Zv rd K)) w.heap.size), kT, kF, kF, kF, .val (Part a5 1 3), .val (Part a5 1 3), .val (Zv rn K), .val (iV ((rn).sign)), kF, kF, kF] [.inr 0] [.inl 18] follows S5 rfl (by kernel_rfl) ?_ ?_
    · repeat' refine And.intro ?_ ?_
      · trivial
      · exact owe_part rfl wA rfl (k := 0) rfl (by kernel_rfl) rfl (fun ρ w b h => part_tree1 ρ _ _ w b 0 h)
      · exact owe_pload rfl wA rfl (oO 0 36) (k := 0) rfl (by kernel_rfl) rfl (fun ρ w b u h1 h2 h3 => pload_tr2 ρ _ _ w b u h1 h2 h3)
      · exact ch1 wA (qO 1 37 rfl) (fresh_is _) (fun w u h => mayb_t w u nT K ts h (by omega) (by omega) lT (fun i hi => g5 i (by omega)))
      · exact b_not wA (oO 2 38)
      · exact mO 3 39
      · exact owe_part rfl (wI 4 40) rfl (k := 0) rfl (by kernel_rfl) rfl (fun ρ w b h => part_tree2 ρ _ _ w b 0 h)
      · exact owe_pload rfl (wI 4 40) rfl (oO 5 41) (k := 0) rfl (by kernel_rfl) rfl (fun ρ w b u h1 h2 h3 => pload_tr3 ρ _ _ w b u h1 h2 h3)
      · exact owe_b1 rfl (wI 4 40) rfl bld_rat4 (oO 6 42) (cel_shp (by decide) (shp_pr shp_zv shp_zv)) rfl
      · exact ch1 (wI 4 40) ((qO 7 43 rfl).imp sng_ar1) (fresh_is _) (fun w u h => mayb_t w u 1 K [(rn, rd)] h (by omega) (by omega) rfl (one_lt g6))
      · exact b_not (wI 4 40) (oO 8 44)
      · exact pF wA (oO 4 40) (oO 9 45)
      · exact mO 10 46
      · exact owe_part rfl (wI 11 47) rfl (k := 0) rfl (by kernel_rfl) rfl (fun ρ w b h => part_tree2 ρ _ _ w b 0 h)
      · exact owe_part2 rfl (wI 11 47) rfl (oO 12 48) rfl (fun ρ w b h => part_rat0 ρ _ _ w b 3 h)
      · exact owe_pload rfl (wI 11 47) rfl (oO 13 49) (k := 0) rfl (by kernel_rfl) rfl (fun ρ w b u h1 h2 h3 => pload_trn ρ _ _ w b u h1 h2 h3)
      · exact cc1 (wI 11 47) (qO 14 50 rfl) (fresh_is _) (fun w u h1 => h_zsign (by omega) w u ((fun _ _ h => h) _ _ h1))
      · exact b_lss_int_f (wI 11 47) (oO 15 51) (opnd_const _)
      · exact pF wA (oO 11 47) (oO 16 52)
      · exact mO 17 53
    intro B6 a6 W6 (S6 : Sta w 54 [(1, (.box 35 (TR (Vv nD D K) (Mv nL L K) (QV nT ts K) (PR (Zv rn K) (Zv rd K)))))] [(35, bF)] _ _ _)
    refine wp_cond_false (S6.bool 0 35 rfl) ?_
    refine wp_skip ?_
    refine inBlkN ?_
    refine thenN ?_
    refine wp_stmt_seq [.val (iV 0)] [.inr 0] [.inl 0] follows S6 rfl (by kernel_rfl) ?_ ?_
    · refine ⟨trivial, ?_⟩
      · exact mC
    intro B7 a7 W7 (S7 : Sta w 54 [(1, (.box 35 (TR (Vv nD D K) (Mv nL L K) (QV nT ts K) (PR (Zv rn K) (Zv rd K)))))] [(2, iV 0)] _ _ _)
    refine wp_ret ?_
    exact end_one S7 rfl (res_tmp S7 0 2 rfl)
  · skip
    refine wp_stmt_seq [.val (Part a4 1 2), .val (QV nT ts K), .val (iV (nT : Nat)), kT, kT, .val (Part a4 1 2), .val (QV nT ts K), .val (iV (nT : Nat)), .val (iV (nL : Nat)), kF, kF, kF] [.inr 0] [.inl 11] follows S4 rfl (by kernel_rfl) ?_ ?_
    · repeat' refine And.intro ?_ ?_
      · trivial
      · exact owe_part rfl wA rfl (k := 0) rfl (by kernel_rfl) rfl (fun ρ w b h => part_tree1 ρ _ _ w b 0 h)
      · exact owe_pload rfl wA rfl (oO 0 24) (k := 0) rfl (by kernel_rfl) rfl (fun ρ w b u h1 h2 h3 => pload_tr2 ρ _ _ w b u h1 h2 h3)
      · exact owe_len rfl wA rfl (oO 1 25) ar_len Try.underlying28 rfl
      · exact b_neq_int_t wA (oO 2 26) (opnd_const _)
      · exact mO 3 27
      · exact owe_part rfl (wI 4 28) rfl (k := 0) rfl (by kernel_rfl) rfl (fun ρ w b h => part_tree1 ρ _ _ w b 0 h)
      · exact owe_pload rfl (wI 4 28) rfl (oO 5 29) (k := 0) rfl (by kernel_rfl) rfl (fun ρ w b u h1 h2 h3 => pload_tr2 ρ _ _ w b u h1 h2 h3)
      · exact owe_len rfl (wI 4 28) rfl (oO 6 30) ar_len Try.underlying28 rfl
      · exact mW (wI 4 28) (oS 1 5)
      · exact b_neq_int_f (wI 4 28) (oO 7 31) (oO 8 32)
      · exact pT wA (oO 4 28) (oO 9 33)
      · exact mO 10 34
    intro B5 a5 W5 (S5 : Sta w 54 [(1, (.box 35 (TR (Vv nD D K) (Mv nL L K) (QV nT ts K) (PR (Zv rn K) (Zv rd K)))))] [(23, bF)] _ _ _)
    refine wp_cond_false (S5.bool 0 23 rfl) ?_
    refine wp_stmt_seq [.val (Part a5 1 2), .val (QV nT ts K), kT, kF, kF, .val (Part a5 1 3), .val (PR (Zv rn K) (Zv rd K)), .val (Sng 33 4 (PR (Zv rn K) (Zv rd K)) w.heap.size), kT, kF, kF, kF, .val (Part a5 1 3), .val (Part a5 1 3), .val (Zv rn K), .val (iV ((rn).sign)), kF, kF, kF] [.inr 0] [.inl 18] follows S5 rfl (by kernel_rfl) ?_ ?_
    · repeat' refine And.intro ?_ ?_
      · trivial
      · exact owe_part rfl wA rfl (k := 0) rfl (by kernel_rfl) rfl (fun ρ w b h => part_tree1 ρ _ _ w b 0 h)
      · exact owe_pload rfl wA rfl (oO 0 36) (k := 0) rfl (by kernel_rfl) rfl (fun ρ w b u h1 h2 h3 => pload_tr2 ρ _ _ w b u h1 h2 h3)
      · exact ch1 wA (qO 1 37 rfl) (fresh_is _) (fun w u h => mayb_t w u nT K ts h (by omega) (by omega) lT (fun i hi => g5 i (by omega)))
      · exact b_not wA (oO 2 38)
      · exact mO 3 39
      · exact owe_part rfl (wI 4 40) rfl (k := 0) rfl (by kernel_rfl) rfl (fun ρ w b h => part_tree2 ρ _ _ w b 0 h)
      · exact owe_pload rfl (wI 4 40) rfl (oO 5 41) (k := 0) rfl (by kernel_rfl) rfl (fun ρ w b u h1 h2 h3 => pload_tr3 ρ _ _ w b u h1 h2 h3)
      · exact owe_b1 rfl (wI 4 40) rfl bld_rat4 (oO 6 42) (cel_shp (by decide) (shp_pr shp_zv shp_zv)) rfl
      · exact ch1 (wI 4 40) ((qO 7 43 rfl).imp sng_ar1) (fresh_is _) (fun w u h => mayb_t w u 1 K [(rn, rd)] h (by omega) (by omega) rfl (one_lt g6))
      · exact b_not (wI 4 40) (oO 8 44)
      · exact pF wA (oO 4 40) (oO 9 45)
      · exact mO 10 46
      · exact owe_part rfl (wI 11 47) rfl (k := 0) rfl (by kernel_rfl) rfl (fun ρ w b h => part_tree2 ρ _ _ w b 0 h)
      · exact owe_part2 rfl (wI 11 47) rfl (oO 12 48) rfl (fun ρ w b h => part_rat0 ρ _ _ w b 3 h)
      · exact owe_pload rfl (wI 11 47) rfl (oO 13 49) (k := 0) rfl (by kernel_rfl) rfl (fun ρ w b u h1 h2 h3 => pload_trn ρ _ _ w b u h1 h2 h3)
      · exact cc1 (wI 11 47) (qO 14 50 rfl) (fresh_is _) (fun w u h1 => h_zsign (by omega) w u ((fun _ _ h => h) _ _ h1))
      · exact b_lss_int_f (wI 11 47) (oO 15 51) (opnd_const _)
      · exact pF wA (oO 11 47) (oO 16 52)
      · exact mO 17 53
    intro B6 a6 W6 (S6 : Sta w 54 [(1, (.box 35 (TR (Vv nD D K) (Mv nL L K) (QV nT ts K) (PR (Zv rn K) (Zv rd K)))))] [(35, bF)] _ _ _)
    refine wp_cond_false (S6.bool 0 35 rfl) ?_
    refine wp_skip ?_
    refine inBlkN ?_
    refine thenN ?_
    refine wp_stmt_seq [.val (iV 0)] [.inr 0] [.inl 0] follows S6 rfl (by kernel_rfl) ?_ ?_
    · refine ⟨trivial, ?_⟩
      · exact mC
    intro B7 a7 W7 (S7 : Sta w 54 [(1, (.box 35 (TR (Vv nD D K) (Mv nL L K) (QV nT ts K) (PR (Zv rn K) (Zv rd K)))))] [(2, iV 0)] _ _ _)
    refine wp_ret ?_
    exact end_one S7 rfl (res_tmp S7 0 2 rfl)

end Go.Proofs.Ytcljffdkonapeaa
