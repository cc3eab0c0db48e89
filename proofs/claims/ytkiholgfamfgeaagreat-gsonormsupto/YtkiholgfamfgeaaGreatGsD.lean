import Derived.Test.YtkiholgfamfgeaaGreatGLaw
import Derived.Test.YtkiholgfamfgeaaGreatRsK
/-
  gso.mayBe and what the document says of it.
-/
namespace Go.Proofs.YtkiholgfamfgeaaGreat
open Go Go.RowKit Nt
set_option linter.unusedSimpArgs false
set_option linter.unusedVariables false
set_option maxRecDepth 20000


theorem first_off (p : Nat → Bool) : ∀ n, (∀ j, j < n → p j = true) ∨ ∃ i, i < n ∧ p i = false ∧ ∀ j, j < i → p j = true
  | 0 => Or.inl (fun j h => by omega)
  | n + 1 => by
    rcases first_off p n with h | ⟨i, h1, h2, h3⟩
    · cases e : p n with
      | true => exact Or.inl (fun j hj => by rcases Nat.lt_or_ge j n with h' | h'; exact h j h'; rw [show j = n by omega]; exact e)
      | false => exact Or.inr ⟨n, by omega, e, h⟩
    · exact Or.inr ⟨i, by omega, h2, h3⟩
/-- May these be data? -/
structure Good (D : List Int) (L : List (List Int)) : Prop where
  some : L.length ≠ 0
  len : D.length = L.length + 1
  one : D.getD 0 0 = 1
  row : ∀ i, i < L.length → (L.getD i []).length = i
  pos : ∀ i, i < L.length → 0 < D.getD (i + 1) 0
/-- How it fails. -/
inductive Bad (D : List Int) (L : List (List Int)) : Prop
  | none : L.length = 0 → Bad D L
  | len : L.length ≠ 0 → D.length ≠ L.length + 1 → Bad D L
  | one : L.length ≠ 0 → D.length = L.length + 1 → D.getD 0 0 ≠ 1 → Bad D L
  | row (i0 : Nat) : L.length ≠ 0 → D.length = L.length + 1 → D.getD 0 0 = 1 → i0 < L.length → (∀ j, j < i0 → (L.getD j []).length = j ∧ 0 < D.getD (j + 1) 0) → ((L.getD i0 []).length ≠ i0 ∨ ((L.getD i0 []).length = i0 ∧ D.getD (i0 + 1) 0 ≤ 0)) → Bad D L
theorem good_or (D : List Int) (L : List (List Int)) : Good D L ∨ Bad D L := by
  by_cases h1 : L.length = 0
  · exact Or.inr (.none h1)
  by_cases h2 : D.length = L.length + 1
  · by_cases h3 : D.getD 0 0 = 1
    · rcases first_off (fun j => decide ((L.getD j []).length = j ∧ 0 < D.getD (j + 1) 0)) L.length with h | ⟨i, hi, h4, h5⟩
      · exact Or.inl ⟨h1, h2, h3, fun i hi => (of_decide_eq_true (h i hi)).1, fun i hi => (of_decide_eq_true (h i hi)).2⟩
      · refine Or.inr (.row i h1 h2 h3 hi (fun j hj => of_decide_eq_true (h5 j hj)) ?_)
        have := of_decide_eq_false h4
        by_cases h6 : (L.getD i []).length = i
        · exact Or.inr ⟨h6, by omega⟩
        · exact Or.inl h6
    · exact Or.inr (.one h1 h2 h3)
  · exact Or.inr (.len h1 h2)
theorem Good.d {D : List Int} {L : List (List Int)} (h : Good D L) (i : Nat) (hi : i < D.length) : 0 < D.getD i 0 := by
  cases i with
  | zero => rw [h.one]; decide
  | succ i => exact h.pos i (by have := h.len; omega)
theorem sgn_pos {z : Int} (h : 0 < z) : z.sign = 1 := Int.sign_eq_one_of_pos h
theorem sgn_npos {z : Int} (h : z ≤ 0) : z.sign ≤ 0 := by
  rcases Int.lt_or_le z 0 with h1 | h1
  · rw [Int.sign_eq_neg_one_of_neg h1]; decide
  · rw [show z = 0 by omega]; decide
theorem sgn0 {z : Int} (h : z = 0) : z.sign = 0 := by rw [h]; rfl
theorem sgn_ne {z : Int} (h : z ≠ 0) : z.sign ≠ 0 := fun e => h (Int.sign_eq_zero_iff_zero.1 e)

set_option maxHeartbeats 2000000 in
theorem may_t (w : World) (u : Value) (nD nL K : Nat) (D : List Int) (L : List (List Int)) (h : Hs w (SF [Vv nD D K, Mv nL L K]) u) (hD : nD ≤ 1048576) (hL : nL ≤ 1048576) (hK : K ≤ 1048576) (lD : D.length = nD) (lL : L.length = nL) (g : Good D L) :
    Calls Tryz.prog 15 #[u] w (Gives (IS (.bool true)) w) := by
  have hs := g.some
  have hl := g.len
  have h1 := g.one
  have hone : ((D.getD 0 0) - (1)).sign = 0 := sgn0 (by omega)
  refine calls_sta (sl := [(0, (SF [(Vv nD D K), (Mv nL L K)]))]) Tryz.func15 rfl Tryz.ntmps15 (by simp) (args_cons rfl (h) args_nil) ?_
  intro a0 S0
  refine wp_stmt_seq [.new (.box 25 (SF [(Vv nD D K), (Mv nL L K)])), kF] [.inl 0] [] follows S0 rfl (by kernel_rfl) ?_ ?_
  · refine ⟨⟨trivial, ?_⟩, ?_⟩
    · exact owe_box rfl wA rfl (oS 0 0) rfl (fun ρ w h => box_gso shp_sf2 ρ _ _ w h)
    · exact mC
  intro B1 a1 W1 (S1 : Sta w 51 [(1, (.box 25 (SF [(Vv nD D K), (Mv nL L K)])))] [] _ _ _)
  refine wp_seq ?_
  refine wp_stmt_seq [.val (Part a1 1 1), .val (Mv nL L K), .val (iV (nL : Nat)), kF, kF, .val (Part a1 1 0), .val (Vv nD D K), .val (iV (nD : Nat)), .val (Part a1 1 1), .val (Mv nL L K), .val (iV (nL : Nat)), .val (iV ((nL + 1 : Nat) : Int)), kF, kF, kF, .val (Part a1 1 0), .val (Vv nD D K), .val (AtE 2 (Zv (D.getD 0 0) K)), .val (Zv (D.getD 0 0) K), .val ((ZN (1)) w.heap.size), .val (iV (((D.getD 0 0) - 1).sign)), kF, kF] [.inr 0] [.inl 22] follows S1 rfl (by kernel_rfl) ?_ ?_
  · repeat' refine And.intro ?_ ?_
    · trivial
    · exact owe_part rfl wA rfl (k := 0) rfl (by kernel_rfl) rfl (fun ρ w b h => part_gso1 ρ _ _ w b 0 h)
    · exact owe_pload rfl wA rfl (oO 0 5) (k := 0) rfl (by kernel_rfl) rfl (fun ρ w b u h1 h2 h3 => ploadS rfl load1_mat ρ _ _ w b u h1 h2 h3)
    · exact owe_len rfl wA rfl (oO 1 6) ar_len Tryz.underlying23 rfl
    · exact b_eql_int_f wA (oO 2 7) (opnd_const _)
    · exact mO 3 8
    · exact owe_part rfl (wI 4 9) rfl (k := 0) rfl (by kernel_rfl) rfl (fun ρ w b h => part_gso0 ρ _ _ w b 0 h)
    · exact owe_pload rfl (wI 4 9) rfl (oO 5 10) (k := 0) rfl (by kernel_rfl) rfl (fun ρ w b u h1 h2 h3 => ploadS rfl load1_vec ρ _ _ w b u h1 h2 h3)
    · exact owe_len rfl (wI 4 9) rfl (oO 6 11) ar_len Tryz.underlying22 rfl
    · exact owe_part rfl (wI 4 9) rfl (k := 0) rfl (by kernel_rfl) rfl (fun ρ w b h => part_gso1 ρ _ _ w b 0 h)
    · exact owe_pload rfl (wI 4 9) rfl (oO 8 13) (k := 0) rfl (by kernel_rfl) rfl (fun ρ w b u h1 h2 h3 => ploadS rfl load1_mat ρ _ _ w b u h1 h2 h3)
    · exact owe_len rfl (wI 4 9) rfl (oO 9 14) ar_len Tryz.underlying23 rfl
    · exact b_add_int (wI 4 9) (oO 10 15) (opnd_const _)
    · exact b_neq_int_f (wI 4 9) (oO 7 12) (oO 11 16)
    · exact pF wA (oO 4 9) (oO 12 17)
    · exact mO 13 18
    · exact owe_part rfl (wI 14 19) rfl (k := 0) rfl (by kernel_rfl) rfl (fun ρ w b h => part_gso0 ρ _ _ w b 0 h)
    · exact owe_pload rfl (wI 14 19) rfl (oO 15 20) (k := 0) rfl (by kernel_rfl) rfl (fun ρ w b u h1 h2 h3 => ploadS rfl load1_vec ρ _ _ w b u h1 h2 h3)
    · exact owe_aindex rfl (wI 14 19) rfl idx_ints (oO 16 21) (opnd_const _) (zv_at (k := 0) (by omega)) rfl
    · exact owe_aload rfl (wI 14 19) rfl ldr_int (by decide) (cel_shp (by decide) shp_zv) (oO 17 22) rfl
    · exact cc1 (wI 14 19) (opnd_const _) (fresh_zn _) (g_zof (1) (by omega) (by omega))
    · exact cc2 (wI 14 19) (qO 18 23 rfl) (qO 19 24 rfl) (fresh_is _) (fun w u v h1 h2 => h_zcmp (by omega) (by omega) w u v ((fun _ _ h => h) _ _ h1) ((zn_zv one_dl) _ _ h2))
    · exact b_neq_int_f (wI 14 19) (oO 20 25) (opnd_const _) (h := hone)
    · exact pF wA (oO 14 19) (oO 21 26)
  intro B2 a2 W2 (S2 : Sta w 51 [(1, (.box 25 (SF [(Vv nD D K), (Mv nL L K)])))] [(27, bF)] _ _ _)
  refine wp_cond_false (S2.bool 0 27 rfl) ?_
  refine wp_skip ?_
  refine thenN ?_
  refine wp_seq ?_
  refine wp_stmt_seq [.val (Part a2 1 1), .val (Mv nL L K), .val (iV (nL : Nat)), .val (iV 0)] [.inr 0] [.inl 1, .inl 2, .inl 3] follows S2 rfl (by kernel_rfl) ?_ ?_
  · refine ⟨⟨⟨⟨trivial, ?_⟩, ?_⟩, ?_⟩, ?_⟩
    · exact owe_part rfl wA rfl (k := 0) rfl (by kernel_rfl) rfl (fun ρ w b h => part_gso1 ρ _ _ w b 0 h)
    · exact owe_pload rfl wA rfl (oO 0 28) (k := 0) rfl (by kernel_rfl) rfl (fun ρ w b u h1 h2 h3 => ploadS rfl load1_mat ρ _ _ w b u h1 h2 h3)
    · exact owe_len rfl wA rfl (oO 1 29) ar_len Tryz.underlying23 rfl
    · exact mC
  intro B3 a3 W3 (S3 : Sta w 51 [(1, (.box 25 (SF [(Vv nD D K), (Mv nL L K)])))] [(29, Mv nL L K), (30, iV (nL : Nat)), (31, iV 0)] _ _ _)
  refine wp_block ?_
  refine wp_loop_ghost (fun (k0 : Nat) a W => (k0 ≤ nL) ∧ ∃ Bq, Sta w 51 [(1, (.box 25 (SF [(Vv nD D K), (Mv nL L K)])))] [(29, Mv nL L K), (30, iV (nL : Nat)), (31, iV (k0 : Nat))] Bq a W) (fun (k0 : Nat) => nL - k0) ?_ 0 ⟨Nat.zero_le _, B3, S3.sub [0] [0, 1, 2]⟩
  rintro k0 a4 W4 ⟨hcond, B4, S4⟩
  by_cases hlt : k0 < nL
  · have hr := g.row k0 (by omega)
    have hp := sgn_pos (g.pos k0 (by omega))
    refine wp_stmt_seq [kT] [.inr 0] [.inl 0, .inr 0, .inr 1, .inr 2] follows S4 rfl (by kernel_rfl) ?_ ?_
    · refine ⟨trivial, ?_⟩
      · exact b_lss_int_t wA (oS 2 31) (oS 1 30)
    intro B5 a5 W5 (S5 : Sta w 51 [(1, (.box 25 (SF [(Vv nD D K), (Mv nL L K)])))] [(32, bT), (29, Mv nL L K), (30, iV (nL : Nat)), (31, iV (k0 : Nat))] _ _ _)
    refine wp_seq ?_
    refine wp_cond_true (S5.bool 0 32 rfl) ?_
    refine wp_skip ?_
    refine thenN ?_
    refine wp_seq ?_
    refine wp_block ?_
    refine wp_stmt_seq [.val (iV (k0 : Nat)), .val (AtE 1 (Vv ((L.getD k0 []).length) (L.getD k0 []) K)), .val (Vv ((L.getD k0 []).length) (L.getD k0 []) K), .val (iV (k0 : Nat)), .val (Vv ((L.getD k0 []).length) (L.getD k0 []) K)] [.inr 0] [.inl 3, .inl 4, .inr 1, .inr 2, .inr 3] follows S5 rfl (by kernel_rfl) ?_ ?_
    · refine ⟨⟨⟨⟨⟨trivial, ?_⟩, ?_⟩, ?_⟩, ?_⟩, ?_⟩
      · exact mS 3 31
      · exact owe_aindex rfl wA rfl idx_rows (oS 1 29) (oS 3 31) (vv_at (by omega)) rfl
      · exact owe_aload rfl wA rfl ldr_row1 (by decide) cel_vv (oO 1 34) rfl
      · exact mO 0 33
      · exact mO 2 35
    intro B6 a6 W6 (S6 : Sta w 51 [(1, (.box 25 (SF [(Vv nD D K), (Mv nL L K)])))] [(3, iV (k0 : Nat)), (4, Vv ((L.getD k0 []).length) (L.getD k0 []) K), (29, Mv nL L K), (30, iV (nL : Nat)), (31, iV (k0 : Nat))] _ _ _)
    refine wp_stmt_seq [.val (Vv ((L.getD k0 []).length) (L.getD k0 []) K), .val (iV ((L.getD k0 []).length : Nat)), .val (iV (k0 : Nat)), kF, kF, .val (Part a6 1 0), .val (Vv nD D K), .val (iV (k0 : Nat)), .val (iV ((k0 + 1 : Nat) : Int)), .val (AtE 2 (Zv (D.getD (k0 + 1) 0) K)), .val (Zv (D.getD (k0 + 1) 0) K), .val (iV ((D.getD (k0 + 1) 0).sign)), kF, kF] [.inr 0] [.inl 13, .inr 2, .inr 3, .inr 4] follows S6 rfl (by kernel_rfl) ?_ ?_
    · repeat' refine And.intro ?_ ?_
      · trivial
      · exact mS 1 4
      · exact owe_len rfl wA rfl (oO 0 36) ar_len Tryz.underlying22 rfl
      · exact mS 0 3
      · exact b_neq_int_f wA (oO 1 37) (oO 2 38)
      · exact mO 3 39
      · exact owe_part rfl (wI 4 40) rfl (k := 0) rfl (by kernel_rfl) rfl (fun ρ w b h => part_gso0 ρ _ _ w b 0 h)
      · exact owe_pload rfl (wI 4 40) rfl (oO 5 41) (k := 0) rfl (by kernel_rfl) rfl (fun ρ w b u h1 h2 h3 => ploadS rfl load1_vec ρ _ _ w b u h1 h2 h3)
      · exact mW (wI 4 40) (oS 0 3)
      · exact b_add_int (wI 4 40) (oO 7 43) (opnd_const _)
      · exact owe_aindex rfl (wI 4 40) rfl idx_ints (oO 6 42) (oO 8 44) (zv_at (by omega)) rfl
      · exact owe_aload rfl (wI 4 40) rfl ldr_int (by decide) (cel_shp (by decide) shp_zv) (oO 9 45) rfl
      · exact cc1 (wI 4 40) (qO 10 46 rfl) (fresh_is _) (fun w u h1 => h_zsign (by omega) w u ((fun _ _ h => h) _ _ h1))
      · exact b_leq_int_f (wI 4 40) (oO 11 47) (opnd_const _)
      · exact pF wA (oO 4 40) (oO 12 48)
    intro B7 a7 W7 (S7 : Sta w 51 [(1, (.box 25 (SF [(Vv nD D K), (Mv nL L K)])))] [(49, bF), (29, Mv nL L K), (30, iV (nL : Nat)), (31, iV (k0 : Nat))] _ _ _)
    refine wp_cond_false (S7.bool 0 49 rfl) ?_
    refine wp_skip ?_
    refine inBlkN ?_
    refine thenN ?_
    refine wp_stmt [.val (iV (k0 + 1 : Nat)), .val (iV (k0 + 1 : Nat))] [.inr 0] [.inl 1, .inr 1, .inr 2] follows S7 rfl (by kernel_rfl) ?_ ?_
    · refine ⟨⟨trivial, ?_⟩, ?_⟩
      · exact b_add_int wA (oS 3 31) (opnd_const _)
      · exact mO 0 50
    intro B8 a8 W8 (S8 : Sta w 51 [(1, (.box 25 (SF [(Vv nD D K), (Mv nL L K)])))] [(31, iV (k0 + 1 : Nat)), (29, Mv nL L K), (30, iV (nL : Nat))] _ _ _)
    refine thenN ?_
    exact ⟨k0 + 1, ⟨by omega, B8, S8.sub [0] [1, 2, 0]⟩, by omega⟩
  · skip
    refine wp_stmt_seq [kF] [.inr 0] [.inl 0, .inr 0, .inr 1, .inr 2] follows S4 rfl (by kernel_rfl) ?_ ?_
    · refine ⟨trivial, ?_⟩
      · exact b_lss_int_f wA (oS 2 31) (oS 1 30)
    intro B5 a5 W5 (S5 : Sta w 51 [(1, (.box 25 (SF [(Vv nD D K), (Mv nL L K)])))] [(32, bF), (29, Mv nL L K), (30, iV (nL : Nat)), (31, iV (k0 : Nat))] _ _ _)
    refine wp_seq ?_
    refine wp_cond_false (S5.bool 0 32 rfl) ?_
    refine wp_exit ?_
    refine thenX ?_
    refine thenX ?_
    refine inBlkE ?_
    refine thenN ?_
    refine wp_stmt_seq [kT] [.inr 0] [.inl 0, .inr 1, .inr 2, .inr 3] follows S5 rfl (by kernel_rfl) ?_ ?_
    · refine ⟨trivial, ?_⟩
      · exact mC
    intro B6 a6 W6 (S6 : Sta w 51 [(1, (.box 25 (SF [(Vv nD D K), (Mv nL L K)])))] [(2, bT), (29, Mv nL L K), (30, iV (nL : Nat)), (31, iV (k0 : Nat))] _ _ _)
    refine wp_ret ?_
    exact end_one S6 rfl (res_tmp S6 0 2 rfl)

set_option maxHeartbeats 4000000 in
theorem may_f (w : World) (u : Value) (nD nL K : Nat) (D : List Int) (L : List (List Int)) (h : Hs w (SF [Vv nD D K, Mv nL L K]) u) (hD : nD ≤ 1048576) (hL : nL ≤ 1048576) (hK : K ≤ 1048576) (lD : D.length = nD) (lL : L.length = nL) (g : Bad D L) :
    Calls Tryz.prog 15 #[u] w (Gives (IS (.bool false)) w) := by
  refine calls_sta (sl := [(0, (SF [(Vv nD D K), (Mv nL L K)]))]) Tryz.func15 rfl Tryz.ntmps15 (by simp) (args_cons rfl (h) args_nil) ?_
  intro a0 S0
  refine wp_stmt_seq [.new (.box 25 (SF [(Vv nD D K), (Mv nL L K)])), kF] [.inl 0] [] follows S0 rfl (by kernel_rfl) ?_ ?_
  · refine ⟨⟨trivial, ?_⟩, ?_⟩
    · exact owe_box rfl wA rfl (oS 0 0) rfl (fun ρ w h => box_gso shp_sf2 ρ _ _ w h)
    · exact mC
  intro B1 a1 W1 (S1 : Sta w 51 [(1, (.box 25 (SF [(Vv nD D K), (Mv nL L K)])))] [] _ _ _)
  rcases g with g1 | ⟨g1, g2⟩ | ⟨g1, g2, g3⟩ | ⟨i0, g1, g2, g3, g4, g5, g6⟩
  · skip
    refine wp_seq ?_
    refine wp_stmt_seq [.val (Part a1 1 1), .val (Mv nL L K), .val (iV (nL : Nat)), kT, kT, .off, .off, .off, .off, .off, .off, .off, .off, kT, kT, .off, .off, .off, .off, .off, .off, .off, kT] [.inr 0] [.inl 22] follows S1 rfl (by kernel_rfl) ?_ ?_
    · repeat' refine And.intro ?_ ?_
      · trivial
      · exact owe_part rfl wA rfl (k := 0) rfl (by kernel_rfl) rfl (fun ρ w b h => part_gso1 ρ _ _ w b 0 h)
      · exact owe_pload rfl wA rfl (oO 0 5) (k := 0) rfl (by kernel_rfl) rfl (fun ρ w b u h1 h2 h3 => ploadS rfl load1_mat ρ _ _ w b u h1 h2 h3)
      · exact owe_len rfl wA rfl (oO 1 6) ar_len Tryz.underlying23 rfl
      · exact b_eql_int_t wA (oO 2 7) (opnd_const _)
      · exact mO 3 8
      · exact oF 4 9
      · exact oF 4 9
      · exact oF 4 9
      · exact oF 4 9
      · exact oF 4 9
      · exact oF 4 9
      · exact oF 4 9
      · exact oF 4 9
      · exact pT wA (oO 4 9) (opnd_const _)
      · exact mO 13 18
      · exact oF 14 19
      · exact oF 14 19
      · exact oF 14 19
      · exact oF 14 19
      · exact oF 14 19
      · exact oF 14 19
      · exact oF 14 19
      · exact pT wA (oO 14 19) (opnd_const _)
    intro B2 a2 W2 (S2 : Sta w 51 [(1, (.box 25 (SF [(Vv nD D K), (Mv nL L K)])))] [(27, bT)] _ _ _)
    refine wp_cond_true (S2.bool 0 27 rfl) ?_
    refine wp_stmt_seq [kF] [.inr 0] [.inl 0] follows S2 rfl (by kernel_rfl) ?_ ?_
    · refine ⟨trivial, ?_⟩
      · exact mC
    intro B3 a3 W3 (S3 : Sta w 51 [(1, (.box 25 (SF [(Vv nD D K), (Mv nL L K)])))] [(2, bF)] _ _ _)
    refine wp_ret ?_
    refine thenR ?_
    exact end_one S3 rfl (res_tmp S3 0 2 rfl)
  · skip
    refine wp_seq ?_
    refine wp_stmt_seq [.val (Part a1 1 1), .val (Mv nL L K), .val (iV (nL : Nat)), kF, kF, .val (Part a1 1 0), .val (Vv nD D K), .val (iV (nD : Nat)), .val (Part a1 1 1), .val (Mv nL L K), .val (iV (nL : Nat)), .val (iV ((nL + 1 : Nat) : Int)), kT, kT, kT, .off, .off, .off, .off, .off, .off, .off, kT] [.inr 0] [.inl 22] follows S1 rfl (by kernel_rfl) ?_ ?_
    · repeat' refine And.intro ?_ ?_
      · trivial
      · exact owe_part rfl wA rfl (k := 0) rfl (by kernel_rfl) rfl (fun ρ w b h => part_gso1 ρ _ _ w b 0 h)
      · exact owe_pload rfl wA rfl (oO 0 5) (k := 0) rfl (by kernel_rfl) rfl (fun ρ w b u h1 h2 h3 => ploadS rfl load1_mat ρ _ _ w b u h1 h2 h3)
      · exact owe_len rfl wA rfl (oO 1 6) ar_len Tryz.underlying23 rfl
      · exact b_eql_int_f wA (oO 2 7) (opnd_const _)
      · exact mO 3 8
      · exact owe_part rfl (wI 4 9) rfl (k := 0) rfl (by kernel_rfl) rfl (fun ρ w b h => part_gso0 ρ _ _ w b 0 h)
      · exact owe_pload rfl (wI 4 9) rfl (oO 5 10) (k := 0) rfl (by kernel_rfl) rfl (fun ρ w b u h1 h2 h3 => ploadS rfl load1_vec ρ _ _ w b u h1 h2 h3)
      · exact owe_len rfl (wI 4 9) rfl (oO 6 11) ar_len Tryz.underlying22 rfl
      · exact owe_part rfl (wI 4 9) rfl (k := 0) rfl (by kernel_rfl) rfl (fun ρ w b h => part_gso1 ρ _ _ w b 0 h)
      · exact owe_pload rfl (wI 4 9) rfl (oO 8 13) (k := 0) rfl (by kernel_rfl) rfl (fun ρ w b u h1 h2 h3 => ploadS rfl load1_mat ρ _ _ w b u h1 h2 h3)
      · exact owe_len rfl (wI 4 9) rfl (oO 9 14) ar_len Tryz.underlying23 rfl
      · exact b_add_int (wI 4 9) (oO 10 15) (opnd_const _)
      · exact b_neq_int_t (wI 4 9) (oO 7 12) (oO 11 16)
      · exact pF wA (oO 4 9) (oO 12 17)
      · exact mO 13 18
      · exact oF 14 19
      · exact oF 14 19
      · exact oF 14 19
      · exact oF 14 19
      · exact oF 14 19
      · exact oF 14 19
      · exact oF 14 19
      · exact pT wA (oO 14 19) (opnd_const _)
    intro B2 a2 W2 (S2 : Sta w 51 [(1, (.box 25 (SF [(Vv nD D K), (Mv nL L K)])))] [(27, bT)] _ _ _)
    refine wp_cond_true (S2.bool 0 27 rfl) ?_
    refine wp_stmt_seq [kF] [.inr 0] [.inl 0] follows S2 rfl (by kernel_rfl) ?_ ?_
    · refine ⟨trivial, ?_⟩
      · exact mC
    intro B3 a3 W3 (S3 : Sta w 51 [(1, (.box 25 (SF [(Vv nD D K), (Mv nL L K)])))] [(2, bF)] _ _ _)
    refine wp_ret ?_
    refine thenR ?_
    exact end_one S3 rfl (res_tmp S3 0 2 rfl)
  · skip
    have hone : ((D.getD 0 0) - (1)).sign ≠ 0 := sgn_ne (by omega)
    refine wp_seq ?_
    refine wp_stmt_seq [.val (Part a1 1 1), .val (Mv nL L K), .val (iV (nL : Nat)), kF, kF, .val (Part a1 1 0), .val (Vv nD D K), .val (iV (nD : Nat)), .val (Part a1 1 1), .val (Mv nL L K), .val (iV (nL : Nat)), .val (iV ((nL + 1 : Nat) : Int)), kF, kF, kF, .val (Part a1 1 0), .val (Vv nD D K), .val (AtE 2 (Zv (D.getD 0 0) K)), .val (Zv (D.getD 0 0) K), .val ((ZN (1)) w.heap.size), .val (iV (((D.getD 0 0) - 1).sign)), kT, kT] [.inr 0] [.inl 22] follows S1 rfl (by kernel_rfl) ?_ ?_
    · repeat' refine And.intro ?_ ?_
      · trivial
      · exact owe_part rfl wA rfl (k := 0) rfl (by kernel_rfl) rfl (fun ρ w b h => part_gso1 ρ _ _ w b 0 h)
      · exact owe_pload rfl wA rfl (oO 0 5) (k := 0) rfl (by kernel_rfl) rfl (fun ρ w b u h1 h2 h3 => ploadS rfl load1_mat ρ _ _ w b u h1 h2 h3)
      · exact owe_len rfl wA rfl (oO 1 6) ar_len Tryz.underlying23 rfl
      · exact b_eql_int_f wA (oO 2 7) (opnd_const _)
      · exact mO 3 8
      · exact owe_part rfl (wI 4 9) rfl (k := 0) rfl (by kernel_rfl) rfl (fun ρ w b h => part_gso0 ρ _ _ w b 0 h)
      · exact owe_pload rfl (wI 4 9) rfl (oO 5 10) (k := 0) rfl (by kernel_rfl) rfl (fun ρ w b u h1 h2 h3 => ploadS rfl load1_vec ρ _ _ w b u h1 h2 h3)
      · exact owe_len rfl (wI 4 9) rfl (oO 6 11) ar_len Tryz.underlying22 rfl
      · exact owe_part rfl (wI 4 9) rfl (k := 0) rfl (by kernel_rfl) rfl (fun ρ w b h => part_gso1 ρ _ _ w b 0 h)
      · exact owe_pload rfl (wI 4 9) rfl (oO 8 13) (k := 0) rfl (by kernel_rfl) rfl (fun ρ w b u h1 h2 h3 => ploadS rfl load1_mat ρ _ _ w b u h1 h2 h3)
      · exact owe_len rfl (wI 4 9) rfl (oO 9 14) ar_len Tryz.underlying23 rfl
      · exact b_add_int (wI 4 9) (oO 10 15) (opnd_const _)
      · exact b_neq_int_f (wI 4 9) (oO 7 12) (oO 11 16)
      · exact pF wA (oO 4 9) (oO 12 17)
      · exact mO 13 18
      · exact owe_part rfl (wI 14 19) rfl (k := 0) rfl (by kernel_rfl) rfl (fun ρ w b h => part_gso0 ρ _ _ w b 0 h)
      · exact owe_pload rfl (wI 14 19) rfl (oO 15 20) (k := 0) rfl (by kernel_rfl) rfl (fun ρ w b u h1 h2 h3 => ploadS rfl load1_vec ρ _ _ w b u h1 h2 h3)
      · exact owe_aindex rfl (wI 14 19) rfl idx_ints (oO 16 21) (opnd_const _) (zv_at (k := 0) (by omega)) rfl
      · exact owe_aload rfl (wI 14 19) rfl ldr_int (by decide) (cel_shp (by decide) shp_zv) (oO 17 22) rfl
      · exact cc1 (wI 14 19) (opnd_const _) (fresh_zn _) (g_zof (1) (by omega) (by omega))
      · exact cc2 (wI 14 19) (qO 18 23 rfl) (qO 19 24 rfl) (fresh_is _) (fun w u v h1 h2 => h_zcmp (by omega) (by omega) w u v ((fun _ _ h => h) _ _ h1) ((zn_zv one_dl) _ _ h2))
      · exact b_neq_int_t (wI 14 19) (oO 20 25) (opnd_const _) (h := hone)
      · exact pF wA (oO 14 19) (oO 21 26)
    intro B2 a2 W2 (S2 : Sta w 51 [(1, (.box 25 (SF [(Vv nD D K), (Mv nL L K)])))] [(27, bT)] _ _ _)
    refine wp_cond_true (S2.bool 0 27 rfl) ?_
    refine wp_stmt_seq [kF] [.inr 0] [.inl 0] follows S2 rfl (by kernel_rfl) ?_ ?_
    · refine ⟨trivial, ?_⟩
      · exact mC
    intro B3 a3 W3 (S3 : Sta w 51 [(1, (.box 25 (SF [(Vv nD D K), (Mv nL L K)])))] [(2, bF)] _ _ _)
    refine wp_ret ?_
    refine thenR ?_
    exact end_one S3 rfl (res_tmp S3 0 2 rfl)
  · skip
    have hone : ((D.getD 0 0) - (1)).sign = 0 := sgn0 (by omega)
    refine wp_seq ?_
    refine wp_stmt_seq [.val (Part a1 1 1), .val (Mv nL L K), .val (iV (nL : Nat)), kF, kF, .val (Part a1 1 0), .val (Vv nD D K), .val (iV (nD : Nat)), .val (Part a1 1 1), .val (Mv nL L K), .val (iV (nL : Nat)), .val (iV ((nL + 1 : Nat) : Int)), kF, kF, kF, .val (Part a1 1 0), .val (Vv nD D K), .val (AtE 2 (Zv (D.getD 0 0) K)), .val (Zv (D.getD 0 0) K), .val ((ZN (1)) w.heap.size), .val (iV (((D.getD 0 0) - 1).sign)), kF, kF] [.inr 0] [.inl 22] follows S1 rfl (by kernel_rfl) ?_ ?_
    · repeat' refine And.intro ?_ ?_
      · trivial
      · exact owe_part rfl wA rfl (k := 0) rfl (by kernel_rfl) rfl (fun ρ w b h => part_gso1 ρ _ _ w b 0 h)
      · exact owe_pload rfl wA rfl (oO 0 5) (k := 0) rfl (by kernel_rfl) rfl (fun ρ w b u h1 h2 h3 => ploadS rfl load1_mat ρ _ _ w b u h1 h2 h3)
      · exact owe_len rfl wA rfl (oO 1 6) ar_len Tryz.underlying23 rfl
      · exact b_eql_int_f wA (oO 2 7) (opnd_const _)
      · exact mO 3 8
      · exact owe_part rfl (wI 4 9) rfl (k := 0) rfl (by kernel_rfl) rfl (fun ρ w b h => part_gso0 ρ _ _ w b 0 h)
      · exact owe_pload rfl (wI 4 9) rfl (oO 5 10) (k := 0) rfl (by kernel_rfl) rfl (fun ρ w b u h1 h2 h3 => ploadS rfl load1_vec ρ _ _ w b u h1 h2 h3)
      · exact owe_len rfl (wI 4 9) rfl (oO 6 11) ar_len Tryz.underlying22 rfl
      · exact owe_part rfl (wI 4 9) rfl (k := 0) rfl (by kernel_rfl) rfl (fun ρ w b h => part_gso1 ρ _ _ w b 0 h)
      · exact owe_pload rfl (wI 4 9) rfl (oO 8 13) (k := 0) rfl (by kernel_rfl) rfl (fun ρ w b u h1 h2 h3 => ploadS rfl load1_mat ρ _ _ w b u h1 h2 h3)
      · exact owe_len rfl (wI 4 9) rfl (oO 9 14) ar_len Tryz.underlying23 rfl
      · exact b_add_int (wI 4 9) (oO 10 15) (opnd_const _)
      · exact b_neq_int_f (wI 4 9) (oO 7 12) (oO 11 16)
      · exact pF wA (oO 4 9) (oO 12 17)
      · exact mO 13 18
      · exact owe_part rfl (wI 14 19) rfl (k := 0) rfl (by kernel_rfl) rfl (fun ρ w b h => part_gso0 ρ _ _ w b 0 h)
      · exact owe_pload rfl (wI 14 19) rfl (oO 15 20) (k := 0) rfl (by kernel_rfl) rfl (fun ρ w b u h1 h2 h3 => ploadS rfl load1_vec ρ _ _ w b u h1 h2 h3)
      · exact owe_aindex rfl (wI 14 19) rfl idx_ints (oO 16 21) (opnd_const _) (zv_at (k := 0) (by omega)) rfl
      · exact owe_aload rfl (wI 14 19) rfl ldr_int (by decide) (cel_shp (by decide) shp_zv) (oO 17 22) rfl
      · exact cc1 (wI 14 19) (opnd_const _) (fresh_zn _) (g_zof (1) (by omega) (by omega))
      · exact cc2 (wI 14 19) (qO 18 23 rfl) (qO 19 24 rfl) (fresh_is _) (fun w u v h1 h2 => h_zcmp (by omega) (by omega) w u v ((fun _ _ h => h) _ _ h1) ((zn_zv one_dl) _ _ h2))
      · exact b_neq_int_f (wI 14 19) (oO 20 25) (opnd_const _) (h := hone)
      · exact pF wA (oO 14 19) (oO 21 26)
    intro B2 a2 W2 (S2 : Sta w 51 [(1, (.box 25 (SF [(Vv nD D K), (Mv nL L K)])))] [(27, bF)] _ _ _)
    refine wp_cond_false (S2.bool 0 27 rfl) ?_
    refine wp_skip ?_
    refine thenN ?_
    refine wp_seq ?_
    refine wp_stmt_seq [.val (Part a2 1 1), .val (Mv nL L K), .val (iV (nL : Nat)), .val (iV 0)] [.inr 0] [.inl 1, .inl 2, .inl 3] follows S2 rfl (by kernel_rfl) ?_ ?_
    · refine ⟨⟨⟨⟨trivial, ?_⟩, ?_⟩, ?_⟩, ?_⟩
      · exact owe_part rfl wA rfl (k := 0) rfl (by kernel_rfl) rfl (fun ρ w b h => part_gso1 ρ _ _ w b 0 h)
      · exact owe_pload rfl wA rfl (oO 0 28) (k := 0) rfl (by kernel_rfl) rfl (fun ρ w b u h1 h2 h3 => ploadS rfl load1_mat ρ _ _ w b u h1 h2 h3)
      · exact owe_len rfl wA rfl (oO 1 29) ar_len Tryz.underlying23 rfl
      · exact mC
    intro B3 a3 W3 (S3 : Sta w 51 [(1, (.box 25 (SF [(Vv nD D K), (Mv nL L K)])))] [(29, Mv nL L K), (30, iV (nL : Nat)), (31, iV 0)] _ _ _)
    refine wp_block ?_
    refine wp_loop_ghost (fun (k0 : Nat) a W => (k0 ≤ i0) ∧ ∃ Bq, Sta w 51 [(1, (.box 25 (SF [(Vv nD D K), (Mv nL L K)])))] [(29, Mv nL L K), (30, iV (nL : Nat)), (31, iV (k0 : Nat))] Bq a W) (fun (k0 : Nat) => nL - k0) ?_ 0 ⟨Nat.zero_le _, B3, S3.sub [0] [0, 1, 2]⟩
    rintro k0 a4 W4 ⟨hcond, B4, S4⟩
    by_cases hlt : k0 < i0
    · have hr := (g5 k0 hlt).1
      have hp := sgn_pos (g5 k0 hlt).2
      refine wp_stmt_seq [kT] [.inr 0] [.inl 0, .inr 0, .inr 1, .inr 2] follows S4 rfl (by kernel_rfl) ?_ ?_
      · refine ⟨trivial, ?_⟩
        · exact b_lss_int_t wA (oS 2 31) (oS 1 30)
      intro B5 a5 W5 (S5 : Sta w 51 [(1, (.box 25 (SF [(Vv nD D K), (Mv nL L K)])))] [(32, bT), (29, Mv nL L K), (30, iV (nL : Nat)), (31, iV (k0 : Nat))] _ _ _)
      refine wp_seq ?_
      refine wp_cond_true (S5.bool 0 32 rfl) ?_
      refine wp_skip ?_
      refine thenN ?_
      refine wp_seq ?_
      refine wp_block ?_
      refine wp_stmt_seq [.val (iV (k0 : Nat)), .val (AtE 1 (Vv ((L.getD k0 []).length) (L.getD k0 []) K)), .val (Vv ((L.getD k0 []).length) (L.getD k0 []) K), .val (iV (k0 : Nat)), .val (Vv ((L.getD k0 []).length) (L.getD k0 []) K)] [.inr 0] [.inl 3, .inl 4, .inr 1, .inr 2, .inr 3] follows S5 rfl (by kernel_rfl) ?_ ?_
      · refine ⟨⟨⟨⟨⟨trivial, ?_⟩, ?_⟩, ?_⟩, ?_⟩, ?_⟩
        · exact mS 3 31
        · exact owe_aindex rfl wA rfl idx_rows (oS 1 29) (oS 3 31) (vv_at (by omega)) rfl
        · exact owe_aload rfl wA rfl ldr_row1 (by decide) cel_vv (oO 1 34) rfl
        · exact mO 0 33
        · exact mO 2 35
      intro B6 a6 W6 (S6 : Sta w 51 [(1, (.box 25 (SF [(Vv nD D K), (Mv nL L K)])))] [(3, iV (k0 : Nat)), (4, Vv ((L.getD k0 []).length) (L.getD k0 []) K), (29, Mv nL L K), (30, iV (nL : Nat)), (31, iV (k0 : Nat))] _ _ _)
      refine wp_stmt_seq [.val (Vv ((L.getD k0 []).length) (L.getD k0 []) K), .val (iV ((L.getD k0 []).length : Nat)), .val (iV (k0 : Nat)), kF, kF, .val (Part a6 1 0), .val (Vv nD D K), .val (iV (k0 : Nat)), .val (iV ((k0 + 1 : Nat) : Int)), .val (AtE 2 (Zv (D.getD (k0 + 1) 0) K)), .val (Zv (D.getD (k0 + 1) 0) K), .val (iV ((D.getD (k0 + 1) 0).sign)), kF, kF] [.inr 0] [.inl 13, .inr 2, .inr 3, .inr 4] follows S6 rfl (by kernel_rfl) ?_ ?_
      · repeat' refine And.intro ?_ ?_
        · trivial
        · exact mS 1 4
        · exact owe_len rfl wA rfl (oO 0 36) ar_len Tryz.underlying22 rfl
        · exact mS 0 3
        · exact b_neq_int_f wA (oO 1 37) (oO 2 38)
        · exact mO 3 39
        · exact owe_part rfl (wI 4 40) rfl (k := 0) rfl (by kernel_rfl) rfl (fun ρ w b h => part_gso0 ρ _ _ w b 0 h)
        · exact owe_pload rfl (wI 4 40) rfl (oO 5 41) (k := 0) rfl (by kernel_rfl) rfl (fun ρ w b u h1 h2 h3 => ploadS rfl load1_vec ρ _ _ w b u h1 h2 h3)
        · exact mW (wI 4 40) (oS 0 3)
        · exact b_add_int (wI 4 40) (oO 7 43) (opnd_const _)
        · exact owe_aindex rfl (wI 4 40) rfl idx_ints (oO 6 42) (oO 8 44) (zv_at (by omega)) rfl
        · exact owe_aload rfl (wI 4 40) rfl ldr_int (by decide) (cel_shp (by decide) shp_zv) (oO 9 45) rfl
        · exact cc1 (wI 4 40) (qO 10 46 rfl) (fresh_is _) (fun w u h1 => h_zsign (by omega) w u ((fun _ _ h => h) _ _ h1))
        · exact b_leq_int_f (wI 4 40) (oO 11 47) (opnd_const _)
        · exact pF wA (oO 4 40) (oO 12 48)
      intro B7 a7 W7 (S7 : Sta w 51 [(1, (.box 25 (SF [(Vv nD D K), (Mv nL L K)])))] [(49, bF), (29, Mv nL L K), (30, iV (nL : Nat)), (31, iV (k0 : Nat))] _ _ _)
      refine wp_cond_false (S7.bool 0 49 rfl) ?_
      refine wp_skip ?_
      refine inBlkN ?_
      refine thenN ?_
      refine wp_stmt [.val (iV (k0 + 1 : Nat)), .val (iV (k0 + 1 : Nat))] [.inr 0] [.inl 1, .inr 1, .inr 2] follows S7 rfl (by kernel_rfl) ?_ ?_
      · refine ⟨⟨trivial, ?_⟩, ?_⟩
        · exact b_add_int wA (oS 3 31) (opnd_const _)
        · exact mO 0 50
      intro B8 a8 W8 (S8 : Sta w 51 [(1, (.box 25 (SF [(Vv nD D K), (Mv nL L K)])))] [(31, iV (k0 + 1 : Nat)), (29, Mv nL L K), (30, iV (nL : Nat))] _ _ _)
      refine thenN ?_
      exact ⟨k0 + 1, ⟨by omega, B8, S8.sub [0] [1, 2, 0]⟩, by omega⟩
    · have ek : k0 = i0 := by omega
      rw [← ek] at g6
      refine wp_stmt_seq [kT] [.inr 0] [.inl 0, .inr 0, .inr 1, .inr 2] follows S4 rfl (by kernel_rfl) ?_ ?_
      · refine ⟨trivial, ?_⟩
        · exact b_lss_int_t wA (oS 2 31) (oS 1 30)
      intro B5 a5 W5 (S5 : Sta w 51 [(1, (.box 25 (SF [(Vv nD D K), (Mv nL L K)])))] [(32, bT), (29, Mv nL L K), (30, iV (nL : Nat)), (31, iV (k0 : Nat))] _ _ _)
      refine wp_seq ?_
      refine wp_cond_true (S5.bool 0 32 rfl) ?_
      refine wp_skip ?_
      refine thenN ?_
      refine wp_seq ?_
      refine wp_block ?_
      refine wp_stmt_seq [.val (iV (k0 : Nat)), .val (AtE 1 (Vv ((L.getD k0 []).length) (L.getD k0 []) K)), .val (Vv ((L.getD k0 []).length) (L.getD k0 []) K), .val (iV (k0 : Nat)), .val (Vv ((L.getD k0 []).length) (L.getD k0 []) K)] [.inr 0] [.inl 3, .inl 4, .inr 1, .inr 2, .inr 3] follows S5 rfl (by kernel_rfl) ?_ ?_
      · refine ⟨⟨⟨⟨⟨trivial, ?_⟩, ?_⟩, ?_⟩, ?_⟩, ?_⟩
        · exact mS 3 31
        · exact owe_aindex rfl wA rfl idx_rows (oS 1 29) (oS 3 31) (vv_at (by omega)) rfl
        · exact owe_aload rfl wA rfl ldr_row1 (by decide) cel_vv (oO 1 34) rfl
        · exact mO 0 33
        · exact mO 2 35
      intro B6 a6 W6 (S6 : Sta w 51 [(1, (.box 25 (SF [(Vv nD D K), (Mv nL L K)])))] [(3, iV (k0 : Nat)), (4, Vv ((L.getD k0 []).length) (L.getD k0 []) K), (29, Mv nL L K), (30, iV (nL : Nat)), (31, iV (k0 : Nat))] _ _ _)
      rcases g6 with g6 | ⟨g6, g7⟩
      · skip
        refine wp_stmt_seq [.val (Vv ((L.getD k0 []).length) (L.getD k0 []) K), .val (iV ((L.getD k0 []).length : Nat)), .val (iV (k0 : Nat)), kT, kT, .off, .off, .off, .off, .off, .off, .off, .off, kT] [.inr 0] [.inl 13, .inr 2, .inr 3, .inr 4] follows S6 rfl (by kernel_rfl) ?_ ?_
        · repeat' refine And.intro ?_ ?_
          · trivial
          · exact mS 1 4
          · exact owe_len rfl wA rfl (oO 0 36) ar_len Tryz.underlying22 rfl
          · exact mS 0 3
          · exact b_neq_int_t wA (oO 1 37) (oO 2 38)
          · exact mO 3 39
          · exact oF 4 40
          · exact oF 4 40
          · exact oF 4 40
          · exact oF 4 40
          · exact oF 4 40
          · exact oF 4 40
          · exact oF 4 40
          · exact oF 4 40
          · exact pT wA (oO 4 40) (opnd_const _)
        intro B7 a7 W7 (S7 : Sta w 51 [(1, (.box 25 (SF [(Vv nD D K), (Mv nL L K)])))] [(49, bT), (29, Mv nL L K), (30, iV (nL : Nat)), (31, iV (k0 : Nat))] _ _ _)
        refine wp_cond_true (S7.bool 0 49 rfl) ?_
        refine wp_stmt_seq [kF] [.inr 0] [.inl 0, .inr 1, .inr 2, .inr 3] follows S7 rfl (by kernel_rfl) ?_ ?_
        · refine ⟨trivial, ?_⟩
          · exact mC
        intro B8 a8 W8 (S8 : Sta w 51 [(1, (.box 25 (SF [(Vv nD D K), (Mv nL L K)])))] [(2, bF), (29, Mv nL L K), (30, iV (nL : Nat)), (31, iV (k0 : Nat))] _ _ _)
        refine wp_ret ?_
        refine inBlkR ?_
        refine thenR ?_
        refine thenR ?_
        refine inBlkR ?_
        refine thenR ?_
        exact end_one S8 rfl (res_tmp S8 0 2 rfl)
      · skip
        have hp := sgn_npos g7
        refine wp_stmt_seq [.val (Vv ((L.getD k0 []).length) (L.getD k0 []) K), .val (iV ((L.getD k0 []).length : Nat)), .val (iV (k0 : Nat)), kF, kF, .val (Part a6 1 0), .val (Vv nD D K), .val (iV (k0 : Nat)), .val (iV ((k0 + 1 : Nat) : Int)), .val (AtE 2 (Zv (D.getD (k0 + 1) 0) K)), .val (Zv (D.getD (k0 + 1) 0) K), .val (iV ((D.getD (k0 + 1) 0).sign)), kT, kT] [.inr 0] [.inl 13, .inr 2, .inr 3, .inr 4] follows S6 rfl (by kernel_rfl) ?_ ?_
        · repeat' refine And.intro ?_ ?_
          · trivial
          · exact mS 1 4
          · exact owe_len rfl wA rfl (oO 0 36) ar_len Tryz.underlying22 rfl
          · exact mS 0 3
          · exact b_neq_int_f wA (oO 1 37) (oO 2 38)
          · exact mO 3 39
          · exact owe_part rfl (wI 4 40) rfl (k := 0) rfl (by kernel_rfl) rfl (fun ρ w b h => part_gso0 ρ _ _ w b 0 h)
          · exact owe_pload rfl (wI 4 40) rfl (oO 5 41) (k := 0) rfl (by kernel_rfl) rfl (fun ρ w b u h1 h2 h3 => ploadS rfl load1_vec ρ _ _ w b u h1 h2 h3)
          · exact mW (wI 4 40) (oS 0 3)
          · exact b_add_int (wI 4 40) (oO 7 43) (opnd_const _)
          · exact owe_aindex rfl (wI 4 40) rfl idx_ints (oO 6 42) (oO 8 44) (zv_at (by omega)) rfl
          · exact owe_aload rfl (wI 4 40) rfl ldr_int (by decide) (cel_shp (by decide) shp_zv) (oO 9 45) rfl
          · exact cc1 (wI 4 40) (qO 10 46 rfl) (fresh_is _) (fun w u h1 => h_zsign (by omega) w u ((fun _ _ h => h) _ _ h1))
          · exact b_leq_int_t (wI 4 40) (oO 11 47) (opnd_const _)
          · exact pF wA (oO 4 40) (oO 12 48)
        intro B7 a7 W7 (S7 : Sta w 51 [(1, (.box 25 (SF [(Vv nD D K), (Mv nL L K)])))] [(49, bT), (29, Mv nL L K), (30, iV (nL : Nat)), (31, iV (k0 : Nat))] _ _ _)
        refine wp_cond_true (S7.bool 0 49 rfl) ?_
        refine wp_stmt_seq [kF] [.inr 0] [.inl 0, .inr 1, .inr 2, .inr 3] follows S7 rfl (by kernel_rfl) ?_ ?_
        · refine ⟨trivial, ?_⟩
          · exact mC
        intro B8 a8 W8 (S8 : Sta w 51 [(1, (.box 25 (SF [(Vv nD D K), (Mv nL L K)])))] [(2, bF), (29, Mv nL L K), (30, iV (nL : Nat)), (31, iV (k0 : Nat))] _ _ _)
        refine wp_ret ?_
        refine inBlkR ?_
        refine thenR ?_
        refine thenR ?_
        refine inBlkR ?_
        refine thenR ?_
        exact end_one S8 rfl (res_tmp S8 0 2 rfl)

set_option maxHeartbeats 2000000 in
theorem good_t (w : World) (u : Value) (nD nL K : Nat) (D : List Int) (L : List (List Int)) (h : Hs w (SF [Vv nD D K, Mv nL L K]) u) (hD : nD ≤ 1048576) (hL : nL ≤ 1048576) (hK : K ≤ 1048576) (lD : D.length = nD) (lL : L.length = nL) (g : Good D L) :
    Calls Tryz.prog 7 #[u] w (Gives (IS (.bool true)) w) := by
  have hs := g.some
  have hl := g.len
  have h1 := g.one
  have hpos : ∀ i, i < nD → 0 < D.getD i 0 := fun i hi => g.d i (by omega)
  have hone : ((D.getD 0 0) - (1)).sign = 0 := sgn0 (by omega)
  refine calls_sta (sl := [(0, (SF [(Vv nD D K), (Mv nL L K)]))]) Tryz.func7 rfl Tryz.ntmps7 (by simp) (args_cons rfl (h) args_nil) ?_
  intro a0 S0
  refine wp_stmt_seq [.new (.box 25 (SF [(Vv nD D K), (Mv nL L K)])), kF] [.inl 0] [] follows S0 rfl (by kernel_rfl) ?_ ?_
  · refine ⟨⟨trivial, ?_⟩, ?_⟩
    · exact owe_box rfl wA rfl (oS 0 0) rfl (fun ρ w h => box_gso shp_sf2 ρ _ _ w h)
    · exact mC
  intro B1 a1 W1 (S1 : Sta w 57 [(1, (.box 25 (SF [(Vv nD D K), (Mv nL L K)])))] [] _ _ _)
  refine wp_seq ?_
  refine wp_stmt_seq [.val (Part a1 1 1), .val (Mv nL L K), .val (iV (nL : Nat)), kF, kF, .val (Part a1 1 0), .val (Vv nD D K), .val (iV (nD : Nat)), .val (Part a1 1 1), .val (Mv nL L K), .val (iV (nL : Nat)), .val (iV ((nL + 1 : Nat) : Int)), kF, kF, kF, .val (Part a1 1 0), .val (Vv nD D K), .val (AtE 2 (Zv (D.getD 0 0) K)), .val (Zv (D.getD 0 0) K), .val ((ZN (1)) w.heap.size), .val (iV (((D.getD 0 0) - 1).sign)), kF, kF] [.inr 0] [.inl 22] follows S1 rfl (by kernel_rfl) ?_ ?_
  · repeat' refine And.intro ?_ ?_
    · trivial
    · exact owe_part rfl wA rfl (k := 0) rfl (by kernel_rfl) rfl (fun ρ w b h => part_gso1 ρ _ _ w b 0 h)
    · exact owe_pload rfl wA rfl (oO 0 5) (k := 0) rfl (by kernel_rfl) rfl (fun ρ w b u h1 h2 h3 => ploadS rfl load1_mat ρ _ _ w b u h1 h2 h3)
    · exact owe_len rfl wA rfl (oO 1 6) ar_len Tryz.underlying23 rfl
    · exact b_eql_int_f wA (oO 2 7) (opnd_const _)
    · exact mO 3 8
    · exact owe_part rfl (wI 4 9) rfl (k := 0) rfl (by kernel_rfl) rfl (fun ρ w b h => part_gso0 ρ _ _ w b 0 h)
    · exact owe_pload rfl (wI 4 9) rfl (oO 5 10) (k := 0) rfl (by kernel_rfl) rfl (fun ρ w b u h1 h2 h3 => ploadS rfl load1_vec ρ _ _ w b u h1 h2 h3)
    · exact owe_len rfl (wI 4 9) rfl (oO 6 11) ar_len Tryz.underlying22 rfl
    · exact owe_part rfl (wI 4 9) rfl (k := 0) rfl (by kernel_rfl) rfl (fun ρ w b h => part_gso1 ρ _ _ w b 0 h)
    · exact owe_pload rfl (wI 4 9) rfl (oO 8 13) (k := 0) rfl (by kernel_rfl) rfl (fun ρ w b u h1 h2 h3 => ploadS rfl load1_mat ρ _ _ w b u h1 h2 h3)
    · exact owe_len rfl (wI 4 9) rfl (oO 9 14) ar_len Tryz.underlying23 rfl
    · exact b_add_int (wI 4 9) (oO 10 15) (opnd_const _)
    · exact b_neq_int_f (wI 4 9) (oO 7 12) (oO 11 16)
    · exact pF wA (oO 4 9) (oO 12 17)
    · exact mO 13 18
    · exact owe_part rfl (wI 14 19) rfl (k := 0) rfl (by kernel_rfl) rfl (fun ρ w b h => part_gso0 ρ _ _ w b 0 h)
    · exact owe_pload rfl (wI 14 19) rfl (oO 15 20) (k := 0) rfl (by kernel_rfl) rfl (fun ρ w b u h1 h2 h3 => ploadS rfl load1_vec ρ _ _ w b u h1 h2 h3)
    · exact owe_aindex rfl (wI 14 19) rfl idx_ints (oO 16 21) (opnd_const _) (zv_at (k := 0) (by omega)) rfl
    · exact owe_aload rfl (wI 14 19) rfl ldr_int (by decide) (cel_shp (by decide) shp_zv) (oO 17 22) rfl
    · exact cc1 (wI 14 19) (opnd_const _) (fresh_zn _) (g_rof 1 (by omega) (by omega))
    · exact cc2 (wI 14 19) (qO 18 23 rfl) (qO 19 24 rfl) (fresh_is _) (fun w u v h1 h2 => h_rcmp (by omega) (by omega) w u v ((fun _ _ h => h) _ _ h1) ((zn_zv one_dl) _ _ h2))
    · exact b_neq_int_f (wI 14 19) (oO 20 25) (opnd_const _) (h := hone)
    · exact pF wA (oO 14 19) (oO 21 26)
  intro B2 a2 W2 (S2 : Sta w 57 [(1, (.box 25 (SF [(Vv nD D K), (Mv nL L K)])))] [(27, bF)] _ _ _)
  refine wp_cond_false (S2.bool 0 27 rfl) ?_
  refine wp_skip ?_
  refine thenN ?_
  refine wp_seq ?_
  refine wp_stmt_seq [.val (iV 0)] [.inr 0] [.inl 0] follows S2 rfl (by kernel_rfl) ?_ ?_
  · refine ⟨trivial, ?_⟩
    · exact mC
  intro B3 a3 W3 (S3 : Sta w 57 [(1, (.box 25 (SF [(Vv nD D K), (Mv nL L K)])))] [(3, iV 0)] _ _ _)
  refine wp_block ?_
  refine wp_loop_ghost (fun (k0 : Nat) a W => (k0 ≤ nD) ∧ ∃ Bq, Sta w 57 [(1, (.box 25 (SF [(Vv nD D K), (Mv nL L K)])))] [(3, iV (k0 : Nat))] Bq a W) (fun (k0 : Nat) => nD - k0) ?_ 0 ⟨Nat.zero_le _, B3, S3.sub [0] [0]⟩
  rintro k0 a4 W4 ⟨hcond, B4, S4⟩
  by_cases hlt : k0 < nD
  · have hp := sgn_pos (hpos k0 hlt)
    refine wp_seq ?_
    refine wp_stmt_seq [.val (iV (k0 : Nat)), .val (Part a4 1 0), .val (Vv nD D K), .val (iV (nD : Nat)), kT] [.inr 0] [.inl 4, .inr 0] follows S4 rfl (by kernel_rfl) ?_ ?_
    · refine ⟨⟨⟨⟨⟨trivial, ?_⟩, ?_⟩, ?_⟩, ?_⟩, ?_⟩
      · exact mS 0 3
      · exact owe_part rfl wA rfl (k := 0) rfl (by kernel_rfl) rfl (fun ρ w b h => part_gso0 ρ _ _ w b 0 h)
      · exact owe_pload rfl wA rfl (oO 1 29) (k := 0) rfl (by kernel_rfl) rfl (fun ρ w b u h1 h2 h3 => ploadS rfl load1_vec ρ _ _ w b u h1 h2 h3)
      · exact owe_len rfl wA rfl (oO 2 30) ar_len Tryz.underlying22 rfl
      · exact b_lss_int_t wA (oO 0 28) (oO 3 31)
    intro B5 a5 W5 (S5 : Sta w 57 [(1, (.box 25 (SF [(Vv nD D K), (Mv nL L K)])))] [(32, bT), (3, iV (k0 : Nat))] _ _ _)
    refine wp_cond_true (S5.bool 0 32 rfl) ?_
    refine wp_skip ?_
    refine thenN ?_
    refine wp_seq ?_
    refine wp_block ?_
    refine wp_stmt_seq [.val (Part a5 1 0), .val (Vv nD D K), .val (iV (k0 : Nat)), .val (AtE 2 (Zv (D.getD k0 0) K)), .val (Zv (D.getD k0 0) K), .val (iV ((D.getD k0 0).sign)), kF] [.inr 0] [.inl 6, .inr 1] follows S5 rfl (by kernel_rfl) ?_ ?_
    · repeat' refine And.intro ?_ ?_
      · trivial
      · exact owe_part rfl wA rfl (k := 0) rfl (by kernel_rfl) rfl (fun ρ w b h => part_gso0 ρ _ _ w b 0 h)
      · exact owe_pload rfl wA rfl (oO 0 35) (k := 0) rfl (by kernel_rfl) rfl (fun ρ w b u h1 h2 h3 => ploadS rfl load1_vec ρ _ _ w b u h1 h2 h3)
      · exact mS 1 3
      · exact owe_aindex rfl wA rfl idx_ints (oO 1 36) (oO 2 37) (zv_at (by omega)) rfl
      · exact owe_aload rfl wA rfl ldr_int (by decide) (cel_shp (by decide) shp_zv) (oO 3 38) rfl
      · exact cc1 wA (qO 4 39 rfl) (fresh_is _) (fun w u h1 => g_rsign (by omega) w u ((fun _ _ h => h) _ _ h1))
      · exact b_leq_int_f wA (oO 5 40) (opnd_const _)
    intro B6 a6 W6 (S6 : Sta w 57 [(1, (.box 25 (SF [(Vv nD D K), (Mv nL L K)])))] [(41, bF), (3, iV (k0 : Nat))] _ _ _)
    refine wp_cond_false (S6.bool 0 41 rfl) ?_
    refine wp_skip ?_
    refine inBlkN ?_
    refine thenN ?_
    refine wp_stmt [.val (iV (k0 : Nat)), .val (iV (k0 + 1 : Nat)), .val (iV (k0 + 1 : Nat))] [.inr 0] [.inl 2] follows S6 rfl (by kernel_rfl) ?_ ?_
    · refine ⟨⟨⟨trivial, ?_⟩, ?_⟩, ?_⟩
      · exact mS 1 3
      · exact b_add_int wA (oO 0 33) (opnd_const _)
      · exact mO 1 34
    intro B7 a7 W7 (S7 : Sta w 57 [(1, (.box 25 (SF [(Vv nD D K), (Mv nL L K)])))] [(3, iV (k0 + 1 : Nat))] _ _ _)
    refine thenN ?_
    exact ⟨k0 + 1, ⟨by omega, B7, S7.sub [0] [0]⟩, by omega⟩
  · skip
    refine wp_seq ?_
    refine wp_stmt_seq [.val (iV (k0 : Nat)), .val (Part a4 1 0), .val (Vv nD D K), .val (iV (nD : Nat)), kF] [.inr 0] [.inl 4, .inr 0] follows S4 rfl (by kernel_rfl) ?_ ?_
    · refine ⟨⟨⟨⟨⟨trivial, ?_⟩, ?_⟩, ?_⟩, ?_⟩, ?_⟩
      · exact mS 0 3
      · exact owe_part rfl wA rfl (k := 0) rfl (by kernel_rfl) rfl (fun ρ w b h => part_gso0 ρ _ _ w b 0 h)
      · exact owe_pload rfl wA rfl (oO 1 29) (k := 0) rfl (by kernel_rfl) rfl (fun ρ w b u h1 h2 h3 => ploadS rfl load1_vec ρ _ _ w b u h1 h2 h3)
      · exact owe_len rfl wA rfl (oO 2 30) ar_len Tryz.underlying22 rfl
      · exact b_lss_int_f wA (oO 0 28) (oO 3 31)
    intro B5 a5 W5 (S5 : Sta w 57 [(1, (.box 25 (SF [(Vv nD D K), (Mv nL L K)])))] [(32, bF), (3, iV (k0 : Nat))] _ _ _)
    refine wp_cond_false (S5.bool 0 32 rfl) ?_
    refine wp_exit ?_
    refine thenX ?_
    refine thenX ?_
    refine inBlkE ?_
    refine thenN ?_
    refine wp_seq ?_
    refine wp_stmt_seq [.val (iV 0)] [.inr 0] [.inl 0, .inr 1] follows S5 rfl (by kernel_rfl) ?_ ?_
    · refine ⟨trivial, ?_⟩
      · exact mC
    intro B6 a6 W6 (S6 : Sta w 57 [(1, (.box 25 (SF [(Vv nD D K), (Mv nL L K)])))] [(4, iV 0), (3, iV (k0 : Nat))] _ _ _)
    refine wp_block ?_
    refine wp_loop_ghost (fun (k0 : Nat) a W => (k0 ≤ nL) ∧ ∃ Bq, Sta w 57 [(1, (.box 25 (SF [(Vv nD D K), (Mv nL L K)])))] [(4, iV (k0 : Nat))] Bq a W) (fun (k0 : Nat) => nL - k0) ?_ 0 ⟨Nat.zero_le _, B6, S6.sub [0] [0]⟩
    rintro k0 a7 W7 ⟨hcond, B7, S7⟩
    by_cases hlt : k0 < nL
    · have hr := g.row k0 (by omega)
      refine wp_seq ?_
      refine wp_stmt_seq [.val (iV (k0 : Nat)), .val (Part a7 1 1), .val (Mv nL L K), .val (iV (nL : Nat)), kT] [.inr 0] [.inl 4, .inr 0] follows S7 rfl (by kernel_rfl) ?_ ?_
      · refine ⟨⟨⟨⟨⟨trivial, ?_⟩, ?_⟩, ?_⟩, ?_⟩, ?_⟩
        · exact mS 0 4
        · exact owe_part rfl wA rfl (k := 0) rfl (by kernel_rfl) rfl (fun ρ w b h => part_gso1 ρ _ _ w b 0 h)
        · exact owe_pload rfl wA rfl (oO 1 43) (k := 0) rfl (by kernel_rfl) rfl (fun ρ w b u h1 h2 h3 => ploadS rfl load1_mat ρ _ _ w b u h1 h2 h3)
        · exact owe_len rfl wA rfl (oO 2 44) ar_len Tryz.underlying23 rfl
        · exact b_lss_int_t wA (oO 0 42) (oO 3 45)
      intro B8 a8 W8 (S8 : Sta w 57 [(1, (.box 25 (SF [(Vv nD D K), (Mv nL L K)])))] [(46, bT), (4, iV (k0 : Nat))] _ _ _)
      refine wp_cond_true (S8.bool 0 46 rfl) ?_
      refine wp_skip ?_
      refine thenN ?_
      refine wp_seq ?_
      refine wp_block ?_
      refine wp_stmt_seq [.val (Part a8 1 1), .val (Mv nL L K), .val (iV (k0 : Nat)), .val (AtE 1 (Vv ((L.getD k0 []).length) (L.getD k0 []) K)), .val (Vv ((L.getD k0 []).length) (L.getD k0 []) K), .val (iV ((L.getD k0 []).length : Nat)), .val (iV (k0 : Nat)), kF] [.inr 0] [.inl 7, .inr 1] follows S8 rfl (by kernel_rfl) ?_ ?_
      · repeat' refine And.intro ?_ ?_
        · trivial
        · exact owe_part rfl wA rfl (k := 0) rfl (by kernel_rfl) rfl (fun ρ w b h => part_gso1 ρ _ _ w b 0 h)
        · exact owe_pload rfl wA rfl (oO 0 49) (k := 0) rfl (by kernel_rfl) rfl (fun ρ w b u h1 h2 h3 => ploadS rfl load1_mat ρ _ _ w b u h1 h2 h3)
        · exact mS 1 4
        · exact owe_aindex rfl wA rfl idx_rows (oO 1 50) (oO 2 51) (vv_at (by omega)) rfl
        · exact owe_aload rfl wA rfl ldr_row1 (by decide) cel_vv (oO 3 52) rfl
        · exact owe_len rfl wA rfl (oO 4 53) ar_len Tryz.underlying22 rfl
        · exact mS 1 4
        · exact b_neq_int_f wA (oO 5 54) (oO 6 55)
      intro B9 a9 W9 (S9 : Sta w 57 [(1, (.box 25 (SF [(Vv nD D K), (Mv nL L K)])))] [(56, bF), (4, iV (k0 : Nat))] _ _ _)
      refine wp_cond_false (S9.bool 0 56 rfl) ?_
      refine wp_skip ?_
      refine inBlkN ?_
      refine thenN ?_
      refine wp_stmt [.val (iV (k0 : Nat)), .val (iV (k0 + 1 : Nat)), .val (iV (k0 + 1 : Nat))] [.inr 0] [.inl 2] follows S9 rfl (by kernel_rfl) ?_ ?_
      · refine ⟨⟨⟨trivial, ?_⟩, ?_⟩, ?_⟩
        · exact mS 1 4
        · exact b_add_int wA (oO 0 47) (opnd_const _)
        · exact mO 1 48
      intro B10 a10 W10 (S10 : Sta w 57 [(1, (.box 25 (SF [(Vv nD D K), (Mv nL L K)])))] [(4, iV (k0 + 1 : Nat))] _ _ _)
      refine thenN ?_
      exact ⟨k0 + 1, ⟨by omega, B10, S10.sub [0] [0]⟩, by omega⟩
    · skip
      refine wp_seq ?_
      refine wp_stmt_seq [.val (iV (k0 : Nat)), .val (Part a7 1 1), .val (Mv nL L K), .val (iV (nL : Nat)), kF] [.inr 0] [.inl 4, .inr 0] follows S7 rfl (by kernel_rfl) ?_ ?_
      · refine ⟨⟨⟨⟨⟨trivial, ?_⟩, ?_⟩, ?_⟩, ?_⟩, ?_⟩
        · exact mS 0 4
        · exact owe_part rfl wA rfl (k := 0) rfl (by kernel_rfl) rfl (fun ρ w b h => part_gso1 ρ _ _ w b 0 h)
        · exact owe_pload rfl wA rfl (oO 1 43) (k := 0) rfl (by kernel_rfl) rfl (fun ρ w b u h1 h2 h3 => ploadS rfl load1_mat ρ _ _ w b u h1 h2 h3)
        · exact owe_len rfl wA rfl (oO 2 44) ar_len Tryz.underlying23 rfl
        · exact b_lss_int_f wA (oO 0 42) (oO 3 45)
      intro B8 a8 W8 (S8 : Sta w 57 [(1, (.box 25 (SF [(Vv nD D K), (Mv nL L K)])))] [(46, bF), (4, iV (k0 : Nat))] _ _ _)
      refine wp_cond_false (S8.bool 0 46 rfl) ?_
      refine wp_exit ?_
      refine thenX ?_
      refine thenX ?_
      refine inBlkE ?_
      refine thenN ?_
      refine wp_stmt_seq [kT] [.inr 0] [.inl 0, .inr 1] follows S8 rfl (by kernel_rfl) ?_ ?_
      · refine ⟨trivial, ?_⟩
        · exact mC
      intro B9 a9 W9 (S9 : Sta w 57 [(1, (.box 25 (SF [(Vv nD D K), (Mv nL L K)])))] [(2, bT), (4, iV (k0 : Nat))] _ _ _)
      refine wp_ret ?_
      exact end_one S9 rfl (res_tmp S9 0 2 rfl)


/-- How the document finds that it fails. -/
inductive RBad (D : List Int) (L : List (List Int)) : Prop
  | none : L.length = 0 → RBad D L
  | len : L.length ≠ 0 → D.length ≠ L.length + 1 → RBad D L
  | one : L.length ≠ 0 → D.length = L.length + 1 → D.getD 0 0 ≠ 1 → RBad D L
  | pos (i0 : Nat) : L.length ≠ 0 → D.length = L.length + 1 → D.getD 0 0 = 1 → i0 < D.length → (∀ j, j < i0 → 0 < D.getD j 0) → D.getD i0 0 ≤ 0 → RBad D L
  | row (i0 : Nat) : L.length ≠ 0 → D.length = L.length + 1 → D.getD 0 0 = 1 → (∀ j, j < D.length → 0 < D.getD j 0) → i0 < L.length → (∀ j, j < i0 → (L.getD j []).length = j) → (L.getD i0 []).length ≠ i0 → RBad D L
theorem Bad.r {D : List Int} {L : List (List Int)} (h : Bad D L) : RBad D L := by
  cases h with
  | none h => exact .none h
  | len h1 h2 => exact .len h1 h2
  | one h1 h2 h3 => exact .one h1 h2 h3
  | row i0 h1 h2 h3 h4 h5 h6 =>
    rcases first_off (fun j => decide (0 < D.getD j 0)) D.length with h | ⟨i, hi, h7, h8⟩
    · rcases first_off (fun j => decide ((L.getD j []).length = j)) L.length with g | ⟨j, hj, g1, g2⟩
      · rcases h6 with h6 | ⟨_, h6⟩
        · exact absurd (of_decide_eq_true (g i0 h4)) h6
        · have := of_decide_eq_true (h (i0 + 1) (by omega)); omega
      · exact .row j h1 h2 h3 (fun k hk => of_decide_eq_true (h k hk)) hj (fun k hk => of_decide_eq_true (g2 k hk)) (of_decide_eq_false g1)
    · exact .pos i h1 h2 h3 hi (fun j hj => of_decide_eq_true (h8 j hj)) (by have := of_decide_eq_false h7; omega)

set_option maxHeartbeats 4000000 in
theorem good_f0 (w : World) (u : Value) (nD nL K : Nat) (D : List Int) (L : List (List Int)) (h : Hs w (SF [Vv nD D K, Mv nL L K]) u) (hD : nD ≤ 1048576) (hL : nL ≤ 1048576) (hK : K ≤ 1048576) (lD : D.length = nD) (lL : L.length = nL) (g : L.length = 0 ∨ (L.length ≠ 0 ∧ D.length ≠ L.length + 1) ∨ (L.length ≠ 0 ∧ D.length = L.length + 1 ∧ D.getD 0 0 ≠ 1)) :
    Calls Tryz.prog 7 #[u] w (Gives (IS (.bool false)) w) := by
  refine calls_sta (sl := [(0, (SF [(Vv nD D K), (Mv nL L K)]))]) Tryz.func7 rfl Tryz.ntmps7 (by simp) (args_cons rfl (h) args_nil) ?_
  intro a0 S0
  refine wp_stmt_seq [.new (.box 25 (SF [(Vv nD D K), (Mv nL L K)])), kF] [.inl 0] [] follows S0 rfl (by kernel_rfl) ?_ ?_
  · refine ⟨⟨trivial, ?_⟩, ?_⟩
    · exact owe_box rfl wA rfl (oS 0 0) rfl (fun ρ w h => box_gso shp_sf2 ρ _ _ w h)
    · exact mC
  intro B1 a1 W1 (S1 : Sta w 57 [(1, (.box 25 (SF [(Vv nD D K), (Mv nL L K)])))] [] _ _ _)
  rcases g with g1 | ⟨g1, g2⟩ | ⟨g1, g2, g3⟩
  · skip
    refine wp_seq ?_
    refine wp_stmt_seq [.val (Part a1 1 1), .val (Mv nL L K), .val (iV (nL : Nat)), kT, kT, .off, .off, .off, .off, .off, .off, .off, .off, kT, kT, .off, .off, .off, .off, .off, .off, .off, kT] [.inr 0] [.inl 22] follows S1 rfl (by kernel_rfl) ?_ ?_
    · repeat' refine And.intro ?_ ?_
      · trivial
      · exact owe_part rfl wA rfl (k := 0) rfl (by kernel_rfl) rfl (fun ρ w b h => part_gso1 ρ _ _ w b 0 h)
      · exact owe_pload rfl wA rfl (oO 0 5) (k := 0) rfl (by kernel_rfl) rfl (fun ρ w b u h1 h2 h3 => ploadS rfl load1_mat ρ _ _ w b u h1 h2 h3)
      · exact owe_len rfl wA rfl (oO 1 6) ar_len Tryz.underlying23 rfl
      · exact b_eql_int_t wA (oO 2 7) (opnd_const _)
      · exact mO 3 8
      · exact oF 4 9
      · exact oF 4 9
      · exact oF 4 9
      · exact oF 4 9
      · exact oF 4 9
      · exact oF 4 9
      · exact oF 4 9
      · exact oF 4 9
      · exact pT wA (oO 4 9) (opnd_const _)
      · exact mO 13 18
      · exact oF 14 19
      · exact oF 14 19
      · exact oF 14 19
      · exact oF 14 19
      · exact oF 14 19
      · exact oF 14 19
      · exact oF 14 19
      · exact pT wA (oO 14 19) (opnd_const _)
    intro B2 a2 W2 (S2 : Sta w 57 [(1, (.box 25 (SF [(Vv nD D K), (Mv nL L K)])))] [(27, bT)] _ _ _)
    refine wp_cond_true (S2.bool 0 27 rfl) ?_
    refine wp_stmt_seq [kF] [.inr 0] [.inl 0] follows S2 rfl (by kernel_rfl) ?_ ?_
    · refine ⟨trivial, ?_⟩
      · exact mC
    intro B3 a3 W3 (S3 : Sta w 57 [(1, (.box 25 (SF [(Vv nD D K), (Mv nL L K)])))] [(2, bF)] _ _ _)
    refine wp_ret ?_
    refine thenR ?_
    exact end_one S3 rfl (res_tmp S3 0 2 rfl)
  · skip
    refine wp_seq ?_
    refine wp_stmt_seq [.val (Part a1 1 1), .val (Mv nL L K), .val (iV (nL : Nat)), kF, kF, .val (Part a1 1 0), .val (Vv nD D K), .val (iV (nD : Nat)), .val (Part a1 1 1), .val (Mv nL L K), .val (iV (nL : Nat)), .val (iV ((nL + 1 : Nat) : Int)), kT, kT, kT, .off, .off, .off, .off, .off, .off, .off, kT] [.inr 0] [.inl 22] follows S1 rfl (by kernel_rfl) ?_ ?_
    · repeat' refine And.intro ?_ ?_
      · trivial
      · exact owe_part rfl wA rfl (k := 0) rfl (by kernel_rfl) rfl (fun ρ w b h => part_gso1 ρ _ _ w b 0 h)
      · exact owe_pload rfl wA rfl (oO 0 5) (k := 0) rfl (by kernel_rfl) rfl (fun ρ w b u h1 h2 h3 => ploadS rfl load1_mat ρ _ _ w b u h1 h2 h3)
      · exact owe_len rfl wA rfl (oO 1 6) ar_len Tryz.underlying23 rfl
      · exact b_eql_int_f wA (oO 2 7) (opnd_const _)
      · exact mO 3 8
      · exact owe_part rfl (wI 4 9) rfl (k := 0) rfl (by kernel_rfl) rfl (fun ρ w b h => part_gso0 ρ _ _ w b 0 h)
      · exact owe_pload rfl (wI 4 9) rfl (oO 5 10) (k := 0) rfl (by kernel_rfl) rfl (fun ρ w b u h1 h2 h3 => ploadS rfl load1_vec ρ _ _ w b u h1 h2 h3)
      · exact owe_len rfl (wI 4 9) rfl (oO 6 11) ar_len Tryz.underlying22 rfl
      · exact owe_part rfl (wI 4 9) rfl (k := 0) rfl (by kernel_rfl) rfl (fun ρ w b h => part_gso1 ρ _ _ w b 0 h)
      · exact owe_pload rfl (wI 4 9) rfl (oO 8 13) (k := 0) rfl (by kernel_rfl) rfl (fun ρ w b u h1 h2 h3 => ploadS rfl load1_mat ρ _ _ w b u h1 h2 h3)
      · exact owe_len rfl (wI 4 9) rfl (oO 9 14) ar_len Tryz.underlying23 rfl
      · exact b_add_int (wI 4 9) (oO 10 15) (opnd_const _)
      · exact b_neq_int_t (wI 4 9) (oO 7 12) (oO 11 16)
      · exact pF wA (oO 4 9) (oO 12 17)
      · exact mO 13 18
      · exact oF 14 19
      · exact oF 14 19
      · exact oF 14 19
      · exact oF 14 19
      · exact oF 14 19
      · exact oF 14 19
      · exact oF 14 19
      · exact pT wA (oO 14 19) (opnd_const _)
    intro B2 a2 W2 (S2 : Sta w 57 [(1, (.box 25 (SF [(Vv nD D K), (Mv nL L K)])))] [(27, bT)] _ _ _)
    refine wp_cond_true (S2.bool 0 27 rfl) ?_
    refine wp_stmt_seq [kF] [.inr 0] [.inl 0] follows S2 rfl (by kernel_rfl) ?_ ?_
    · refine ⟨trivial, ?_⟩
      · exact mC
    intro B3 a3 W3 (S3 : Sta w 57 [(1, (.box 25 (SF [(Vv nD D K), (Mv nL L K)])))] [(2, bF)] _ _ _)
    refine wp_ret ?_
    refine thenR ?_
    exact end_one S3 rfl (res_tmp S3 0 2 rfl)
  · skip
    have hone : ((D.getD 0 0) - (1)).sign ≠ 0 := sgn_ne (by omega)
    refine wp_seq ?_
    refine wp_stmt_seq [.val (Part a1 1 1), .val (Mv nL L K), .val (iV (nL : Nat)), kF, kF, .val (Part a1 1 0), .val (Vv nD D K), .val (iV (nD : Nat)), .val (Part a1 1 1), .val (Mv nL L K), .val (iV (nL : Nat)), .val (iV ((nL + 1 : Nat) : Int)), kF, kF, kF, .val (Part a1 1 0), .val (Vv nD D K), .val (AtE 2 (Zv (D.getD 0 0) K)), .val (Zv (D.getD 0 0) K), .val ((ZN (1)) w.heap.size), .val (iV (((D.getD 0 0) - 1).sign)), kT, kT] [.inr 0] [.inl 22] follows S1 rfl (by kernel_rfl) ?_ ?_
    · repeat' refine And.intro ?_ ?_
      · trivial
      · exact owe_part rfl wA rfl (k := 0) rfl (by kernel_rfl) rfl (fun ρ w b h => part_gso1 ρ _ _ w b 0 h)
      · exact owe_pload rfl wA rfl (oO 0 5) (k := 0) rfl (by kernel_rfl) rfl (fun ρ w b u h1 h2 h3 => ploadS rfl load1_mat ρ _ _ w b u h1 h2 h3)
      · exact owe_len rfl wA rfl (oO 1 6) ar_len Tryz.underlying23 rfl
      · exact b_eql_int_f wA (oO 2 7) (opnd_const _)
      · exact mO 3 8
      · exact owe_part rfl (wI 4 9) rfl (k := 0) rfl (by kernel_rfl) rfl (fun ρ w b h => part_gso0 ρ _ _ w b 0 h)
      · exact owe_pload rfl (wI 4 9) rfl (oO 5 10) (k := 0) rfl (by kernel_rfl) rfl (fun ρ w b u h1 h2 h3 => ploadS rfl load1_vec ρ _ _ w b u h1 h2 h3)
      · exact owe_len rfl (wI 4 9) rfl (oO 6 11) ar_len Tryz.underlying22 rfl
      · exact owe_part rfl (wI 4 9) rfl (k := 0) rfl (by kernel_rfl) rfl (fun ρ w b h => part_gso1 ρ _ _ w b 0 h)
      · exact owe_pload rfl (wI 4 9) rfl (oO 8 13) (k := 0) rfl (by kernel_rfl) rfl (fun ρ w b u h1 h2 h3 => ploadS rfl load1_mat ρ _ _ w b u h1 h2 h3)
      · exact owe_len rfl (wI 4 9) rfl (oO 9 14) ar_len Tryz.underlying23 rfl
      · exact b_add_int (wI 4 9) (oO 10 15) (opnd_const _)
      · exact b_neq_int_f (wI 4 9) (oO 7 12) (oO 11 16)
      · exact pF wA (oO 4 9) (oO 12 17)
      · exact mO 13 18
      · exact owe_part rfl (wI 14 19) rfl (k := 0) rfl (by kernel_rfl) rfl (fun ρ w b h => part_gso0 ρ _ _ w b 0 h)
      · exact owe_pload rfl (wI 14 19) rfl (oO 15 20) (k := 0) rfl (by kernel_rfl) rfl (fun ρ w b u h1 h2 h3 => ploadS rfl load1_vec ρ _ _ w b u h1 h2 h3)
      · exact owe_aindex rfl (wI 14 19) rfl idx_ints (oO 16 21) (opnd_const _) (zv_at (k := 0) (by omega)) rfl
      · exact owe_aload rfl (wI 14 19) rfl ldr_int (by decide) (cel_shp (by decide) shp_zv) (oO 17 22) rfl
      · exact cc1 (wI 14 19) (opnd_const _) (fresh_zn _) (g_rof 1 (by omega) (by omega))
      · exact cc2 (wI 14 19) (qO 18 23 rfl) (qO 19 24 rfl) (fresh_is _) (fun w u v h1 h2 => h_rcmp (by omega) (by omega) w u v ((fun _ _ h => h) _ _ h1) ((zn_zv one_dl) _ _ h2))
      · exact b_neq_int_t (wI 14 19) (oO 20 25) (opnd_const _) (h := hone)
      · exact pF wA (oO 14 19) (oO 21 26)
    intro B2 a2 W2 (S2 : Sta w 57 [(1, (.box 25 (SF [(Vv nD D K), (Mv nL L K)])))] [(27, bT)] _ _ _)
    refine wp_cond_true (S2.bool 0 27 rfl) ?_
    refine wp_stmt_seq [kF] [.inr 0] [.inl 0] follows S2 rfl (by kernel_rfl) ?_ ?_
    · refine ⟨trivial, ?_⟩
      · exact mC
    intro B3 a3 W3 (S3 : Sta w 57 [(1, (.box 25 (SF [(Vv nD D K), (Mv nL L K)])))] [(2, bF)] _ _ _)
    refine wp_ret ?_
    refine thenR ?_
    exact end_one S3 rfl (res_tmp S3 0 2 rfl)

set_option maxHeartbeats 4000000 in
theorem good_f1 (w : World) (u : Value) (nD nL K : Nat) (D : List Int) (L : List (List Int)) (h : Hs w (SF [Vv nD D K, Mv nL L K]) u) (hD : nD ≤ 1048576) (hL : nL ≤ 1048576) (hK : K ≤ 1048576) (lD : D.length = nD) (lL : L.length = nL) (i0 : Nat) (g1 : L.length ≠ 0) (g2 : D.length = L.length + 1) (g3 : D.getD 0 0 = 1) (g4 : i0 < D.length) (g5 : ∀ j, j < i0 → 0 < D.getD j 0) (g6 : D.getD i0 0 ≤ 0) :
    Calls Tryz.prog 7 #[u] w (Gives (IS (.bool false)) w) := by
  have hone : ((D.getD 0 0) - (1)).sign = 0 := sgn0 (by omega)
  refine calls_sta (sl := [(0, (SF [(Vv nD D K), (Mv nL L K)]))]) Tryz.func7 rfl Tryz.ntmps7 (by simp) (args_cons rfl (h) args_nil) ?_
  intro a0 S0
  refine wp_stmt_seq [.new (.box 25 (SF [(Vv nD D K), (Mv nL L K)])), kF] [.inl 0] [] follows S0 rfl (by kernel_rfl) ?_ ?_
  · refine ⟨⟨trivial, ?_⟩, ?_⟩
    · exact owe_box rfl wA rfl (oS 0 0) rfl (fun ρ w h => box_gso shp_sf2 ρ _ _ w h)
    · exact mC
  intro B1 a1 W1 (S1 : Sta w 57 [(1, (.box 25 (SF [(Vv nD D K), (Mv nL L K)])))] [] _ _ _)
  refine wp_seq ?_
  refine wp_stmt_seq [.val (Part a1 1 1), .val (Mv nL L K), .val (iV (nL : Nat)), kF, kF, .val (Part a1 1 0), .val (Vv nD D K), .val (iV (nD : Nat)), .val (Part a1 1 1), .val (Mv nL L K), .val (iV (nL : Nat)), .val (iV ((nL + 1 : Nat) : Int)), kF, kF, kF, .val (Part a1 1 0), .val (Vv nD D K), .val (AtE 2 (Zv (D.getD 0 0) K)), .val (Zv (D.getD 0 0) K), .val ((ZN (1)) w.heap.size), .val (iV (((D.getD 0 0) - 1).sign)), kF, kF] [.inr 0] [.inl 22] follows S1 rfl (by kernel_rfl) ?_ ?_
  · repeat' refine And.intro ?_ ?_
    · trivial
    · exact owe_part rfl wA rfl (k := 0) rfl (by kernel_rfl) rfl (fun ρ w b h => part_gso1 ρ _ _ w b 0 h)
    · exact owe_pload rfl wA rfl (oO 0 5) (k := 0) rfl (by kernel_rfl) rfl (fun ρ w b u h1 h2 h3 => ploadS rfl load1_mat ρ _ _ w b u h1 h2 h3)
    · exact owe_len rfl wA rfl (oO 1 6) ar_len Tryz.underlying23 rfl
    · exact b_eql_int_f wA (oO 2 7) (opnd_const _)
    · exact mO 3 8
    · exact owe_part rfl (wI 4 9) rfl (k := 0) rfl (by kernel_rfl) rfl (fun ρ w b h => part_gso0 ρ _ _ w b 0 h)
    · exact owe_pload rfl (wI 4 9) rfl (oO 5 10) (k := 0) rfl (by kernel_rfl) rfl (fun ρ w b u h1 h2 h3 => ploadS rfl load1_vec ρ _ _ w b u h1 h2 h3)
    · exact owe_len rfl (wI 4 9) rfl (oO 6 11) ar_len Tryz.underlying22 rfl
    · exact owe_part rfl (wI 4 9) rfl (k := 0) rfl (by kernel_rfl) rfl (fun ρ w b h => part_gso1 ρ _ _ w b 0 h)
    · exact owe_pload rfl (wI 4 9) rfl (oO 8 13) (k := 0) rfl (by kernel_rfl) rfl (fun ρ w b u h1 h2 h3 => ploadS rfl load1_mat ρ _ _ w b u h1 h2 h3)
    · exact owe_len rfl (wI 4 9) rfl (oO 9 14) ar_len Tryz.underlying23 rfl
    · exact b_add_int (wI 4 9) (oO 10 15) (opnd_const _)
    · exact b_neq_int_f (wI 4 9) (oO 7 12) (oO 11 16)
    · exact pF wA (oO 4 9) (oO 12 17)
    · exact mO 13 18
    · exact owe_part rfl (wI 14 19) rfl (k := 0) rfl (by kernel_rfl) rfl (fun ρ w b h => part_gso0 ρ _ _ w b 0 h)
    · exact owe_pload rfl (wI 14 19) rfl (oO 15 20) (k := 0) rfl (by kernel_rfl) rfl (fun ρ w b u h1 h2 h3 => ploadS rfl load1_vec ρ _ _ w b u h1 h2 h3)
    · exact owe_aindex rfl (wI 14 19) rfl idx_ints (oO 16 21) (opnd_const _) (zv_at (k := 0) (by omega)) rfl
    · exact owe_aload rfl (wI 14 19) rfl ldr_int (by decide) (cel_shp (by decide) shp_zv) (oO 17 22) rfl
    · exact cc1 (wI 14 19) (opnd_const _) (fresh_zn _) (g_rof 1 (by omega) (by omega))
    · exact cc2 (wI 14 19) (qO 18 23 rfl) (qO 19 24 rfl) (fresh_is _) (fun w u v h1 h2 => h_rcmp (by omega) (by omega) w u v ((fun _ _ h => h) _ _ h1) ((zn_zv one_dl) _ _ h2))
    · exact b_neq_int_f (wI 14 19) (oO 20 25) (opnd_const _) (h := hone)
    · exact pF wA (oO 14 19) (oO 21 26)
  intro B2 a2 W2 (S2 : Sta w 57 [(1, (.box 25 (SF [(Vv nD D K), (Mv nL L K)])))] [(27, bF)] _ _ _)
  refine wp_cond_false (S2.bool 0 27 rfl) ?_
  refine wp_skip ?_
  refine thenN ?_
  refine wp_seq ?_
  refine wp_stmt_seq [.val (iV 0)] [.inr 0] [.inl 0] follows S2 rfl (by kernel_rfl) ?_ ?_
  · refine ⟨trivial, ?_⟩
    · exact mC
  intro B3 a3 W3 (S3 : Sta w 57 [(1, (.box 25 (SF [(Vv nD D K), (Mv nL L K)])))] [(3, iV 0)] _ _ _)
  refine wp_block ?_
  refine wp_loop_ghost (fun (k0 : Nat) a W => (k0 ≤ i0) ∧ ∃ Bq, Sta w 57 [(1, (.box 25 (SF [(Vv nD D K), (Mv nL L K)])))] [(3, iV (k0 : Nat))] Bq a W) (fun (k0 : Nat) => nD - k0) ?_ 0 ⟨Nat.zero_le _, B3, S3.sub [0] [0]⟩
  rintro k0 a4 W4 ⟨hcond, B4, S4⟩
  by_cases hlt : k0 < i0
  · have hp := sgn_pos (g5 k0 hlt)
    refine wp_seq ?_
    refine wp_stmt_seq [.val (iV (k0 : Nat)), .val (Part a4 1 0), .val (Vv nD D K), .val (iV (nD : Nat)), kT] [.inr 0] [.inl 4, .inr 0] follows S4 rfl (by kernel_rfl) ?_ ?_
    · refine ⟨⟨⟨⟨⟨trivial, ?_⟩, ?_⟩, ?_⟩, ?_⟩, ?_⟩
      · exact mS 0 3
      · exact owe_part rfl wA rfl (k := 0) rfl (by kernel_rfl) rfl (fun ρ w b h => part_gso0 ρ _ _ w b 0 h)
      · exact owe_pload rfl wA rfl (oO 1 29) (k := 0) rfl (by kernel_rfl) rfl (fun ρ w b u h1 h2 h3 => ploadS rfl load1_vec ρ _ _ w b u h1 h2 h3)
      · exact owe_len rfl wA rfl (oO 2 30) ar_len Tryz.underlying22 rfl
      · exact b_lss_int_t wA (oO 0 28) (oO 3 31)
    intro B5 a5 W5 (S5 : Sta w 57 [(1, (.box 25 (SF [(Vv nD D K), (Mv nL L K)])))] [(32, bT), (3, iV (k0 : Nat))] _ _ _)
    refine wp_cond_true (S5.bool 0 32 rfl) ?_
    refine wp_skip ?_
    refine thenN ?_
    refine wp_seq ?_
    refine wp_block ?_
    refine wp_stmt_seq [.val (Part a5 1 0), .val (Vv nD D K), .val (iV (k0 : Nat)), .val (AtE 2 (Zv (D.getD k0 0) K)), .val (Zv (D.getD k0 0) K), .val (iV ((D.getD k0 0).sign)), kF] [.inr 0] [.inl 6, .inr 1] follows S5 rfl (by kernel_rfl) ?_ ?_
    · repeat' refine And.intro ?_ ?_
      · trivial
      · exact owe_part rfl wA rfl (k := 0) rfl (by kernel_rfl) rfl (fun ρ w b h => part_gso0 ρ _ _ w b 0 h)
      · exact owe_pload rfl wA rfl (oO 0 35) (k := 0) rfl (by kernel_rfl) rfl (fun ρ w b u h1 h2 h3 => ploadS rfl load1_vec ρ _ _ w b u h1 h2 h3)
      · exact mS 1 3
      · exact owe_aindex rfl wA rfl idx_ints (oO 1 36) (oO 2 37) (zv_at (by omega)) rfl
      · exact owe_aload rfl wA rfl ldr_int (by decide) (cel_shp (by decide) shp_zv) (oO 3 38) rfl
      · exact cc1 wA (qO 4 39 rfl) (fresh_is _) (fun w u h1 => g_rsign (by omega) w u ((fun _ _ h => h) _ _ h1))
      · exact b_leq_int_f wA (oO 5 40) (opnd_const _)
    intro B6 a6 W6 (S6 : Sta w 57 [(1, (.box 25 (SF [(Vv nD D K), (Mv nL L K)])))] [(41, bF), (3, iV (k0 : Nat))] _ _ _)
    refine wp_cond_false (S6.bool 0 41 rfl) ?_
    refine wp_skip ?_
    refine inBlkN ?_
    refine thenN ?_
    refine wp_stmt [.val (iV (k0 : Nat)), .val (iV (k0 + 1 : Nat)), .val (iV (k0 + 1 : Nat))] [.inr 0] [.inl 2] follows S6 rfl (by kernel_rfl) ?_ ?_
    · refine ⟨⟨⟨trivial, ?_⟩, ?_⟩, ?_⟩
      · exact mS 1 3
      · exact b_add_int wA (oO 0 33) (opnd_const _)
      · exact mO 1 34
    intro B7 a7 W7 (S7 : Sta w 57 [(1, (.box 25 (SF [(Vv nD D K), (Mv nL L K)])))] [(3, iV (k0 + 1 : Nat))] _ _ _)
    refine thenN ?_
    exact ⟨k0 + 1, ⟨by omega, B7, S7.sub [0] [0]⟩, by omega⟩
  · have ek : k0 = i0 := by omega
    rw [← ek] at g6
    have hp := sgn_npos g6
    refine wp_seq ?_
    refine wp_stmt_seq [.val (iV (k0 : Nat)), .val (Part a4 1 0), .val (Vv nD D K), .val (iV (nD : Nat)), kT] [.inr 0] [.inl 4, .inr 0] follows S4 rfl (by kernel_rfl) ?_ ?_
    · refine ⟨⟨⟨⟨⟨trivial, ?_⟩, ?_⟩, ?_⟩, ?_⟩, ?_⟩
      · exact mS 0 3
      · exact owe_part rfl wA rfl (k := 0) rfl (by kernel_rfl) rfl (fun ρ w b h => part_gso0 ρ _ _ w b 0 h)
      · exact owe_pload rfl wA rfl (oO 1 29) (k := 0) rfl (by kernel_rfl) rfl (fun ρ w b u h1 h2 h3 => ploadS rfl load1_vec ρ _ _ w b u h1 h2 h3)
      · exact owe_len rfl wA rfl (oO 2 30) ar_len Tryz.underlying22 rfl
      · exact b_lss_int_t wA (oO 0 28) (oO 3 31)
    intro B5 a5 W5 (S5 : Sta w 57 [(1, (.box 25 (SF [(Vv nD D K), (Mv nL L K)])))] [(32, bT), (3, iV (k0 : Nat))] _ _ _)
    refine wp_cond_true (S5.bool 0 32 rfl) ?_
    refine wp_skip ?_
    refine thenN ?_
    refine wp_seq ?_
    refine wp_block ?_
    refine wp_stmt_seq [.val (Part a5 1 0), .val (Vv nD D K), .val (iV (k0 : Nat)), .val (AtE 2 (Zv (D.getD k0 0) K)), .val (Zv (D.getD k0 0) K), .val (iV ((D.getD k0 0).sign)), kT] [.inr 0] [.inl 6, .inr 1] follows S5 rfl (by kernel_rfl) ?_ ?_
    · repeat' refine And.intro ?_ ?_
      · trivial
      · exact owe_part rfl wA rfl (k := 0) rfl (by kernel_rfl) rfl (fun ρ w b h => part_gso0 ρ _ _ w b 0 h)
      · exact owe_pload rfl wA rfl (oO 0 35) (k := 0) rfl (by kernel_rfl) rfl (fun ρ w b u h1 h2 h3 => ploadS rfl load1_vec ρ _ _ w b u h1 h2 h3)
      · exact mS 1 3
      · exact owe_aindex rfl wA rfl idx_ints (oO 1 36) (oO 2 37) (zv_at (by omega)) rfl
      · exact owe_aload rfl wA rfl ldr_int (by decide) (cel_shp (by decide) shp_zv) (oO 3 38) rfl
      · exact cc1 wA (qO 4 39 rfl) (fresh_is _) (fun w u h1 => g_rsign (by omega) w u ((fun _ _ h => h) _ _ h1))
      · exact b_leq_int_t wA (oO 5 40) (opnd_const _)
    intro B6 a6 W6 (S6 : Sta w 57 [(1, (.box 25 (SF [(Vv nD D K), (Mv nL L K)])))] [(41, bT), (3, iV (k0 : Nat))] _ _ _)
    refine wp_cond_true (S6.bool 0 41 rfl) ?_
    refine wp_stmt_seq [kF] [.inr 0] [.inl 0, .inr 1] follows S6 rfl (by kernel_rfl) ?_ ?_
    · refine ⟨trivial, ?_⟩
      · exact mC
    intro B7 a7 W7 (S7 : Sta w 57 [(1, (.box 25 (SF [(Vv nD D K), (Mv nL L K)])))] [(2, bF), (3, iV (k0 : Nat))] _ _ _)
    refine wp_ret ?_
    refine inBlkR ?_
    refine thenR ?_
    refine thenR ?_
    refine inBlkR ?_
    refine thenR ?_
    exact end_one S7 rfl (res_tmp S7 0 2 rfl)

set_option maxHeartbeats 4000000 in
theorem good_f2 (w : World) (u : Value) (nD nL K : Nat) (D : List Int) (L : List (List Int)) (h : Hs w (SF [Vv nD D K, Mv nL L K]) u) (hD : nD ≤ 1048576) (hL : nL ≤ 1048576) (hK : K ≤ 1048576) (lD : D.length = nD) (lL : L.length = nL) (i0 : Nat) (g1 : L.length ≠ 0) (g2 : D.length = L.length + 1) (g3 : D.getD 0 0 = 1) (gp : ∀ j, j < D.length → 0 < D.getD j 0) (g4 : i0 < L.length) (g5 : ∀ j, j < i0 → (L.getD j []).length = j) (g6 : (L.getD i0 []).length ≠ i0) :
    Calls Tryz.prog 7 #[u] w (Gives (IS (.bool false)) w) := by
  have hone : ((D.getD 0 0) - (1)).sign = 0 := sgn0 (by omega)
  have hpos : ∀ i, i < nD → 0 < D.getD i 0 := fun i hi => gp i (by omega)
  refine calls_sta (sl := [(0, (SF [(Vv nD D K), (Mv nL L K)]))]) Tryz.func7 rfl Tryz.ntmps7 (by simp) (args_cons rfl (h) args_nil) ?_
  intro a0 S0
  refine wp_stmt_seq [.new (.box 25 (SF [(Vv nD D K), (Mv nL L K)])), kF] [.inl 0] [] follows S0 rfl (by kernel_rfl) ?_ ?_
  · refine ⟨⟨trivial, ?_⟩, ?_⟩
    · exact owe_box rfl wA rfl (oS 0 0) rfl (fun ρ w h => box_gso shp_sf2 ρ _ _ w h)
    · exact mC
  intro B1 a1 W1 (S1 : Sta w 57 [(1, (.box 25 (SF [(Vv nD D K), (Mv nL L K)])))] [] _ _ _)
  refine wp_seq ?_
  refine wp_stmt_seq [.val (Part a1 1 1), .val (Mv nL L K), .val (iV (nL : Nat)), kF, kF, .val (Part a1 1 0), .val (Vv nD D K), .val (iV (nD : Nat)), .val (Part a1 1 1), .val (Mv nL L K), .val (iV (nL : Nat)), .val (iV ((nL + 1 : Nat) : Int)), kF, kF, kF, .val (Part a1 1 0), .val (Vv nD D K), .val (AtE 2 (Zv (D.getD 0 0) K)), .val (Zv (D.getD 0 0) K), .val ((ZN (1)) w.heap.size), .val (iV (((D.getD 0 0) - 1).sign)), kF, kF] [.inr 0] [.inl 22] follows S1 rfl (by kernel_rfl) ?_ ?_
  · repeat' refine And.intro ?_ ?_
    · trivial
    · exact owe_part rfl wA rfl (k := 0) rfl (by kernel_rfl) rfl (fun ρ w b h => part_gso1 ρ _ _ w b 0 h)
    · exact owe_pload rfl wA rfl (oO 0 5) (k := 0) rfl (by kernel_rfl) rfl (fun ρ w b u h1 h2 h3 => ploadS rfl load1_mat ρ _ _ w b u h1 h2 h3)
    · exact owe_len rfl wA rfl (oO 1 6) ar_len Tryz.underlying23 rfl
    · exact b_eql_int_f wA (oO 2 7) (opnd_const _)
    · exact mO 3 8
    · exact owe_part rfl (wI 4 9) rfl (k := 0) rfl (by kernel_rfl) rfl (fun ρ w b h => part_gso0 ρ _ _ w b 0 h)
    · exact owe_pload rfl (wI 4 9) rfl (oO 5 10) (k := 0) rfl (by kernel_rfl) rfl (fun ρ w b u h1 h2 h3 => ploadS rfl load1_vec ρ _ _ w b u h1 h2 h3)
    · exact owe_len rfl (wI 4 9) rfl (oO 6 11) ar_len Tryz.underlying22 rfl
    · exact owe_part rfl (wI 4 9) rfl (k := 0) rfl (by kernel_rfl) rfl (fun ρ w b h => part_gso1 ρ _ _ w b 0 h)
    · exact owe_pload rfl (wI 4 9) rfl (oO 8 13) (k := 0) rfl (by kernel_rfl) rfl (fun ρ w b u h1 h2 h3 => ploadS rfl load1_mat ρ _ _ w b u h1 h2 h3)
    · exact owe_len rfl (wI 4 9) rfl (oO 9 14) ar_len Tryz.underlying23 rfl
    · exact b_add_int (wI 4 9) (oO 10 15) (opnd_const _)
    · exact b_neq_int_f (wI 4 9) (oO 7 12) (oO 11 16)
    · exact pF wA (oO 4 9) (oO 12 17)
    · exact mO 13 18
    · exact owe_part rfl (wI 14 19) rfl (k := 0) rfl (by kernel_rfl) rfl (fun ρ w b h => part_gso0 ρ _ _ w b 0 h)
    · exact owe_pload rfl (wI 14 19) rfl (oO 15 20) (k := 0) rfl (by kernel_rfl) rfl (fun ρ w b u h1 h2 h3 => ploadS rfl load1_vec ρ _ _ w b u h1 h2 h3)
    · exact owe_aindex rfl (wI 14 19) rfl idx_ints (oO 16 21) (opnd_const _) (zv_at (k := 0) (by omega)) rfl
    · exact owe_aload rfl (wI 14 19) rfl ldr_int (by decide) (cel_shp (by decide) shp_zv) (oO 17 22) rfl
    · exact cc1 (wI 14 19) (opnd_const _) (fresh_zn _) (g_rof 1 (by omega) (by omega))
    · exact cc2 (wI 14 19) (qO 18 23 rfl) (qO 19 24 rfl) (fresh_is _) (fun w u v h1 h2 => h_rcmp (by omega) (by omega) w u v ((fun _ _ h => h) _ _ h1) ((zn_zv one_dl) _ _ h2))
    · exact b_neq_int_f (wI 14 19) (oO 20 25) (opnd_const _) (h := hone)
    · exact pF wA (oO 14 19) (oO 21 26)
  intro B2 a2 W2 (S2 : Sta w 57 [(1, (.box 25 (SF [(Vv nD D K), (Mv nL L K)])))] [(27, bF)] _ _ _)
  refine wp_cond_false (S2.bool 0 27 rfl) ?_
  refine wp_skip ?_
  refine thenN ?_
  refine wp_seq ?_
  refine wp_stmt_seq [.val (iV 0)] [.inr 0] [.inl 0] follows S2 rfl (by kernel_rfl) ?_ ?_
  · refine ⟨trivial, ?_⟩
    · exact mC
  intro B3 a3 W3 (S3 : Sta w 57 [(1, (.box 25 (SF [(Vv nD D K), (Mv nL L K)])))] [(3, iV 0)] _ _ _)
  refine wp_block ?_
  refine wp_loop_ghost (fun (k0 : Nat) a W => (k0 ≤ nD) ∧ ∃ Bq, Sta w 57 [(1, (.box 25 (SF [(Vv nD D K), (Mv nL L K)])))] [(3, iV (k0 : Nat))] Bq a W) (fun (k0 : Nat) => nD - k0) ?_ 0 ⟨Nat.zero_le _, B3, S3.sub [0] [0]⟩
  rintro k0 a4 W4 ⟨hcond, B4, S4⟩
  by_cases hlt : k0 < nD
  · have hp := sgn_pos (hpos k0 hlt)
    refine wp_seq ?_
    refine wp_stmt_seq [.val (iV (k0 : Nat)), .val (Part a4 1 0), .val (Vv nD D K), .val (iV (nD : Nat)), kT] [.inr 0] [.inl 4, .inr 0] follows S4 rfl (by kernel_rfl) ?_ ?_
    · refine ⟨⟨⟨⟨⟨trivial, ?_⟩, ?_⟩, ?_⟩, ?_⟩, ?_⟩
      · exact mS 0 3
      · exact owe_part rfl wA rfl (k := 0) rfl (by kernel_rfl) rfl (fun ρ w b h => part_gso0 ρ _ _ w b 0 h)
      · exact owe_pload rfl wA rfl (oO 1 29) (k := 0) rfl (by kernel_rfl) rfl (fun ρ w b u h1 h2 h3 => ploadS rfl load1_vec ρ _ _ w b u h1 h2 h3)
      · exact owe_len rfl wA rfl (oO 2 30) ar_len Tryz.underlying22 rfl
      · exact b_lss_int_t wA (oO 0 28) (oO 3 31)
    intro B5 a5 W5 (S5 : Sta w 57 [(1, (.box 25 (SF [(Vv nD D K), (Mv nL L K)])))] [(32, bT), (3, iV (k0 : Nat))] _ _ _)
    refine wp_cond_true (S5.bool 0 32 rfl) ?_
    refine wp_skip ?_
    refine thenN ?_
    refine wp_seq ?_
    refine wp_block ?_
    refine wp_stmt_seq [.val (Part a5 1 0), .val (Vv nD D K), .val (iV (k0 : Nat)), .val (AtE 2 (Zv (D.getD k0 0) K)), .val (Zv (D.getD k0 0) K), .val (iV ((D.getD k0 0).sign)), kF] [.inr 0] [.inl 6, .inr 1] follows S5 rfl (by kernel_rfl) ?_ ?_
    · repeat' refine And.intro ?_ ?_
      · trivial
      · exact owe_part rfl wA rfl (k := 0) rfl (by kernel_rfl) rfl (fun ρ w b h => part_gso0 ρ _ _ w b 0 h)
      · exact owe_pload rfl wA rfl (oO 0 35) (k := 0) rfl (by kernel_rfl) rfl (fun ρ w b u h1 h2 h3 => ploadS rfl load1_vec ρ _ _ w b u h1 h2 h3)
      · exact mS 1 3
      · exact owe_aindex rfl wA rfl idx_ints (oO 1 36) (oO 2 37) (zv_at (by omega)) rfl
      · exact owe_aload rfl wA rfl ldr_int (by decide) (cel_shp (by decide) shp_zv) (oO 3 38) rfl
      · exact cc1 wA (qO 4 39 rfl) (fresh_is _) (fun w u h1 => g_rsign (by omega) w u ((fun _ _ h => h) _ _ h1))
      · exact b_leq_int_f wA (oO 5 40) (opnd_const _)
    intro B6 a6 W6 (S6 : Sta w 57 [(1, (.box 25 (SF [(Vv nD D K), (Mv nL L K)])))] [(41, bF), (3, iV (k0 : Nat))] _ _ _)
    refine wp_cond_false (S6.bool 0 41 rfl) ?_
    refine wp_skip ?_
    refine inBlkN ?_
    refine thenN ?_
    refine wp_stmt [.val (iV (k0 : Nat)), .val (iV (k0 + 1 : Nat)), .val (iV (k0 + 1 : Nat))] [.inr 0] [.inl 2] follows S6 rfl (by kernel_rfl) ?_ ?_
    · refine ⟨⟨⟨trivial, ?_⟩, ?_⟩, ?_⟩
      · exact mS 1 3
      · exact b_add_int wA (oO 0 33) (opnd_const _)
      · exact mO 1 34
    intro B7 a7 W7 (S7 : Sta w 57 [(1, (.box 25 (SF [(Vv nD D K), (Mv nL L K)])))] [(3, iV (k0 + 1 : Nat))] _ _ _)
    refine thenN ?_
    exact ⟨k0 + 1, ⟨by omega, B7, S7.sub [0] [0]⟩, by omega⟩
  · skip
    refine wp_seq ?_
    refine wp_stmt_seq [.val (iV (k0 : Nat)), .val (Part a4 1 0), .val (Vv nD D K), .val (iV (nD : Nat)), kF] [.inr 0] [.inl 4, .inr 0] follows S4 rfl (by kernel_rfl) ?_ ?_
    · refine ⟨⟨⟨⟨⟨trivial, ?_⟩, ?_⟩, ?_⟩, ?_⟩, ?_⟩
      · exact mS 0 3
      · exact owe_part rfl wA rfl (k := 0) rfl (by kernel_rfl) rfl (fun ρ w b h => part_gso0 ρ _ _ w b 0 h)
      · exact owe_pload rfl wA rfl (oO 1 29) (k := 0) rfl (by kernel_rfl) rfl (fun ρ w b u h1 h2 h3 => ploadS rfl load1_vec ρ _ _ w b u h1 h2 h3)
      · exact owe_len rfl wA rfl (oO 2 30) ar_len Tryz.underlying22 rfl
      · exact b_lss_int_f wA (oO 0 28) (oO 3 31)
    intro B5 a5 W5 (S5 : Sta w 57 [(1, (.box 25 (SF [(Vv nD D K), (Mv nL L K)])))] [(32, bF), (3, iV (k0 : Nat))] _ _ _)
    refine wp_cond_false (S5.bool 0 32 rfl) ?_
    refine wp_exit ?_
    refine thenX ?_
    refine thenX ?_
    refine inBlkE ?_
    refine thenN ?_
    refine wp_seq ?_
    refine wp_stmt_seq [.val (iV 0)] [.inr 0] [.inl 0, .inr 1] follows S5 rfl (by kernel_rfl) ?_ ?_
    · refine ⟨trivial, ?_⟩
      · exact mC
    intro B6 a6 W6 (S6 : Sta w 57 [(1, (.box 25 (SF [(Vv nD D K), (Mv nL L K)])))] [(4, iV 0), (3, iV (k0 : Nat))] _ _ _)
    refine wp_block ?_
    refine wp_loop_ghost (fun (k0 : Nat) a W => (k0 ≤ i0) ∧ ∃ Bq, Sta w 57 [(1, (.box 25 (SF [(Vv nD D K), (Mv nL L K)])))] [(4, iV (k0 : Nat))] Bq a W) (fun (k0 : Nat) => nL - k0) ?_ 0 ⟨Nat.zero_le _, B6, S6.sub [0] [0]⟩
    rintro k0 a7 W7 ⟨hcond, B7, S7⟩
    by_cases hlt : k0 < i0
    · have hr := g5 k0 hlt
      refine wp_seq ?_
      refine wp_stmt_seq [.val (iV (k0 : Nat)), .val (Part a7 1 1), .val (Mv nL L K), .val (iV (nL : Nat)), kT] [.inr 0] [.inl 4, .inr 0] follows S7 rfl (by kernel_rfl) ?_ ?_
      · refine ⟨⟨⟨⟨⟨trivial, ?_⟩, ?_⟩, ?_⟩, ?_⟩, ?_⟩
        · exact mS 0 4
        · exact owe_part rfl wA rfl (k := 0) rfl (by kernel_rfl) rfl (fun ρ w b h => part_gso1 ρ _ _ w b 0 h)
        · exact owe_pload rfl wA rfl (oO 1 43) (k := 0) rfl (by kernel_rfl) rfl (fun ρ w b u h1 h2 h3 => ploadS rfl load1_mat ρ _ _ w b u h1 h2 h3)
        · exact owe_len rfl wA rfl (oO 2 44) ar_len Tryz.underlying23 rfl
        · exact b_lss_int_t wA (oO 0 42) (oO 3 45)
      intro B8 a8 W8 (S8 : Sta w 57 [(1, (.box 25 (SF [(Vv nD D K), (Mv nL L K)])))] [(46, bT), (4, iV (k0 : Nat))] _ _ _)
      refine wp_cond_true (S8.bool 0 46 rfl) ?_
      refine wp_skip ?_
      refine thenN ?_
      refine wp_seq ?_
      refine wp_block ?_
      refine wp_stmt_seq [.val (Part a8 1 1), .val (Mv nL L K), .val (iV (k0 : Nat)), .val (AtE 1 (Vv ((L.getD k0 []).length) (L.getD k0 []) K)), .val (Vv ((L.getD k0 []).length) (L.getD k0 []) K), .val (iV ((L.getD k0 []).length : Nat)), .val (iV (k0 : Nat)), kF] [.inr 0] [.inl 7, .inr 1] follows S8 rfl (by kernel_rfl) ?_ ?_
      · repeat' refine And.intro ?_ ?_
        · trivial
        · exact owe_part rfl wA rfl (k := 0) rfl (by kernel_rfl) rfl (fun ρ w b h => part_gso1 ρ _ _ w b 0 h)
        · exact owe_pload rfl wA rfl (oO 0 49) (k := 0) rfl (by kernel_rfl) rfl (fun ρ w b u h1 h2 h3 => ploadS rfl load1_mat ρ _ _ w b u h1 h2 h3)
        · exact mS 1 4
        · exact owe_aindex rfl wA rfl idx_rows (oO 1 50) (oO 2 51) (vv_at (by omega)) rfl
        · exact owe_aload rfl wA rfl ldr_row1 (by decide) cel_vv (oO 3 52) rfl
        · exact owe_len rfl wA rfl (oO 4 53) ar_len Tryz.underlying22 rfl
        · exact mS 1 4
        · exact b_neq_int_f wA (oO 5 54) (oO 6 55)
      intro B9 a9 W9 (S9 : Sta w 57 [(1, (.box 25 (SF [(Vv nD D K), (Mv nL L K)])))] [(56, bF), (4, iV (k0 : Nat))] _ _ _)
      refine wp_cond_false (S9.bool 0 56 rfl) ?_
      refine wp_skip ?_
      refine inBlkN ?_
      refine thenN ?_
      refine wp_stmt [.val (iV (k0 : Nat)), .val (iV (k0 + 1 : Nat)), .val (iV (k0 + 1 : Nat))] [.inr 0] [.inl 2] follows S9 rfl (by kernel_rfl) ?_ ?_
      · refine ⟨⟨⟨trivial, ?_⟩, ?_⟩, ?_⟩
        · exact mS 1 4
        · exact b_add_int wA (oO 0 47) (opnd_const _)
        · exact mO 1 48
      intro B10 a10 W10 (S10 : Sta w 57 [(1, (.box 25 (SF [(Vv nD D K), (Mv nL L K)])))] [(4, iV (k0 + 1 : Nat))] _ _ _)
      refine thenN ?_
      exact ⟨k0 + 1, ⟨by omega, B10, S10.sub [0] [0]⟩, by omega⟩
    · have ek : k0 = i0 := by omega
      rw [← ek] at g6
      refine wp_seq ?_
      refine wp_stmt_seq [.val (iV (k0 : Nat)), .val (Part a7 1 1), .val (Mv nL L K), .val (iV (nL : Nat)), kT] [.inr 0] [.inl 4, .inr 0] follows S7 rfl (by kernel_rfl) ?_ ?_
      · refine ⟨⟨⟨⟨⟨trivial, ?_⟩, ?_⟩, ?_⟩, ?_⟩, ?_⟩
        · exact mS 0 4
        · exact owe_part rfl wA rfl (k := 0) rfl (by kernel_rfl) rfl (fun ρ w b h => part_gso1 ρ _ _ w b 0 h)
        · exact owe_pload rfl wA rfl (oO 1 43) (k := 0) rfl (by kernel_rfl) rfl (fun ρ w b u h1 h2 h3 => ploadS rfl load1_mat ρ _ _ w b u h1 h2 h3)
        · exact owe_len rfl wA rfl (oO 2 44) ar_len Tryz.underlying23 rfl
        · exact b_lss_int_t wA (oO 0 42) (oO 3 45)
      intro B8 a8 W8 (S8 : Sta w 57 [(1, (.box 25 (SF [(Vv nD D K), (Mv nL L K)])))] [(46, bT), (4, iV (k0 : Nat))] _ _ _)
      refine wp_cond_true (S8.bool 0 46 rfl) ?_
      refine wp_skip ?_
      refine thenN ?_
      refine wp_seq ?_
      refine wp_block ?_
      refine wp_stmt_seq [.val (Part a8 1 1), .val (Mv nL L K), .val (iV (k0 : Nat)), .val (AtE 1 (Vv ((L.getD k0 []).length) (L.getD k0 []) K)), .val (Vv ((L.getD k0 []).length) (L.getD k0 []) K), .val (iV ((L.getD k0 []).length : Nat)), .val (iV (k0 : Nat)), kT] [.inr 0] [.inl 7, .inr 1] follows S8 rfl (by kernel_rfl) ?_ ?_
      · repeat' refine And.intro ?_ ?_
        · trivial
        · exact owe_part rfl wA rfl (k := 0) rfl (by kernel_rfl) rfl (fun ρ w b h => part_gso1 ρ _ _ w b 0 h)
        · exact owe_pload rfl wA rfl (oO 0 49) (k := 0) rfl (by kernel_rfl) rfl (fun ρ w b u h1 h2 h3 => ploadS rfl load1_mat ρ _ _ w b u h1 h2 h3)
        · exact mS 1 4
        · exact owe_aindex rfl wA rfl idx_rows (oO 1 50) (oO 2 51) (vv_at (by omega)) rfl
        · exact owe_aload rfl wA rfl ldr_row1 (by decide) cel_vv (oO 3 52) rfl
        · exact owe_len rfl wA rfl (oO 4 53) ar_len Tryz.underlying22 rfl
        · exact mS 1 4
        · exact b_neq_int_t wA (oO 5 54) (oO 6 55)
      intro B9 a9 W9 (S9 : Sta w 57 [(1, (.box 25 (SF [(Vv nD D K), (Mv nL L K)])))] [(56, bT), (4, iV (k0 : Nat))] _ _ _)
      refine wp_cond_true (S9.bool 0 56 rfl) ?_
      refine wp_stmt_seq [kF] [.inr 0] [.inl 0, .inr 1] follows S9 rfl (by kernel_rfl) ?_ ?_
      · refine ⟨trivial, ?_⟩
        · exact mC
      intro B10 a10 W10 (S10 : Sta w 57 [(1, (.box 25 (SF [(Vv nD D K), (Mv nL L K)])))] [(2, bF), (4, iV (k0 : Nat))] _ _ _)
      refine wp_ret ?_
      refine inBlkR ?_
      refine thenR ?_
      refine thenR ?_
      refine inBlkR ?_
      refine thenR ?_
      exact end_one S10 rfl (res_tmp S10 0 2 rfl)


theorem good_f (w : World) (u : Value) (nD nL K : Nat) (D : List Int) (L : List (List Int)) (h : Hs w (SF [Vv nD D K, Mv nL L K]) u) (hD : nD ≤ 1048576) (hL : nL ≤ 1048576) (hK : K ≤ 1048576) (lD : D.length = nD) (lL : L.length = nL) (g : Bad D L) : Calls Tryz.prog 7 #[u] w (Gives (IS (.bool false)) w) := by
  cases g.r with
  | none h1 => exact good_f0 w u nD nL K D L h hD hL hK lD lL (Or.inl h1)
  | len h1 h2 => exact good_f0 w u nD nL K D L h hD hL hK lD lL (Or.inr (Or.inl ⟨h1, h2⟩))
  | one h1 h2 h3 => exact good_f0 w u nD nL K D L h hD hL hK lD lL (Or.inr (Or.inr ⟨h1, h2, h3⟩))
  | pos i0 h1 h2 h3 h4 h5 h6 => exact good_f1 w u nD nL K D L h hD hL hK lD lL i0 h1 h2 h3 h4 h5 h6
  | row i0 h1 h2 h3 h4 h5 h6 h7 => exact good_f2 w u nD nL K D L h hD hL hK lD lL i0 h1 h2 h3 h4 h5 h6 h7
end Go.Proofs.YtkiholgfamfgeaaGreat

/-
  gso.Mu, gso.Star, what the document says of them.
-/
namespace Go.Proofs.YtkiholgfamfgeaaGreat
open Go Go.RowKit Nt
set_option linter.unusedSimpArgs false
set_option linter.unusedVariables false
set_option maxRecDepth 20000


theorem g_rmk {A : Int} {D k k' : Nat} (hD : D ≠ 0) (hk : k ≤ 67108864) (hk' : k' ≤ 67108864) : ∀ w u v, Zv A k u w → Zv (D : Int) k' v w → Calls Tryz.prog 27 #[u, v] w (Gives (RN (nR A D) (dR A D)) w) := by
  rintro w u v ⟨s, p, n, c, xs, rfl, h, rfl, hn⟩ ⟨t, q, m, d, ys, rfl, h', eD, hm⟩
  obtain ⟨rfl, rfl⟩ := zv_pos eD hD
  rw [nR_sg, dR_sg]
  exact rt_gives (rmake_c w s p q n c m d xs ys h h' hD (by omega) (by omega))
theorem g_rofG {A : Int} {k : Nat} (hk : k ≤ 67108864) : ∀ w u, Zv A k u w → Calls Tryz.prog 28 #[u] w (Gives (RN A 1) w) := by
  rintro w u ⟨s, p, n, c, xs, rfl, h, rfl, hn⟩
  exact rt_gives (rof_c w s p n c xs h (by omega))
theorem zn_nmx {z : Int} {lo : Nat} : ∀ v w, ZN z lo v w → Nmx (ng z) (digs z.natAbs) v w := fun v w ⟨r, c, e, h, _⟩ => ⟨r, _, c, e, h⟩
theorem rn_nmx {N : Int} {D lo : Nat} : ∀ v w, RN N D lo v w → PR (Nmx (ng N) (digs N.natAbs)) (Nmx (ng (D : Int)) (digs (D : Int).natAbs)) v w := pr_imp zn_nmx zn_nmx
theorem z_nmx : ∀ v w, Is (.agg #[.bool false, .slice none 0 0, .bool false, .slice none 0 0]) v w → PR (Nmx false []) (Nmx false []) v w := fun v w e => ⟨_, _, _, _, e, ⟨none, 0, 0, rfl, Sl.none w⟩, ⟨none, 0, 0, rfl, Sl.none w⟩⟩

set_option maxHeartbeats 400000 in
theorem gsame_w (w : World) (u v : Value) (s t : Bool) (xs ys : List Nat) (h : Hs w (PR (Nmx s xs) (Nmx t ys)) u) (h' : Hs w (PR (Nmx s xs) (Nmx t ys)) v) :
    Calls Tryz.prog 8 #[u, v] w (Gives (IS (.bool true)) w) := by
  refine calls_sta (sl := [(0, (PR (Nmx s xs) (Nmx t ys))), (1, (PR (Nmx s xs) (Nmx t ys)))]) Tryz.func8 rfl Tryz.ntmps8 (by simp) (args_cons rfl (h) (args_cons rfl (h') args_nil)) ?_
  intro a0 S0
  refine wp_stmt_seq [.new (.box 30 (PR (Nmx s xs) (Nmx t ys))), .new (.box 30 (PR (Nmx s xs) (Nmx t ys))), kF] [.inl 0, .inl 1] [] follows S0 rfl (by kernel_rfl) ?_ ?_
  · refine ⟨⟨⟨trivial, ?_⟩, ?_⟩, ?_⟩
    · exact owe_box rfl wA rfl (oS 0 0) rfl (fun ρ w h => box_rat (shp_pr shp_nmx shp_nmx) ρ _ _ w h)
    · exact owe_box rfl wA rfl (oS 1 1) rfl (fun ρ w h => box_rat (shp_pr shp_nmx shp_nmx) ρ _ _ w h)
    · exact mC
  intro B1 a1 W1 (S1 : Sta w 17 [(2, (.box 30 (PR (Nmx s xs) (Nmx t ys)))), (3, (.box 30 (PR (Nmx s xs) (Nmx t ys))))] [] _ _ _)
  refine wp_stmt_seq [.val (Part a1 2 0), .val (Nmx s xs), .val (Part a1 3 0), .val (Nmx s xs), kT, kT, .val (Part a1 2 2), .val (Nmx t ys), .val (Part a1 3 2), .val (Nmx t ys), kT, kT, kT] [] [.inl 12] follows S1 rfl (by kernel_rfl) ?_ ?_
  · repeat' refine And.intro ?_ ?_
    · trivial
    · exact owe_part rfl wA rfl (k := 0) rfl (by kernel_rfl) rfl (fun ρ w b h => part_rat0 ρ _ _ w b 0 h)
    · exact owe_pload rfl wA rfl (oO 0 5) (k := 0) rfl (by kernel_rfl) rfl (fun ρ w b u h1 h2 h3 => pload_num ρ _ _ w b u h1 h2 h3)
    · exact owe_part rfl wA rfl (k := 1) rfl (by kernel_rfl) rfl (fun ρ w b h => part_rat0 ρ _ _ w b 0 h)
    · exact owe_pload rfl wA rfl (oO 2 7) (k := 1) rfl (by kernel_rfl) rfl (fun ρ w b u h1 h2 h3 => pload_num ρ _ _ w b u h1 h2 h3)
    · exact cc2 wA (qO 1 6 rfl) (qO 3 8 rfl) (fresh_is _) h_eq
    · exact mO 4 9
    · exact owe_part rfl (wI 5 10) rfl (k := 0) rfl (by kernel_rfl) rfl (fun ρ w b h => part_rat1 ρ _ _ w b 0 h)
    · exact owe_pload rfl (wI 5 10) rfl (oO 6 11) (k := 0) rfl (by kernel_rfl) rfl (fun ρ w b u h1 h2 h3 => pload_den ρ _ _ w b u h1 h2 h3)
    · exact owe_part rfl (wI 5 10) rfl (k := 1) rfl (by kernel_rfl) rfl (fun ρ w b h => part_rat1 ρ _ _ w b 0 h)
    · exact owe_pload rfl (wI 5 10) rfl (oO 8 13) (k := 1) rfl (by kernel_rfl) rfl (fun ρ w b u h1 h2 h3 => pload_den ρ _ _ w b u h1 h2 h3)
    · exact cc2 (wI 5 10) (qO 7 12 rfl) (qO 9 14 rfl) (fresh_is _) h_eq
    · exact pT wA (oO 5 10) (oO 10 15)
    · exact mO 11 16
  intro B2 a2 W2 (S2 : Sta w 17 [] [(4, bT)] _ _ _)
  refine wp_ret ?_
  exact end_one S2 rfl (res_tmp S2 0 4 rfl)

set_option maxHeartbeats 1000000 in
theorem rmu_m (w : World) (u : Value) (nD nL K : Nat) (D : List Int) (L : List (List Int)) (h : Hs w (SF [Vv nD D K, Mv nL L K]) u) (hD : nD ≤ 1048576) (hL : nL ≤ 1048576) (hK : K ≤ 1048576) (lD : D.length = nD) (lL : L.length = nL) (i j : Nat) (d0 : Nat) (g : Good D L) (hi : i < nL) (hj : j < i) (hd : D.getD (j + 1) 0 = (d0 : Int)) (hd0 : d0 ≠ 0) :
    Calls Tryz.prog 12 #[u, .int .i64 (i : Nat), .int .i64 (j : Nat)] w (Gives (RN (nR ((L.getD i []).getD j 0) d0) (dR ((L.getD i []).getD j 0) d0)) w) := by
  have hl := g.len
  have hr := g.row i (by omega)
  refine calls_sta (sl := [(0, (SF [(Vv nD D K), (Mv nL L K)])), (1, (iV (i : Nat))), (2, (iV (j : Nat)))]) Tryz.func12 rfl Tryz.ntmps12 (by simp) (args_cons rfl (h) (args_cons rfl (is_has _) (args_cons rfl (is_has _) args_nil))) ?_
  intro a0 S0
  refine wp_stmt_seq [.new (.box 25 (SF [(Vv nD D K), (Mv nL L K)])), .new (.box 30 zR)] [.inl 0, .inl 1] [.inr 1, .inr 2] follows S0 rfl (by kernel_rfl) ?_ ?_
  · refine ⟨⟨trivial, ?_⟩, ?_⟩
    · exact owe_box rfl wA rfl (oS 0 0) rfl (fun ρ w h => box_gso shp_sf2 ρ _ _ w h)
    · exact owe_new rfl wA rfl rfl (fun ρ w => alloc_rat ρ _ w)
  intro B1 a1 W1 (S1 : Sta w 27 [(3, (.box 25 (SF [(Vv nD D K), (Mv nL L K)]))), (6, (.box 30 zR))] [(1, iV (i : Nat)), (2, iV (j : Nat))] _ _ _)
  refine wp_seq ?_
  refine wp_stmt_seq [.val (iV (i : Nat)), .val (iV (j : Nat)), kF] [.inr 0, .inr 1] [.inl 2, .inr 0, .inr 1] follows S1 rfl (by kernel_rfl) ?_ ?_
  · refine ⟨⟨⟨trivial, ?_⟩, ?_⟩, ?_⟩
    · exact mS 0 1
    · exact mS 1 2
    · exact b_eql_int_f wA (oO 0 7) (oO 1 8)
  intro B2 a2 W2 (S2 : Sta w 27 [(3, (.box 25 (SF [(Vv nD D K), (Mv nL L K)]))), (6, (.box 30 zR))] [(9, bF), (1, iV (i : Nat)), (2, iV (j : Nat))] _ _ _)
  refine wp_cond_false (S2.bool 0 9 rfl) ?_
  refine wp_skip ?_
  refine thenN ?_
  refine wp_stmt_seq [.val (Part a2 3 1), .val (Mv nL L K), .val (iV (i : Nat)), .val (AtE 1 (Vv ((L.getD i []).length) (L.getD i []) K)), .val (Vv ((L.getD i []).length) (L.getD i []) K), .val (iV (j : Nat)), .val (AtE 2 (Zv ((L.getD i []).getD j 0) K)), .val (Zv ((L.getD i []).getD j 0) K), .val (Part a2 3 0), .val (Vv nD D K), .val (iV (j : Nat)), .val (iV ((j + 1 : Nat) : Int)), .val (AtE 2 (Zv (D.getD (j + 1) 0) K)), .val (Zv (D.getD (j + 1) 0) K), .val ((RN (nR ((L.getD i []).getD j 0) d0) (dR ((L.getD i []).getD j 0) d0)) w.heap.size), .put (.inl 6) (.box 30 ((RN (nR ((L.getD i []).getD j 0) d0) (dR ((L.getD i []).getD j 0) d0)) w.heap.size))] [.inr 0, .inr 1] [] follows S2 rfl (by kernel_rfl) ?_ ?_
  · repeat' refine And.intro ?_ ?_
    · trivial
    · exact owe_part rfl wA rfl (k := 0) rfl (by kernel_rfl) rfl (fun ρ w b h => part_gso1 ρ _ _ w b 0 h)
    · exact owe_pload rfl wA rfl (oO 0 12) (k := 0) rfl (by kernel_rfl) rfl (fun ρ w b u h1 h2 h3 => ploadS rfl load1_mat ρ _ _ w b u h1 h2 h3)
    · exact mS 1 1
    · exact owe_aindex rfl wA rfl idx_rows (oO 1 13) (oO 2 14) (vv_at (by omega)) rfl
    · exact owe_aload rfl wA rfl ldr_row1 (by decide) cel_vv (oO 3 15) rfl
    · exact mS 2 2
    · exact owe_aindex rfl wA rfl idx_ints (oO 4 16) (oO 5 17) (zv_at (by omega)) rfl
    · exact owe_aload rfl wA rfl ldr_int (by decide) (cel_shp (by decide) shp_zv) (oO 6 18) rfl
    · exact owe_part rfl wA rfl (k := 0) rfl (by kernel_rfl) rfl (fun ρ w b h => part_gso0 ρ _ _ w b 0 h)
    · exact owe_pload rfl wA rfl (oO 8 20) (k := 0) rfl (by kernel_rfl) rfl (fun ρ w b u h1 h2 h3 => ploadS rfl load1_vec ρ _ _ w b u h1 h2 h3)
    · exact mS 2 2
    · exact b_add_int wA (oO 10 22) (opnd_const _)
    · exact owe_aindex rfl wA rfl idx_ints (oO 9 21) (oO 11 23) (zv_at (by omega)) rfl
    · exact owe_aload rfl wA rfl ldr_int (by decide) (cel_shp (by decide) shp_zv) (oO 12 24) rfl
    · exact cc2 wA (qO 7 19 rfl) (qO 13 25 rfl) (fresh_rn _ _) (fun w u v h1 h2 => g_rmk (k := K) (k' := K) hd0 (by omega) (by omega) w u v ((fun _ _ h => h) _ _ h1) (by rw [← hd]; exact (fun _ _ h => h) _ _ h2))
    · exact owe_set rfl wA rfl (k := 1) rfl (by kernel_rfl) (oO 14 26) (stores_of strct_rat shp_r0 (shp_pr shp_zn shp_zn)) rfl
  intro B3 a3 W3 (S3 : Sta w 27 [(3, (.box 25 (SF [(Vv nD D K), (Mv nL L K)]))), (6, (.box 30 ((RN (nR ((L.getD i []).getD j 0) d0) (dR ((L.getD i []).getD j 0) d0)) w.heap.size)))] [] _ _ _)
  refine wp_ret ?_
  exact end_one S3 rfl (res_cell S3 1 6 rfl strct_rat (shp_pr shp_zn shp_zn))

set_option maxHeartbeats 1000000 in
theorem rstar_m (w : World) (u : Value) (nD nL K : Nat) (D : List Int) (L : List (List Int)) (h : Hs w (SF [Vv nD D K, Mv nL L K]) u) (hD : nD ≤ 1048576) (hL : nL ≤ 1048576) (hK : K ≤ 1048576) (lD : D.length = nD) (lL : L.length = nL) (i d0 : Nat) (g : Good D L) (hi : i < nL) (hd : D.getD i 0 = (d0 : Int)) (hd0 : d0 ≠ 0) :
    Calls Tryz.prog 10 #[u, .int .i64 (i : Nat)] w (Gives (RN (nR (D.getD (i + 1) 0) d0) (dR (D.getD (i + 1) 0) d0)) w) := by
  have hl := g.len
  refine calls_sta (sl := [(0, (SF [(Vv nD D K), (Mv nL L K)])), (1, (iV (i : Nat)))]) Tryz.func10 rfl Tryz.ntmps10 (by simp) (args_cons rfl (h) (args_cons rfl (is_has _) args_nil)) ?_
  intro a0 S0
  refine wp_stmt_seq [.new (.box 25 (SF [(Vv nD D K), (Mv nL L K)])), .new (.box 30 zR)] [.inl 0, .inl 1] [.inr 1] follows S0 rfl (by kernel_rfl) ?_ ?_
  · refine ⟨⟨trivial, ?_⟩, ?_⟩
    · exact owe_box rfl wA rfl (oS 0 0) rfl (fun ρ w h => box_gso shp_sf2 ρ _ _ w h)
    · exact owe_new rfl wA rfl rfl (fun ρ w => alloc_rat ρ _ w)
  intro B1 a1 W1 (S1 : Sta w 17 [(2, (.box 25 (SF [(Vv nD D K), (Mv nL L K)]))), (4, (.box 30 zR))] [(1, iV (i : Nat))] _ _ _)
  refine wp_stmt_seq [.val (Part a1 2 0), .val (Vv nD D K), .val (iV (i : Nat)), .val (iV ((i + 1 : Nat) : Int)), .val (AtE 2 (Zv (D.getD (i + 1) 0) K)), .val (Zv (D.getD (i + 1) 0) K), .val (Part a1 2 0), .val (Vv nD D K), .val (iV (i : Nat)), .val (AtE 2 (Zv (D.getD i 0) K)), .val (Zv (D.getD i 0) K), .val ((RN (nR (D.getD (i + 1) 0) d0) (dR (D.getD (i + 1) 0) d0)) w.heap.size), .put (.inl 4) (.box 30 ((RN (nR (D.getD (i + 1) 0) d0) (dR (D.getD (i + 1) 0) d0)) w.heap.size))] [.inr 0, .inr 1] [] follows S1 rfl (by kernel_rfl) ?_ ?_
  · repeat' refine And.intro ?_ ?_
    · trivial
    · exact owe_part rfl wA rfl (k := 0) rfl (by kernel_rfl) rfl (fun ρ w b h => part_gso0 ρ _ _ w b 0 h)
    · exact owe_pload rfl wA rfl (oO 0 5) (k := 0) rfl (by kernel_rfl) rfl (fun ρ w b u h1 h2 h3 => ploadS rfl load1_vec ρ _ _ w b u h1 h2 h3)
    · exact mS 0 1
    · exact b_add_int wA (oO 2 7) (opnd_const _)
    · exact owe_aindex rfl wA rfl idx_ints (oO 1 6) (oO 3 8) (zv_at (by omega)) rfl
    · exact owe_aload rfl wA rfl ldr_int (by decide) (cel_shp (by decide) shp_zv) (oO 4 9) rfl
    · exact owe_part rfl wA rfl (k := 0) rfl (by kernel_rfl) rfl (fun ρ w b h => part_gso0 ρ _ _ w b 0 h)
    · exact owe_pload rfl wA rfl (oO 6 11) (k := 0) rfl (by kernel_rfl) rfl (fun ρ w b u h1 h2 h3 => ploadS rfl load1_vec ρ _ _ w b u h1 h2 h3)
    · exact mS 0 1
    · exact owe_aindex rfl wA rfl idx_ints (oO 7 12) (oO 8 13) (zv_at (by omega)) rfl
    · exact owe_aload rfl wA rfl ldr_int (by decide) (cel_shp (by decide) shp_zv) (oO 9 14) rfl
    · exact cc2 wA (qO 5 10 rfl) (qO 10 15 rfl) (fresh_rn _ _) (fun w u v h1 h2 => g_rmk (k := K) (k' := K) hd0 (by omega) (by omega) w u v ((fun _ _ h => h) _ _ h1) (by rw [← hd]; exact (fun _ _ h => h) _ _ h2))
    · exact owe_set rfl wA rfl (k := 1) rfl (by kernel_rfl) (oO 11 16) (stores_of strct_rat shp_r0 (shp_pr shp_zn shp_zn)) rfl
  intro B2 a2 W2 (S2 : Sta w 17 [(2, (.box 25 (SF [(Vv nD D K), (Mv nL L K)]))), (4, (.box 30 ((RN (nR (D.getD (i + 1) 0) d0) (dR (D.getD (i + 1) 0) d0)) w.heap.size)))] [] _ _ _)
  refine wp_ret ?_
  exact end_one S2 rfl (res_cell S2 1 4 rfl strct_rat (shp_pr shp_zn shp_zn))

end Go.Proofs.YtkiholgfamfgeaaGreat
