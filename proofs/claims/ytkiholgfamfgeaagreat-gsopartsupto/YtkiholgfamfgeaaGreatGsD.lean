import Derived.Test.YtkiholgfamfgeaaGreatGLaw
import Derived.Test.YtkiholgfamfgeaaGreatRConts
import Derived.Test.YtkiholgfamfgeaaGreatGArgs
/-
  gso.mayBe and what the document says of it.
-/
namespace Go.Proofs.YtkiholgfamfgeaaGreat
open Go Go.RowKit Nt
set_option linter.unusedSimpArgs false
set_option linter.unusedVariables false
set_option maxRecDepth 20000


theorem first_off (p : Nat → Bool) : ∀ n, (∀ j, j < n → p j = true) ∨ ∃ i, i < n ∧ p i = false ∧ ∀ j, j < i → p j = true
  | 0 => Or.inl (fun j h => by omega)
  | n + 1 => by
    rcases first_off p n with h | ⟨i, h1, h2, h3⟩
    · cases e : p n with
      | true => exact Or.inl (fun j hj => by rcases Nat.lt_or_ge j n with h' | h'; exact h j h'; rw [show j = n by omega]; exact e)
      | false => exact Or.inr ⟨n, by omega, e, h⟩
    · exact Or.inr ⟨i, by omega, h2, h3⟩
/-- May these be data? -/
structure Good (D : List Int) (L : List (List Int)) : Prop where
  some : L.length ≠ 0
  len : D.length = L.length + 1
  one : D.getD 0 0 = 1
  row : ∀ i, i < L.length → (L.getD i []).length = i
  pos : ∀ i, i < L.length → 0 < D.getD (i + 1) 0
/-- How it fails. -/
inductive Bad (D : List Int) (L : List (List Int)) : Prop
  | none : L.length = 0 → Bad D L
  | len : L.length ≠ 0 → D.length ≠ L.length + 1 → Bad D L
  | one : L.length ≠ 0 → D.length = L.length + 1 → D.getD 0 0 ≠ 1 → Bad D L
  | row (i0 : Nat) : L.length ≠ 0 → D.length = L.length + 1 → D.getD 0 0 = 1 → i0 < L.length → (∀ j, j < i0 → (L.getD j []).length = j ∧ 0 < D.getD (j + 1) 0) → ((L.getD i0 []).length ≠ i0 ∨ ((L.getD i0 []).length = i0 ∧ D.getD (i0 + 1) 0 ≤ 0)) → Bad D L
theorem good_or (D : List Int) (L : List (List Int)) : Good D L ∨ Bad D L := by
  by_cases h1 : L.length = 0
  · exact Or.inr (.none h1)
  by_cases h2 : D.length = L.length + 1
  · by_cases h3 : D.getD 0 0 = 1
    · rcases first_off (fun j => decide ((L.getD j []).length = j ∧ 0 < D.getD (j + 1) 0)) L.length with h | ⟨i, hi, h4, h5⟩
      · exact Or.inl ⟨h1, h2, h3, fun i hi => (of_decide_eq_true (h i hi)).1, fun i hi => (of_decide_eq_true (h i hi)).2⟩
      · refine Or.inr (.row i h1 h2 h3 hi (fun j hj => of_decide_eq_true (h5 j hj)) ?_)
        have := of_decide_eq_false h4
        by_cases h6 : (L.getD i []).length = i
        · exact Or.inr ⟨h6, by omega⟩
        · exact Or.inl h6
    · exact Or.inr (.one h1 h2 h3)
  · exact Or.inr (.len h1 h2)
theorem Good.d {D : List Int} {L : List (List Int)} (h : Good D L) (i : Nat) (hi : i < D.length) : 0 < D.getD i 0 := by
  cases i with
  | zero => rw [h.one]; decide
  | succ i => exact h.pos i (by have := h.len; omega)
theorem sgn_pos {z : Int} (h : 0 < z) : z.sign = 1 := Int.sign_eq_one_of_pos h
theorem sgn_npos {z : Int} (h : z ≤ 0) : z.sign ≤ 0 := by
  rcases Int.lt_or_le z 0 with h1 | h1
  · rw [Int.sign_eq_neg_one_of_neg h1]; decide
  · rw [show z = 0 by omega]; decide
theorem sgn0 {z : Int} (h : z = 0) : z.sign = 0 := by rw [h]; rfl
theorem sgn_ne {z : Int} (h : z ≠ 0) : z.sign ≠ 0 := fun e => h (Int.sign_eq_zero_iff_zero.1 e)

set_option maxHeartbeats 2000000 in
theorem may_t (w : World) (u : Value) (nD nL K : Nat) (D : List Int) (L : List (List Int)) (h : Hs w (SF [Vv nD D K, Mv nL L K]) u) (hD : nD ≤ 1048576) (hL : nL ≤ 1048576) (hK : K ≤ 1048576) (lD : D.length = nD) (lL : L.length = nL) (g : Good D L) :
    Calls Tryz.prog 15 #[u] w (Gives (IS (.bool true)) w) := by
  have hs := g.some
  have hl := g.len
  have h1 := g.one
  have hone : ((D.getD 0 0) - (1)).sign = 0 := sgn0 (by omega)
  refine calls_sta (sl := [(0, (SF [(Vv nD D K), (Mv nL L K)]))]) Tryz.func15 rfl Tryz.ntmps15 (by simp) (args_cons rfl (h) args_nil) ?_
  intro a0 S0
  refine wp_stmt_seq [.new (.box 25 (SF [(Vv nD D K), (Mv nL L K)])), kF] [.inl 0] [] follows S0 rfl (by kernel_rfl) ?_ ?_
  · refine ⟨⟨trivial, ?_⟩, ?_⟩
    · exact owe_box rfl wA rfl (oS 0 0) rfl (fun ρ w h => box_gso shp_sf2 ρ _ _ w h)
    · exact mC
  intro B1 a1 W1 (S1 : Sta w 51 [(1, (.box 25 (SF [(Vv nD D K), (Mv nL L K)])))] [] _ _ _)
  refine wp_seq ?_
  refine wp_stmt_seq [.val (Part a1 1 1), .val (Mv nL L K), .val (iV (nL : Nat)), kF, kF, .val (Part a1 1 0), .val (Vv nD D K), .val (iV (nD : Nat)), .val (Part a1 1 1), .val (Mv nL L K), .val (iV (nL : Nat)), .val (iV ((nL + 1 : Nat) : Int)), kF, kF, kF, .val (Part a1 1 0), .val (Vv nD D K), .val (AtE 2 (Zv (D.getD 0 0) K)), .val (Zv (D.getD 0 0) K), .val ((ZN (1)) w.heap.size), .val (iV (((D.getD 0 0) - 1).sign)), kF, kF] [.inr 0] [.inl 22] follows S1 rfl (by kernel_rfl) ?_ ?_
  · repeat' refine And.intro ?_ ?_
    · trivial
    · exact owe_part rfl wA rfl (k := 0) rfl (by kernel_rfl) rfl (fun ρ w b h => part_gso1 ρ _ _ w b 0 h)
    · exact owe_pload rfl wA rfl (oO 0 5) (k := 0) rfl (by kernel_rfl) rfl (fun ρ w b u h1 h2 h3 => ploadS rfl load1_mat ρ _ _ w b u h1 h2 h3)
    · exact owe_len rfl wA rfl (oO 1 6) ar_len Tryz.underlying23 rfl
    · exact b_eql_int_f wA (oO 2 7) (opnd_const _)
    · exact mO 3 8
    · exact owe_part rfl (wI 4 9) rfl (k := 0) rfl (by kernel_rfl) rfl (fun ρ w b h => part_gso0 ρ _ _ w b 0 h)
    · exact owe_pload rfl (wI 4 9) rfl (oO 5 10) (k := 0) rfl (by kernel_rfl) rfl (fun ρ w b u h1 h2 h3 => ploadS rfl load1_vec ρ _ _ w b u h1 h2 h3)
    · exact owe_len rfl (wI 4 9) rfl (oO 6 11) ar_len Tryz.underlying22 rfl
    · exact owe_part rfl (wI 4 9) rfl (k := 0) rfl (by kernel_rfl) rfl (fun ρ w b h => part_gso1 ρ _ _ w b 0 h)
    · exact owe_pload rfl (wI 4 9) rfl (oO 8 13) (k := 0) rfl (by kernel_rfl) rfl (fun ρ w b u h1 h2 h3 => ploadS rfl load1_mat ρ _ _ w b u h1 h2 h3)
    · exact owe_len rfl (wI 4 9) rfl (oO 9 14) ar_len Tryz.underlying23 rfl
    · exact b_add_int (wI 4 9) (oO 10 15) (opnd_const _)
    · exact b_neq_int_f (wI 4 9) (oO 7 12) (oO 11 16)
    · exact pF wA (oO 4 9) (oO 12 17)
    · exact mO 13 18
    · exact owe_part rfl (wI 14 19) rfl (k := 0) rfl (by kernel_rfl) rfl (fun ρ w b h => part_gso0 ρ _ _ w b 0 h)
    · exact owe_pload rfl (wI 14 19) rfl (oO 15 20) (k := 0) rfl (by kernel_rfl) rfl (fun ρ w b u h1 h2 h3 => ploadS rfl load1_vec ρ _ _ w b u h1 h2 h3)
    · exact owe_aindex rfl (wI 14 19) rfl idx_ints (oO 16 21) (opnd_const _) (zv_at (k := 0) (by omega)) rfl
    · exact owe_aload rfl (wI 14 19) rfl ldr_int (by decide) (cel_shp (by decide) shp_zv) (oO 17 22) rfl
    · exact cc1 (wI 14 19) (opnd_const _) (fresh_zn _) (g_zof (1) (by omega) (by omega))
    · exact cc2 (wI 14 19) (qO 18 23 rfl) (qO 19 24 rfl) (fresh_is _) (fun w u v h1 h2 => h_zcmp (by omega) (by omega) w u v ((fun _ _ h => h) _ _ h1) ((zn_zv one_dl) _ _ h2))
    · exact b_neq_int_f (wI 14 19) (oO 20 25) (opnd_const _) (h := hone)
    · exact pF wA (oO 14 19) (oO 21 26)
  intro B2 a2 W2 (S2 : Sta w 51 [(1, (.box 25 (SF [(Vv nD D K), (Mv nL L K)])))] [(27, bF)] _ _ _)
  refine wp_cond_false (S2.bool 0 27 rfl) ?_
  refine wp_skip ?_
  refine thenN ?_
  refine wp_seq ?_
  refine wp_stmt_seq [.val (Part a2 1 1), .val (Mv nL L K), .val (iV (nL : Nat)), .val (iV 0)] [.inr 0] [.inl 1, .inl 2, .inl 3] follows S2 rfl (by kernel_rfl) ?_ ?_
  · refine ⟨⟨⟨⟨trivial, ?_⟩, ?_⟩, ?_⟩, ?_⟩
    · exact owe_part rfl wA rfl (k := 0) rfl (by kernel_rfl) rfl (fun ρ w b h => part_gso1 ρ _ _ w b 0 h)
    · exact owe_pload rfl wA rfl (oO 0 28) (k := 0) rfl (by kernel_rfl) rfl (fun ρ w b u h1 h2 h3 => ploadS rfl load1_mat ρ _ _ w b u h1 h2 h3)
    · exact owe_len rfl wA rfl (oO 1 29) ar_len Tryz.underlying23 rfl
    · exact mC
  intro B3 a3 W3 (S3 : Sta w 51 [(1, (.box 25 (SF [(Vv nD D K), (Mv nL L K)])))] [(29, Mv nL L K), (30, iV (nL : Nat)), (31, iV 0)] _ _ _)
  refine wp_block ?_
  refine wp_loop_ghost (fun (k0 : Nat) a W => (k0 ≤ nL) ∧ ∃ Bq, Sta w 51 [(1, (.box 25 (SF [(Vv nD D K), (Mv nL L K)])))] [(29, Mv nL L K), (30, iV (nL : Nat)), (31, iV (k0 : Nat))] Bq a W) (fun (k0 : Nat) => nL - k0) ?_ 0 ⟨Nat.zero_le _, B3, S3.sub [0] [0, 1, 2]⟩
  rintro k0 a4 W4 ⟨hcond, B4, S4⟩
  by_cases hlt : k0 < nL
  · have hr := g.row k0 (by omega)
    have hp := sgn_pos (g.pos k0 (by omega))
    refine wp_stmt_seq [kT] [.inr 0] [.inl 0, .inr 0, .inr 1, .inr 2] follows S4 rfl (by kernel_rfl) ?_ ?_
    · refine ⟨trivial, ?_⟩
      · exact b_lss_int_t wA (oS 2 31) (oS 1 30)
    intro B5 a5 W5 (S5 : Sta w 51 [(1, (.box 25 (SF [(Vv nD D K), (Mv nL L K)])))] [(32, bT), (29, Mv nL L K), (30, iV (nL : Nat)), (31, iV (k0 : Nat))] _ _ _)
    refine wp_seq ?_
    refine wp_cond_true (S5.bool 0 32 rfl) ?_
    refine wp_skip ?_
    refine thenN ?_
    refine wp_seq ?_
    refine wp_block ?_
    refine wp_stmt_seq [.val (iV (k0 : Nat)), .val (AtE 1 (Vv ((L.getD k0 []).length) (L.getD k0 []) K)), .val (Vv ((L.getD k0 []).length) (L.getD k0 []) K), .val (iV (k0 : Nat)), .val (Vv ((L.getD k0 []).length) (L.getD k0 []) K)] [.inr 0] [.inl 3, .inl 4, .inr 1, .inr 2, .inr 3] follows S5 rfl (by kernel_rfl) ?_ ?_
    · refine ⟨⟨⟨⟨⟨trivial, ?_⟩, ?_⟩, ?_⟩, ?_⟩, ?_⟩
      · exact mS 3 31
      · exact owe_aindex rfl wA rfl idx_rows (oS 1 29) (oS 3 31) (vv_at (by omega)) rfl
      · exact owe_aload rfl wA rfl ldr_row1 (by decide) cel_vv (oO 1 34) rfl
      · exact mO 0 33
      · exact mO 2 35
    intro B6 a6 W6 (S6 : Sta w 51 [(1, (.box 25 (SF [(Vv nD D K), (Mv nL L K)])))] [(3, iV (k0 : Nat)), (4, Vv ((L.getD k0 []).length) (L.getD k0 []) K), (29, Mv nL L K), (30, iV (nL : Nat)), (31, iV (k0 : Nat))] _ _ _)
    refine wp_stmt_seq [.val (Vv ((L.getD k0 []).length) (L.getD k0 []) K), .val (iV ((L.getD k0 []).length : Nat)), .val (iV (k0 : Nat)), kF, kF, .val (Part a6 1 0), .val (Vv nD D K), .val (iV (k0 : Nat)), .val (iV ((k0 + 1 : Nat) : Int)), .val (AtE 2 (Zv (D.getD (k0 + 1) 0) K)), .val (Zv (D.getD (k0 + 1) 0) K), .val (iV ((D.getD (k0 + 1) 0).sign)), kF, kF] [.inr 0] [.inl 13, .inr 2, .inr 3, .inr 4] follows S6 rfl (by kernel_rfl) ?_ ?_
    · repeat' refine And.intro ?_ ?_
      · trivial
      · exact mS 1 4
      · exact owe_len rfl wA rfl (oO 0 36) ar_len Tryz.underlying22 rfl
      · exact mS 0 3
      · exact b_neq_int_f wA (oO 1 37) (oO 2 38)
      · exact mO 3 39
      · exact owe_part rfl (wI 4 40) rfl (k := 0) rfl (by kernel_rfl) rfl (fun ρ w b h => part_gso0 ρ _ _ w b 0 h)
      · exact owe_pload rfl (wI 4 40) rfl (oO 5 41) (k := 0) rfl (by kernel_rfl) rfl (fun ρ w b u h1 h2 h3 => ploadS rfl load1_vec ρ _ _ w b u h1 h2 h3)
      · exact mW (wI 4 40) (oS 0 3)
      · exact b_add_int (wI 4 40) (oO 7 43) (opnd_const _)
      · exact owe_aindex rfl (wI 4 40) rfl idx_ints (oO 6 42) (oO 8 44) (zv_at (by omega)) rfl
      · exact owe_aload rfl (wI 4 40) rfl ldr_int (by decide) (cel_shp (by decide) shp_zv) (oO 9 45) rfl
      · exact cc1 (wI 4 40) (qO 10 46 rfl) (fresh_is _) (fun w u h1 => h_zsign (by omega) w u ((fun _ _ h => h) _ _ h1))
      · exact b_leq_int_f (wI 4 40) (oO 11 47) (opnd_const _)
      · exact pF wA (oO 4 40) (oO 12 48)
    intro B7 a7 W7 (S7 : Sta w 51 [(1, (.box 25 (SF [(Vv nD D K), (Mv nL L K)])))] [(49, bF), (29, Mv nL L K), (30, iV (nL : Nat)), (31, iV (k0 : Nat))] _ _ _)
    refine wp_cond_false (S7.bool 0 49 rfl) ?_
    refine wp_skip ?_
    refine inBlkN ?_
    refine thenN ?_
    refine wp_stmt [.val (iV (k0 + 1 : Nat)), .val (iV (k0 + 1 : Nat))] [.inr 0] [.inl 1, .inr 1, .inr 2] follows S7 rfl (by kernel_rfl) ?_ ?_
    · refine ⟨⟨trivial, ?_⟩, ?_⟩
      · exact b_add_int wA (oS 3 31) (opnd_const _)
      · exact mO 0 50
    intro B8 a8 W8 (S8 : Sta w 51 [(1, (.box 25 (SF [(Vv nD D K), (Mv nL L K)])))] [(31, iV (k0 + 1 : Nat)), (29, Mv nL L K), (30, iV (nL : Nat))] _ _ _)
    refine thenN ?_
    exact ⟨k0 + 1, ⟨by omega, B8, S8.sub [0] [1, 2, 0]⟩, by omega⟩
  · skip
    refine wp_stmt_seq [kF] [.inr 0] [.inl 0, .inr 0, .inr 1, .inr 2] follows S4 rfl (by kernel_rfl) ?_ ?_
    · refine ⟨trivial, ?_⟩
      · exact b_lss_int_f wA (oS 2 31) (oS 1 30)
    intro B5 a5 W5 (S5 : Sta w 51 [(1, (.box 25 (SF [(Vv nD D K), (Mv nL L K)])))] [(32, bF), (29, Mv nL L K), (30, iV (nL : Nat)), (31, iV (k0 : Nat))] _ _ _)
    refine wp_seq ?_
    refine wp_cond_false (S5.bool 0 32 rfl) ?_
    refine wp_exit ?_
    refine thenX ?_
    refine thenX ?_
    refine inBlkE ?_
    refine thenN ?_
    refine wp_stmt_seq [kT] [.inr 0] [.inl 0, .inr 1, .inr 2, .inr 3] follows S5 rfl (by kernel_rfl) ?_ ?_
    · refine ⟨trivial, ?_⟩
      · exact mC
    intro B6 a6 W6 (S6 : Sta w 51 [(1, (.box 25 (SF [(Vv nD D K), (Mv nL L K)])))] [(2, bT), (29, Mv nL L K), (30, iV (nL : Nat)), (31, iV (k0 : Nat))] _ _ _)
    refine wp_ret ?_
    exact end_one S6 rfl (res_tmp S6 0 2 rfl)

set_option maxHeartbeats 4000000 in
theorem may_f (w : World) (u : Value) (nD nL K : Nat) (D : List Int) (L : List (List Int)) (h : Hs w (SF [Vv nD D K, Mv nL L K]) u) (hD : nD ≤ 1048576) (hL : nL ≤ 1048576) (hK : K ≤ 1048576) (lD : D.length = nD) (lL : L.length = nL) (g : Bad D L) :
    Calls Tryz.prog 15 #[u] w (Gives (IS (.bool false)) w) := by
  refine calls_sta (sl := [(0, (SF [(Vv nD D K), (Mv nL L K)]))]) Tryz.func15 rfl Tryz.ntmps15 (by simp) (args_cons rfl (h) args_nil) ?_
  intro a0 S0
  refine wp_stmt_seq [.new (.box 25 (SF [(Vv nD D K), (Mv nL L K)])), kF] [.inl 0] [] follows S0 rfl (by kernel_rfl) ?_ ?_
  · refine ⟨⟨trivial, ?_⟩, ?_⟩
    · exact owe_box rfl wA rfl (oS 0 0) rfl (fun ρ w h => box_gso shp_sf2 ρ _ _ w h)
    · exact mC
  intro B1 a1 W1 (S1 : Sta w 51 [(1, (.box 25 (SF [(Vv nD D K), (Mv nL L K)])))] [] _ _ _)
  rcases g with g1 | ⟨g1, g2⟩ | ⟨g1, g2, g3⟩ | ⟨i0, g1, g2, g3, g4, g5, g6⟩
  · skip
    refine wp_seq ?_
    refine wp_stmt_seq [.val (Part a1 1 1), .val (Mv nL L K), .val (iV (nL : Nat)), kT, kT, .off, .off, .off, .off, .off, .off, .off, .off, kT, kT, .off, .off, .off, .off, .off, .off, .off, kT] [.inr 0] [.inl 22] follows S1 rfl (by kernel_rfl) ?_ ?_
    · repeat' refine And.intro ?_ ?_
      · trivial
      · exact owe_part rfl wA rfl (k := 0) rfl (by kernel_rfl) rfl (fun ρ w b h => part_gso1 ρ _ _ w b 0 h)
      · exact owe_pload rfl wA rfl (oO 0 5) (k := 0) rfl (by kernel_rfl) rfl (fun ρ w b u h1 h2 h3 => ploadS rfl load1_mat ρ _ _ w b u h1 h2 h3)
      · exact owe_len rfl wA rfl (oO 1 6) ar_len Tryz.underlying23 rfl
      · exact b_eql_int_t wA (oO 2 7) (opnd_const _)
      · exact mO 3 8
      · exact oF 4 9
      · exact oF 4 9
      · exact oF 4 9
      · exact oF 4 9
      · exact oF 4 9
      · exact oF 4 9
      · exact oF 4 9
      · exact oF 4 9
      · exact pT wA (oO 4 9) (opnd_const _)
      · exact mO 13 18
      · exact oF 14 19
      · exact oF 14 19
      · exact oF 14 19
      · exact oF 14 19
      · exact oF 14 19
      · exact oF 14 19
      · exact oF 14 19
      · exact pT wA (oO 14 19) (opnd_const _)
    intro B2 a2 W2 (S2 : Sta w 51 [(1, (.box 25 (SF [(Vv nD D K), (Mv nL L K)])))] [(27, bT)] _ _ _)
    refine wp_cond_true (S2.bool 0 27 rfl) ?_
    refine wp_stmt_seq [kF] [.inr 0] [.inl 0] follows S2 rfl (by kernel_rfl) ?_ ?_
    · refine ⟨trivial, ?_⟩
      · exact mC
    intro B3 a3 W3 (S3 : Sta w 51 [(1, (.box 25 (SF [(Vv nD D K), (Mv nL L K)])))] [(2, bF)] _ _ _)
    refine wp_ret ?_
    refine thenR ?_
    exact end_one S3 rfl (res_tmp S3 0 2 rfl)
  · skip
    refine wp_seq ?_
    refine wp_stmt_seq [.val (Part a1 1 1), .val (Mv nL L K), .val (iV (nL : Nat)), kF, kF, .val (Part a1 1 0), .val (Vv nD D K), .val (iV (nD : Nat)), .val (Part a1 1 1), .val (Mv nL L K), .val (iV (nL : Nat)), .val (iV ((nL + 1 : Nat) : Int)), kT, kT, kT, .off, .off, .off, .off, .off, .off, .off, kT] [.inr 0] [.inl 22] follows S1 rfl (by kernel_rfl) ?_ ?_
    · repeat' refine And.intro ?_ ?_
      · trivial
      · exact owe_part rfl wA rfl (k := 0) rfl (by kernel_rfl) rfl (fun ρ w b h => part_gso1 ρ _ _ w b 0 h)
      · exact owe_pload rfl wA rfl (oO 0 5) (k := 0) rfl (by kernel_rfl) rfl (fun ρ w b u h1 h2 h3 => ploadS rfl load1_mat ρ _ _ w b u h1 h2 h3)
      · exact owe_len rfl wA rfl (oO 1 6) ar_len Tryz.underlying23 rfl
      · exact b_eql_int_f wA (oO 2 7) (opnd_const _)
      · exact mO 3 8
      · exact owe_part rfl (wI 4 9) rfl (k := 0) rfl (by kernel_rfl) rfl (fun ρ w b h => part_gso0 ρ _ _ w b 0 h)
      · exact owe_pload rfl (wI 4 9) rfl (oO 5 10) (k := 0) rfl (by kernel_rfl) rfl (fun ρ w b u h1 h2 h3 => ploadS rfl load1_vec ρ _ _ w b u h1 h2 h3)
      · exact owe_len rfl (wI 4 9) rfl (oO 6 11) ar_len Tryz.underlying22 rfl
      · exact owe_part rfl (wI 4 9) rfl (k := 0) rfl (by kernel_rfl) rfl (fun ρ w b h => part_gso1 ρ _ _ w b 0 h)
      · exact owe_pload rfl (wI 4 9) rfl (oO 8 13) (k := 0) rfl (by kernel_rfl) rfl (fun ρ w b u h1 h2 h3 => ploadS rfl load1_mat ρ _ _ w b u h1 h2 h3)
      · exact owe_len rfl (wI 4 9) rfl (oO 9 14) ar_len Tryz.underlying23 rfl
      · exact b_add_int (wI 4 9) (oO 10 15) (opnd_const _)
      · exact b_neq_int_t (wI 4 9) (oO 7 12) (oO 11 16)
      · exact pF wA (oO 4 9) (oO 12 17)
      · exact mO 13 18
      · exact oF 14 19
      · exact oF 14 19
      · exact oF 14 19
      · exact oF 14 19
      · exact oF 14 19
      · exact oF 14 19
      · exact oF 14 19
      · exact pT wA (oO 14 19) (opnd_const _)
    intro B2 a2 W2 (S2 : Sta w 51 [(1, (.box 25 (SF [(Vv nD D K), (Mv nL L K)])))] [(27, bT)] _ _ _)
    refine wp_cond_true (S2.bool 0 27 rfl) ?_
    refine wp_stmt_seq [kF] [.inr 0] [.inl 0] follows S2 rfl (by kernel_rfl) ?_ ?_
    · refine ⟨trivial, ?_⟩
      · exact mC
    intro B3 a3 W3 (S3 : Sta w 51 [(1, (.box 25 (SF [(Vv nD D K), (Mv nL L K)])))] [(2, bF)] _ _ _)
    refine wp_ret ?_
    refine thenR ?_
    exact end_one S3 rfl (res_tmp S3 0 2 rfl)
  · skip
    have hone : ((D.getD 0 0) - (1)).sign ≠ 0 := sgn_ne (by omega)
    refine wp_seq ?_
    refine wp_stmt_seq [.val (Part a1 1 1), .val (Mv nL L K), .val (iV (nL : Nat)), kF, kF, .val (Part a1 1 0), .val (Vv nD D K), .val (iV (nD : Nat)), .val (Part a1 1 1), .val (Mv nL L K), .val (iV (nL : Nat)), .val (iV ((nL + 1 : Nat) : Int)), kF, kF, kF, .val (Part a1 1 0), .val (Vv nD D K), .val (AtE 2 (Zv (D.getD 0 0) K)), .val (Zv (D.getD 0 0) K), .val ((ZN (1)) w.heap.size), .val (iV (((D.getD 0 0) - 1).sign)), kT, kT] [.inr 0] [.inl 22] follows S1 rfl (by kernel_rfl) ?_ ?_
    · repeat' refine And.intro ?_ ?_
      · trivial
      · exact owe_part rfl wA rfl (k := 0) rfl (by kernel_rfl) rfl (fun ρ w b h => part_gso1 ρ _ _ w b 0 h)
      · exact owe_pload rfl wA rfl (oO 0 5) (k := 0) rfl (by kernel_rfl) rfl (fun ρ w b u h1 h2 h3 => ploadS rfl load1_mat ρ _ _ w b u h1 h2 h3)
      · exact owe_len rfl wA rfl (oO 1 6) ar_len Tryz.underlying23 rfl
      · exact b_eql_int_f wA (oO 2 7) (opnd_const _)
      · exact mO 3 8
      · exact owe_part rfl (wI 4 9) rfl (k := 0) rfl (by kernel_rfl) rfl (fun ρ w b h => part_gso0 ρ _ _ w b 0 h)
      · exact owe_pload rfl (wI 4 9) rfl (oO 5 10) (k := 0) rfl (by kernel_rfl) rfl (fun ρ w b u h1 h2 h3 => ploadS rfl load1_vec ρ _ _ w b u h1 h2 h3)
      · exact owe_len rfl (wI 4 9) rfl (oO 6 11) ar_len Tryz.underlying22 rfl
      · exact owe_part rfl (wI 4 9) rfl (k := 0) rfl (by kernel_rfl) rfl (fun ρ w b h => part_gso1 ρ _ _ w b 0 h)
      · exact owe_pload rfl (wI 4 9) rfl (oO 8 13) (k := 0) rfl (by kernel_rfl) rfl (fun ρ w b u h1 h2 h3 => ploadS rfl load1_mat ρ _ _ w b u h1 h2 h3)
      · exact owe_len rfl (wI 4 9) rfl (oO 9 14) ar_len Tryz.underlying23 rfl
      · exact b_add_int (wI 4 9) (oO 10 15) (opnd_const _)
      · exact b_neq_int_f (wI 4 9) (oO 7 12) (oO 11 16)
      · exact pF wA (oO 4 9) (oO 12 17)
      · exact mO 13 18
      · exact owe_part rfl (wI 14 19) rfl (k := 0) rfl (by kernel_rfl) rfl (fun ρ w b h => part_gso0 ρ _ _ w b 0 h)
      · exact owe_pload rfl (wI 14 19) rfl (oO 15 20) (k := 0) rfl (by kernel_rfl) rfl (fun ρ w b u h1 h2 h3 => ploadS rfl load1_vec ρ _ _ w b u h1 h2 h3)
      · exact owe_aindex rfl (wI 14 19) rfl idx_ints (oO 16 21) (opnd_const _) (zv_at (k := 0) (by omega)) rfl
      · exact owe_aload rfl (wI 14 19) rfl ldr_int (by decide) (cel_shp (by decide) shp_zv) (oO 17 22) rfl
      · exact cc1 (wI 14 19) (opnd_const _) (fresh_zn _) (g_zof (1) (by omega) (by omega))
      · exact cc2 (wI 14 19) (qO 18 23 rfl) (qO 19 24 rfl) (fresh_is _) (fun w u v h1 h2 => h_zcmp (by omega) (by omega) w u v ((fun _ _ h => h) _ _ h1) ((zn_zv one_dl) _ _ h2))
      · exact b_neq_int_t (wI 14 19) (oO 20 25) (opnd_const _) (h := hone)
      · exact pF wA (oO 14 19) (oO 21 26)
    intro B2 a2 W2 (S2 : Sta w 51 [(1, (.box 25 (SF [(Vv nD D K), (Mv nL L K)])))] [(27, bT)] _ _ _)
    refine wp_cond_true (S2.bool 0 27 rfl) ?_
    refine wp_stmt_seq [kF] [.inr 0] [.inl 0] follows S2 rfl (by kernel_rfl) ?_ ?_
    · refine ⟨trivial, ?_⟩
      · exact mC
    intro B3 a3 W3 (S3 : Sta w 51 [(1, (.box 25 (SF [(Vv nD D K), (Mv nL L K)])))] [(2, bF)] _ _ _)
    refine wp_ret ?_
    refine thenR ?_
    exact end_one S3 rfl (res_tmp S3 0 2 rfl)
  · skip
    have hone : ((D.getD 0 0) - (1)).sign = 0 := sgn0 (by omega)
    refine wp_seq ?_
    refine wp_stmt_seq [.val (Part a1 1 1), .val (Mv nL L K), .val (iV (nL : Nat)), kF, kF, .val (Part a1 1 0), .val (Vv nD D K), .val (iV (nD : Nat)), .val (Part a1 1 1), .val (Mv nL L K), .val (iV (nL : Nat)), .val (iV ((nL + 1 : Nat) : Int)), kF, kF, kF, .val (Part a1 1 0), .val (Vv nD D K), .val (AtE 2 (Zv (D.getD 0 0) K)), .val (Zv (D.getD 0 0) K), .val ((ZN (1)) w.heap.size), .val (iV (((D.getD 0 0) - 1).sign)), kF, kF] [.inr 0] [.inl 22] follows S1 rfl (by kernel_rfl) ?_ ?_
    · repeat' refine And.intro ?_ ?_
      · trivial
      · exact owe_part rfl wA rfl (k := 0) rfl (by kernel_rfl) rfl (fun ρ w b h => part_gso1 ρ _ _ w b 0 h)
      · exact owe_pload rfl wA rfl (oO 0 5) (k := 0) rfl (by kernel_rfl) rfl (fun ρ w b u h1 h2 h3 => ploadS rfl load1_mat ρ _ _ w b u h1 h2 h3)
      · exact owe_len rfl wA rfl (oO 1 6) ar_len Tryz.underlying23 rfl
      · exact b_eql_int_f wA (oO 2 7) (opnd_const _)
      · exact mO 3 8
      · exact owe_part rfl (wI 4 9) rfl (k := 0) rfl (by kernel_rfl) rfl (fun ρ w b h => part_gso0 ρ _ _ w b 0 h)
      · exact owe_pload rfl (wI 4 9) rfl (oO 5 10) (k := 0) rfl (by kernel_rfl) rfl (fun ρ w b u h1 h2 h3 => ploadS rfl load1_vec ρ _ _ w b u h1 h2 h3)
      · exact owe_len rfl (wI 4 9) rfl (oO 6 11) ar_len Tryz.underlying22 rfl
      · exact owe_part rfl (wI 4 9) rfl (k := 0) rfl (by kernel_rfl) rfl (fun ρ w b h => part_gso1 ρ _ _ w b 0 h)
      · exact owe_pload rfl (wI 4 9) rfl (oO 8 13) (k := 0) rfl (by kernel_rfl) rfl (fun ρ w b u h1 h2 h3 => ploadS rfl load1_mat ρ _ _ w b u h1 h2 h3)
      · exact owe_len rfl (wI 4 9) rfl (oO 9 14) ar_len Tryz.underlying23 rfl
      · exact b_add_int (wI 4 9) (oO 10 15) (opnd_const _)
      · exact b_neq_int_f (wI 4 9) (oO 7 12) (oO 11 16)
      · exact pF wA (oO 4 9) (oO 12 17)
      · exact mO 13 18
      · exact owe_part rfl (wI 14 19) rfl (k := 0) rfl (by kernel_rfl) rfl (fun ρ w b h => part_gso0 ρ _ _ w b 0 h)
      · exact owe_pload rfl (wI 14 19) rfl (oO 15 20) (k := 0) rfl (by kernel_rfl) rfl (fun ρ w b u h1 h2 h3 => ploadS rfl load1_vec ρ _ _ w b u h1 h2 h3)
      · exact owe_aindex rfl (wI 14 19) rfl idx_ints (oO 16 21) (opnd_const _) (zv_at (k := 0) (by omega)) rfl
      · exact owe_aload rfl (wI 14 19) rfl ldr_int (by decide) (cel_shp (by decide) shp_zv) (oO 17 22) rfl
      · exact cc1 (wI 14 19) (opnd_const _) (fresh_zn _) (g_zof (1) (by omega) (by omega))
      · exact cc2 (wI 14 19) (qO 18 23 rfl) (qO 19 24 rfl) (fresh_is _) (fun w u v h1 h2 => h_zcmp (by omega) (by omega) w u v ((fun _ _ h => h) _ _ h1) ((zn_zv one_dl) _ _ h2))
      · exact b_neq_int_f (wI 14 19) (oO 20 25) (opnd_const _) (h := hone)
      · exact pF wA (oO 14 19) (oO 21 26)
    intro B2 a2 W2 (S2 : Sta w 51 [(1, (.box 25 (SF [(Vv nD D K), (Mv nL L K)])))] [(27, bF)] _ _ _)
    refine wp_cond_false (S2.bool 0 27 rfl) ?_
    refine wp_skip ?_
    refine thenN ?_
    refine wp_seq ?_
    refine wp_stmt_seq [.val (Part a2 1 1), .val (Mv nL L K), .val (iV (nL : Nat)), .val (iV 0)] [.inr 0] [.inl 1, .inl 2, .inl 3] follows S2 rfl (by kernel_rfl) ?_ ?_
    · refine ⟨⟨⟨⟨trivial, ?_⟩, ?_⟩, ?_⟩, ?_⟩
      · exact owe_part rfl wA rfl (k := 0) rfl (by kernel_rfl) rfl (fun ρ w b h => part_gso1 ρ _ _ w b 0 h)
      · exact owe_pload rfl wA rfl (oO 0 28) (k := 0) rfl (by kernel_rfl) rfl (fun ρ w b u h1 h2 h3 => ploadS rfl load1_mat ρ _ _ w b u h1 h2 h3)
      · exact owe_len rfl wA rfl (oO 1 29) ar_len Tryz.underlying23 rfl
      · exact mC
    intro B3 a3 W3 (S3 : Sta w 51 [(1, (.box 25 (SF [(Vv nD D K), (Mv nL L K)])))] [(29, Mv nL L K), (30, iV (nL : Nat)), (31, iV 0)] _ _ _)
    refine wp_block ?_
    refine wp_loop_ghost (fun (k0 : Nat) a W => (k0 ≤ i0) ∧ ∃ Bq, Sta w 51 [(1, (.box 25 (SF [(Vv nD D K), (Mv nL L K)])))] [(29, Mv nL L K), (30, iV (nL : Nat)), (31, iV (k0 : Nat))] Bq a W) (fun (k0 : Nat) => nL - k0) ?_ 0 ⟨Nat.zero_le _, B3, S3.sub [0] [0, 1, 2]⟩
    rintro k0 a4 W4 ⟨hcond, B4, S4⟩
    by_cases hlt : k0 < i0
    · have hr := (g5 k0 hlt).1
      have hp := sgn_pos (g5 k0 hlt).2
      refine wp_stmt_seq [kT] [.inr 0] [.inl 0, .inr 0, .inr 1, .inr 2] follows S4 rfl (by kernel_rfl) ?_ ?_
      · refine ⟨trivial, ?_⟩
        · exact b_lss_int_t wA (oS 2 31) (oS 1 30)
      intro B5 a5 W5 (S5 : Sta w 51 [(1, (.box 25 (SF [(Vv nD D K), (Mv nL L K)])))] [(32, bT), (29, Mv nL L K), (30, iV (nL : Nat)), (31, iV (k0 : Nat))] _ _ _)
      refine wp_seq ?_
      refine wp_cond_true (S5.bool 0 32 rfl) ?_
      refine wp_skip ?_
      refine thenN ?_
      refine wp_seq ?_
      refine wp_block ?_
      refine wp_stmt_seq [.val (iV (k0 : Nat)), .val (AtE 1 (Vv ((L.getD k0 []).length) (L.getD k0 []) K)), .val (Vv ((L.getD k0 []).length) (L.getD k0 []) K), .val (iV (k0 : Nat)), .val (Vv ((L.getD k0 []).length) (L.getD k0 []) K)] [.inr 0] [.inl 3, .inl 4, .inr 1, .inr 2, .inr 3] follows S5 rfl (by kernel_rfl) ?_ ?_
      · refine ⟨⟨⟨⟨⟨trivial, ?_⟩, ?_⟩, ?_⟩, ?_⟩, ?_⟩
        · exact mS 3 31
        · exact owe_aindex rfl wA rfl idx_rows (oS 1 29) (oS 3 31) (vv_at (by omega)) rfl
        · exact owe_aload rfl wA rfl ldr_row1 (by decide) cel_vv (oO 1 34) rfl
        · exact mO 0 33
        · exact mO 2 35
      intro B6 a6 W6 (S6 : Sta w 51 [(1, (.box 25 (SF [(Vv nD D K), (Mv nL L K)])))] [(3, iV (k0 : Nat)), (4, Vv ((L.getD k0 []).length) (L.getD k0 []) K), (29, Mv nL L K), (30, iV (nL : Nat)), (31, iV (k0 : Nat))] _ _ _)
      refine wp_stmt_seq [.val (Vv ((L.getD k0 []).length) (L.getD k0 []) K), .val (iV ((L.getD k0 []).length : Nat)), .val (iV (k0 : Nat)), kF, kF, .val (Part a6 1 0), .val (Vv nD D K), .val (iV (k0 : Nat)), .val (iV ((k0 + 1 : Nat) : Int)), .val (AtE 2 (Zv (D.getD (k0 + 1) 0) K)), .val (Zv (D.getD (k0 + 1) 0) K), .val (iV ((D.getD (k0 + 1) 0).sign)), kF, kF] [.inr 0] [.inl 13, .inr 2, .inr 3, .inr 4] follows S6 rfl (by kernel_rfl) ?_ ?_
      · repeat' refine And.intro ?_ ?_
        · trivial
        · exact mS 1 4
        · exact owe_len rfl wA rfl (oO 0 36) ar_len Tryz.underlying22 rfl
        · exact mS 0 3
        · exact b_neq_int_f wA (oO 1 37) (oO 2 38)
        · exact mO 3 39
        · exact owe_part rfl (wI 4 40) rfl (k := 0) rfl (by kernel_rfl) rfl (fun ρ w b h => part_gso0 ρ _ _ w b 0 h)
        · exact owe_pload rfl (wI 4 40) rfl (oO 5 41) (k := 0) rfl (by kernel_rfl) rfl (fun ρ w b u h1 h2 h3 => ploadS rfl load1_vec ρ _ _ w b u h1 h2 h3)
        · exact mW (wI 4 40) (oS 0 3)
        · exact b_add_int (wI 4 40) (oO 7 43) (opnd_const _)
        · exact owe_aindex rfl (wI 4 40) rfl idx_ints (oO 6 42) (oO 8 44) (zv_at (by omega)) rfl
        · exact owe_aload rfl (wI 4 40) rfl ldr_int (by decide) (cel_shp (by decide) shp_zv) (oO 9 45) rfl
        · exact cc1 (wI 4 40) (qO 10 46 rfl) (fresh_is _) (fun w u h1 => h_zsign (by omega) w u ((fun _ _ h => h) _ _ h1))
        · exact b_leq_int_f (wI 4 40) (oO 11 47) (opnd_const _)
        · exact pF wA (oO 4 40) (oO 12 48)
      intro B7 a7 W7 (S7 : Sta w 51 [(1, (.box 25 (SF [(Vv nD D K), (Mv nL L K)])))] [(49, bF), (29, Mv nL L K), (30, iV (nL : Nat)), (31, iV (k0 : Nat))] _ _ _)
      refine wp_cond_false (S7.bool 0 49 rfl) ?_
      refine wp_skip ?_
      refine inBlkN ?_
      refine thenN ?_
      refine wp_stmt [.val (iV (k0 + 1 : Nat)), .val (iV (k0 + 1 : Nat))] [.inr 0] [.inl 1, .inr 1, .inr 2] follows S7 rfl (by kernel_rfl) ?_ ?_
      · refine ⟨⟨trivial, ?_⟩, ?_⟩
        · exact b_add_int wA (oS 3 31) (opnd_const _)
        · exact mO 0 50
      intro B8 a8 W8 (S8 : Sta w 51 [(1, (.box 25 (SF [(Vv nD D K), (Mv nL L K)])))] [(31, iV (k0 + 1 : Nat)), (29, Mv nL L K), (30, iV (nL : Nat))] _ _ _)
      refine thenN ?_
      exact ⟨k0 + 1, ⟨by omega, B8, S8.sub [0] [1, 2, 0]⟩, by omega⟩
    · have ek : k0 = i0 := by omega
      rw [← ek] at g6
      refine wp_stmt_seq [kT] [.inr 0] [.inl 0, .inr 0, .inr 1, .inr 2] follows S4 rfl (by kernel_rfl) ?_ ?_
      · refine ⟨trivial, ?_⟩
        · exact b_lss_int_t wA (oS 2 31) (oS 1 30)
      intro B5 a5 W5 (S5 : Sta w 51 [(1, (.box 25 (SF [(Vv nD D K), (Mv nL L K)])))] [(32, bT), (29, Mv nL L K), (30, iV (nL : Nat)), (31, iV (k0 : Nat))] _ _ _)
      refine wp_seq ?_
      refine wp_cond_true (S5.bool 0 32 rfl) ?_
      refine wp_skip ?_
      refine thenN ?_
      refine wp_seq ?_
      refine wp_block ?_
      refine wp_stmt_seq [.val (iV (k0 : Nat)), .val (AtE 1 (Vv ((L.getD k0 []).length) (L.getD k0 []) K)), .val (Vv ((L.getD k0 []).length) (L.getD k0 []) K), .val (iV (k0 : Nat)), .val (Vv ((L.getD k0 []).length) (L.getD k0 []) K)] [.inr 0] [.inl 3, .inl 4, .inr 1, .inr 2, .inr 3] follows S5 rfl (by kernel_rfl) ?_ ?_
      · refine ⟨⟨⟨⟨⟨trivial, ?_⟩, ?_⟩, ?_⟩, ?_⟩, ?_⟩
        · exact mS 3 31
        · exact owe_aindex rfl wA rfl idx_rows (oS 1 29) (oS 3 31) (vv_at (by omega)) rfl
        · exact owe_aload rfl wA rfl ldr_row1 (by decide) cel_vv (oO 1 34) rfl
        · exact mO 0 33
        · exact mO 2 35
      intro B6 a6 W6 (S6 : Sta w 51 [(1, (.box 25 (SF [(Vv nD D K), (Mv nL L K)])))] [(3, iV (k0 : Nat)), (4, Vv ((L.getD k0 []).length) (L.getD k0 []) K), (29, Mv nL L K), (30, iV (nL : Nat)), (31, iV (k0 : Nat))] _ _ _)
      rcases g6 with g6 | ⟨g6, g7⟩
      · skip
        refine wp_stmt_seq [.val (Vv ((L.getD k0 []).length) (L.getD k0 []) K), .val (iV ((L.getD k0 []).length : Nat)), .val (iV (k0 : Nat)), kT, kT, .off, .off, .off, .off, .off, .off, .off, .off, kT] [.inr 0] [.inl 13, .inr 2, .inr 3, .inr 4] follows S6 rfl (by kernel_rfl) ?_ ?_
        · repeat' refine And.intro ?_ ?_
          · trivial
          · exact mS 1 4
          · exact owe_len rfl wA rfl (oO 0 36) ar_len Tryz.underlying22 rfl
          · exact mS 0 3
          · exact b_neq_int_t wA (oO 1 37) (oO 2 38)
          · exact mO 3 39
          · exact oF 4 40
          · exact oF 4 40
          · exact oF 4 40
          · exact oF 4 40
          · exact oF 4 40
          · exact oF 4 40
          · exact oF 4 40
          · exact oF 4 40
          · exact pT wA (oO 4 40) (opnd_const _)
        intro B7 a7 W7 (S7 : Sta w 51 [(1, (.box 25 (SF [(Vv nD D K), (Mv nL L K)])))] [(49, bT), (29, Mv nL L K), (30, iV (nL : Nat)), (31, iV (k0 : Nat))] _ _ _)
        refine wp_cond_true (S7.bool 0 49 rfl) ?_
        refine wp_stmt_seq [kF] [.inr 0] [.inl 0, .inr 1, .inr 2, .inr 3] follows S7 rfl (by kernel_rfl) ?_ ?_
        · refine ⟨trivial, ?_⟩
          · exact mC
        intro B8 a8 W8 (S8 : Sta w 51 [(1, (.box 25 (SF [(Vv nD D K), (Mv nL L K)])))] [(2, bF), (29, Mv nL L K), (30, iV (nL : Nat)), (31, iV (k0 : Nat))] _ _ _)
        refine wp_ret ?_
        refine inBlkR ?_
        refine thenR ?_
        refine thenR ?_
        refine inBlkR ?_
        refine thenR ?_
        exact end_one S8 rfl (res_tmp S8 0 2 rfl)
      · skip
        have hp := sgn_npos g7
        refine wp_stmt_seq [.val (Vv ((L.getD k0 []).length) (L.getD k0 []) K), .val (iV ((L.getD k0 []).length : Nat)), .val (iV (k0 : Nat)), kF, kF, .val (Part a6 1 0), .val (Vv nD D K), .val (iV (k0 : Nat)), .val (iV ((k0 + 1 : Nat) : Int)), .val (AtE 2 (Zv (D.getD (k0 + 1) 0) K)), .val (Zv (D.getD (k0 + 1) 0) K), .val (iV ((D.getD (k0 + 1) 0).sign)), kT, kT] [.inr 0] [.inl 13, .inr 2, .inr 3, .inr 4] follows S6 rfl (by kernel_rfl) ?_ ?_
        · repeat' refine And.intro ?_ ?_
          · trivial
          · exact mS 1 4
          · exact owe_len rfl wA rfl (oO 0 36) ar_len Tryz.underlying22 rfl
          · exact mS 0 3
          · exact b_neq_int_f wA (oO 1 37) (oO 2 38)
          · exact mO 3 39
          · exact owe_part rfl (wI 4 40) rfl (k := 0) rfl (by kernel_rfl) rfl (fun ρ w b h => part_gso0 ρ _ _ w b 0 h)
          · exact owe_pload rfl (wI 4 40) rfl (oO 5 41) (k := 0) rfl (by kernel_rfl) rfl (fun ρ w b u h1 h2 h3 => ploadS rfl load1_vec ρ _ _ w b u h1 h2 h3)
          · exact mW (wI 4 40) (oS 0 3)
          · exact b_add_int (wI 4 40) (oO 7 43) (opnd_const _)
          · exact owe_aindex rfl (wI 4 40) rfl idx_ints (oO 6 42) (oO 8 44) (zv_at (by omega)) rfl
          · exact owe_aload rfl (wI 4 40) rfl ldr_int (by decide) (cel_shp (by decide) shp_zv) (oO 9 45) rfl
          · exact cc1 (wI 4 40) (qO 10 46 rfl) (fresh_is _) (fun w u h1 => h_zsign (by omega) w u ((fun _ _ h => h) _ _ h1))
          · exact b_leq_int_t (wI 4 40) (oO 11 47) (opnd_const _)
          · exact pF wA (oO 4 40) (oO 12 48)
        intro B7 a7 W7 (S7 : Sta w 51 [(1, (.box 25 (SF [(Vv nD D K), (Mv nL L K)])))] [(49, bT), (29, Mv nL L K), (30, iV (nL : Nat)), (31, iV (k0 : Nat))] _ _ _)
        refine wp_cond_true (S7.bool 0 49 rfl) ?_
        refine wp_stmt_seq [kF] [.inr 0] [.inl 0, .inr 1, .inr 2, .inr 3] follows S7 rfl (by kernel_rfl) ?_ ?_
        · refine ⟨trivial, ?_⟩
          · exact mC
        intro B8 a8 W8 (S8 : Sta w 51 [(1, (.box 25 (SF [(Vv nD D K), (Mv nL L K)])))] [(2, bF), (29, Mv nL L K), (30, iV (nL : Nat)), (31, iV (k0 : Nat))] _ _ _)
        refine wp_ret ?_
        refine inBlkR ?_
        refine thenR ?_
        refine thenR ?_
        refine inBlkR ?_
        refine thenR ?_
        exact end_one S8 rfl (res_tmp S8 0 2 rfl)

set_option maxHeartbeats 2000000 in
theorem good_t (w : World) (u : Value) (nD nL K : Nat) (D : List Int) (L : List (List Int)) (h : Hs w (SF [Vv nD D K, Mv nL L K]) u) (hD : nD ≤ 1048576) (hL : nL ≤ 1048576) (hK : K ≤ 1048576) (lD : D.length = nD) (lL : L.length = nL) (g : Good D L) :
    Calls Tryz.prog 7 #[u] w (Gives (IS (.bool true)) w) := by
  have hs := g.some
  have hl := g.len
  have h1 := g.one
  have hpos : ∀ i, i < nD → 0 < D.getD i 0 := fun i hi => g.d i (by omega)
  have hone : ((D.getD 0 0) - (1)).sign = 0 := sgn0 (by omega)
  refine calls_sta (sl := [(0, (SF [(Vv nD D K), (Mv nL L K)]))]) Tryz.func7 rfl Tryz.ntmps7 (by simp) (args_cons rfl (h) args_nil) ?_
  intro a0 S0
  refine wp_stmt_seq [.new (.box 25 (SF [(Vv nD D K), (Mv nL L K)])), kF] [.inl 0] [] follows S0 rfl (by kernel_rfl) ?_ ?_
  · refine ⟨⟨trivial, ?_⟩, ?_⟩
    · exact owe_box rfl wA rfl (oS 0 0) rfl (fun ρ w h => box_gso shp_sf2 ρ _ _ w h)
    · exact mC
  intro B1 a1 W1 (S1 : Sta w 57 [(1, (.box 25 (SF [(Vv nD D K), (Mv nL L K)])))] [] _ _ _)
  refine wp_seq ?_
  refine wp_stmt_seq [.val (Part a1 1 1), .val (Mv nL L K), .val (iV (nL : Nat)), kF, kF, .val (Part a1 1 0), .val (Vv nD D K), .val (iV (nD : Nat)), .val (Part a1 1 1), .val (Mv nL L K), .val (iV (nL : Nat)), .val (iV ((nL + 1 : Nat) : Int)), kF, kF, kF, .val (Part a1 1 0), .val (Vv nD D K), .val (AtE 2 (Zv (D.getD 0 0) K)), .val (Zv (D.getD 0 0) K), .val ((ZN (1)) w.heap.size), .val (iV (((D.getD 0 0) - 1).sign)), kF, kF] [.inr 0] [.inl 22] follows S1 rfl (by kernel_rfl) ?_ ?_
  · repeat' refine And.intro ?_ ?_
    · trivial
    · exact owe_part rfl wA rfl (k := 0) rfl (by kernel_rfl) rfl (fun ρ w b h => part_gso1 ρ _ _ w b 0 h)
    · exact owe_pload rfl wA rfl (oO 0 5) (k := 0) rfl (by kernel_rfl) rfl (fun ρ w b u h1 h2 h3 => ploadS rfl load1_mat ρ _ _ w b u h1 h2 h3)
    · exact owe_len rfl wA rfl (oO 1 6) ar_len Tryz.underlying23 rfl
    · exact b_eql_int_f wA (oO 2 7) (opnd_const _)
    · exact mO 3 8
    · exact owe_part rfl (wI 4 9) rfl (k := 0) rfl (by kernel_rfl) rfl (fun ρ w b h => part_gso0 ρ _ _ w b 0 h)
    · exact owe_pload rfl (wI 4 9) rfl (oO 5 10) (k := 0) rfl (by kernel_rfl) rfl (fun ρ w b u h1 h2 h3 => ploadS rfl load1_vec ρ _ _ w b u h1 h2 h3)
    · exact owe_len rfl (wI 4 9) rfl (oO 6 11) ar_len Tryz.underlying22 rfl
    · exact owe_part rfl (wI 4 9) rfl (k := 0) rfl (by kernel_rfl) rfl (fun ρ w b h => part_gso1 ρ _ _ w b 0 h)
    · exact owe_pload rfl (wI 4 9) rfl (oO 8 13) (k := 0) rfl (by kernel_rfl) rfl (fun ρ w b u h1 h2 h3 => ploadS rfl load1_mat ρ _ _ w b u h1 h2 h3)
    · exact owe_len rfl (wI 4 9) rfl (oO 9 14) ar_len Tryz.underlying23 rfl
    · exact b_add_int (wI 4 9) (oO 10 15) (opnd_const _)
    · exact b_neq_int_f (wI 4 9) (oO 7 12) (oO 11 16)
    · exact pF wA (oO 4 9) (oO 12 17)
    · exact mO 13 18
    · exact owe_part rfl (wI 14 19) rfl (k := 0) rfl (by kernel_rfl) rfl (fun ρ w b h => part_gso0 ρ _ _ w b 0 h)
    · exact owe_pload rfl (wI 14 19) rfl (oO 15 20) (k := 0) rfl (by kernel_rfl) rfl (fun ρ w b u h1 h2 h3 => ploadS rfl load1_vec ρ _ _ w b u h1 h2 h3)
    · exact owe_aindex rfl (wI 14 19) rfl idx_ints (oO 16 21) (opnd_const _) (zv_at (k := 0) (by omega)) rfl
    · exact owe_aload rfl (wI 14 19) rfl ldr_int (by decide) (cel_shp (by decide) shp_zv) (oO 17 22) rfl
    · exact cc1 (wI 14 19) (opnd_const _) (fresh_zn _) (g_rof 1 (by omega) (by omega))
    · exact cc2 (wI 14 19) (qO 18 23 rfl) (qO 19 24 rfl) (fresh_is _) (fun w u v h1 h2 => h_rcmp (by omega) (by omega) w u v ((fun _ _ h => h) _ _ h1) ((zn_zv one_dl) _ _ h2))
    · exact b_neq_int_f (wI 14 19) (oO 20 25) (opnd_const _) (h := hone)
    · exact pF wA (oO 14 19) (oO 21 26)
  intro B2 a2 W2 (S2 : Sta w 57 [(1, (.box 25 (SF [(Vv nD D K), (Mv nL L K)])))] [(27, bF)] _ _ _)
  refine wp_cond_false (S2.bool 0 27 rfl) ?_
  refine wp_skip ?_
  refine thenN ?_
  refine wp_seq ?_
  refine wp_stmt_seq [.val (iV 0)] [.inr 0] [.inl 0] follows S2 rfl (by kernel_rfl) ?_ ?_
  · refine ⟨trivial, ?_⟩
    · exact mC
  intro B3 a3 W3 (S3 : Sta w 57 [(1, (.box 25 (SF [(Vv nD D K), (Mv nL L K)])))] [(3, iV 0)] _ _ _)
  refine wp_block ?_
  refine wp_loop_ghost (fun (k0 : Nat) a W => (k0 ≤ nD) ∧ ∃ Bq, Sta w 57 [(1, (.box 25 (SF [(Vv nD D K), (Mv nL L K)])))] [(3, iV (k0 : Nat))] Bq a W) (fun (k0 : Nat) => nD - k0) ?_ 0 ⟨Nat.zero_le _, B3, S3.sub [0] [0]⟩
  rintro k0 a4 W4 ⟨hcond, B4, S4⟩
  by_cases hlt : k0 < nD
  · have hp := sgn_pos (hpos k0 hlt)
    refine wp_seq ?_
    refine wp_stmt_seq [.val (iV (k0 : Nat)), .val (Part a4 1 0), .val (Vv nD D K), .val (iV (nD : Nat)), kT] [.inr 0] [.inl 4, .inr 0] follows S4 rfl (by kernel_rfl) ?_ ?_
    · refine ⟨⟨⟨⟨⟨trivial, ?_⟩, ?_⟩, ?_⟩, ?_⟩, ?_⟩
      · exact mS 0 3
      · exact owe_part rfl wA rfl (k := 0) rfl (by kernel_rfl) rfl (fun ρ w b h => part_gso0 ρ _ _ w b 0 h)
      · exact owe_pload rfl wA rfl (oO 1 29) (k := 0) rfl (by kernel_rfl) rfl (fun ρ w b u h1 h2 h3 => ploadS rfl load1_vec ρ _ _ w b u h1 h2 h3)
      · exact owe_len rfl wA rfl (oO 2 30) ar_len Tryz.underlying22 rfl
      · exact b_lss_int_t wA (oO 0 28) (oO 3 31)
    intro B5 a5 W5 (S5 : Sta w 57 [(1, (.box 25 (SF [(Vv nD D K), (Mv nL L K)])))] [(32, bT), (3, iV (k0 : Nat))] _ _ _)
    refine wp_cond_true (S5.bool 0 32 rfl) ?_
    refine wp_skip ?_
    refine thenN ?_
    refine wp_seq ?_
    refine wp_block ?_
    refine wp_stmt_seq [.val (Part a5 1 0), .val (Vv nD D K), .val (iV (k0 : Nat)), .val (AtE 2 (Zv (D.getD k0 0) K)), .val (Zv (D.getD k0 0) K), .val (iV ((D.getD k0 0).sign)), kF] [.inr 0] [.inl 6, .inr 1] follows S5 rfl (by kernel_rfl) ?_ ?_
    · repeat' refine And.intro ?_ ?_
      · trivial
      · exact owe_part rfl wA rfl (k := 0) rfl (by kernel_rfl) rfl (fun ρ w b h => part_gso0 ρ _ _ w b 0 h)
      · exact owe_pload rfl wA rfl (oO 0 35) (k := 0) rfl (by kernel_rfl) rfl (fun ρ w b u h1 h2 h3 => ploadS rfl load1_vec ρ _ _ w b u h1 h2 h3)
      · exact mS 1 3
      · exact owe_aindex rfl wA rfl idx_ints (oO 1 36) (oO 2 37) (zv_at (by omega)) rfl
      · exact owe_aload rfl wA rfl ldr_int (by decide) (cel_shp (by decide) shp_zv) (oO 3 38) rfl
      · exact cc1 wA (qO 4 39 rfl) (fresh_is _) (fun w u h1 => g_rsign (by omega) w u ((fun _ _ h => h) _ _ h1))
      · exact b_leq_int_f wA (oO 5 40) (opnd_const _)
    intro B6 a6 W6 (S6 : Sta w 57 [(1, (.box 25 (SF [(Vv nD D K), (Mv nL L K)])))] [(41, bF), (3, iV (k0 : Nat))] _ _ _)
    refine wp_cond_false (S6.bool 0 41 rfl) ?_
    refine wp_skip ?_
    refine inBlkN ?_
    refine thenN ?_
    refine wp_stmt [.val (iV (k0 : Nat)), .val (iV (k0 + 1 : Nat)), .val (iV (k0 + 1 : Nat))] [.inr 0] [.inl 2] follows S6 rfl (by kernel_rfl) ?_ ?_
    · refine ⟨⟨⟨trivial, ?_⟩, ?_⟩, ?_⟩
      · exact mS 1 3
      · exact b_add_int wA (oO 0 33) (opnd_const _)
      · exact mO 1 34
    intro B7 a7 W7 (S7 : Sta w 57 [(1, (.box 25 (SF [(Vv nD D K), (Mv nL L K)])))] [(3, iV (k0 + 1 : Nat))] _ _ _)
    refine thenN ?_
    exact ⟨k0 + 1, ⟨by omega, B7, S7.sub [0] [0]⟩, by omega⟩
  · skip
    refine wp_seq ?_
    refine wp_stmt_seq [.val (iV (k0 : Nat)), .val (Part a4 1 0), .val (Vv nD D K), .val (iV (nD : Nat)), kF] [.inr 0] [.inl 4, .inr 0] follows S4 rfl (by kernel_rfl) ?_ ?_
    · refine ⟨⟨⟨⟨⟨trivial, ?_⟩, ?_⟩, ?_⟩, ?_⟩, ?_⟩
      · exact mS 0 3
      · exact owe_part rfl wA rfl (k := 0) rfl (by kernel_rfl) rfl (fun ρ w b h => part_gso0 ρ _ _ w b 0 h)
      · exact owe_pload rfl wA rfl (oO 1 29) (k := 0) rfl (by kernel_rfl) rfl (fun ρ w b u h1 h2 h3 => ploadS rfl load1_vec ρ _ _ w b u h1 h2 h3)
      · exact owe_len rfl wA rfl (oO 2 30) ar_len Tryz.underlying22 rfl
      · exact b_lss_int_f wA (oO 0 28) (oO 3 31)
    intro B5 a5 W5 (S5 : Sta w 57 [(1, (.box 25 (SF [(Vv nD D K), (Mv nL L K)])))] [(32, bF), (3, iV (k0 : Nat))] _ _ _)
    refine wp_cond_false (S5.bool 0 32 rfl) ?_
    refine wp_exit ?_
    refine thenX ?_
    refine thenX ?_
    refine inBlkE ?_
    refine thenN ?_
    refine wp_seq ?_
    refine wp_stmt_seq [.val (iV 0)] [.inr 0] [.inl 0, .inr 1] follows S5 rfl (by kernel_rfl) ?_ ?_
    · refine ⟨trivial, ?_⟩
      · exact mC
    intro B6 a6 W6 (S6 : Sta w 57 [(1, (.box 25 (SF [(Vv nD D K), (Mv nL L K)])))] [(4, iV 0), (3, iV (k0 : Nat))] _ _ _)
    refine wp_block ?_
    refine wp_loop_ghost (fun (k0 : Nat) a W => (k0 ≤ nL) ∧ ∃ Bq, Sta w 57 [(1, (.box 25 (SF [(Vv nD D K), (Mv nL L K)])))] [(4, iV (k0 : Nat))] Bq a W) (fun (k0 : Nat) => nL - k0) ?_ 0 ⟨Nat.zero_le _, B6, S6.sub [0] [0]⟩
    rintro k0 a7 W7 ⟨hcond, B7, S7⟩
    by_cases hlt : k0 < nL
    · have hr := g.row k0 (by omega)
      refine wp_seq ?_
      refine wp_stmt_seq [.val (iV (k0 : Nat)), .val (Part a7 1 1), .val (Mv nL L K), .val (iV (nL : Nat)), kT] [.inr 0] [.inl 4, .inr 0] follows S7 rfl (by kernel_rfl) ?_ ?_
      · refine ⟨⟨⟨⟨⟨trivial, ?_⟩, ?_⟩, ?_⟩, ?_⟩, ?_⟩
        · exact mS 0 4
        · exact owe_part rfl wA rfl (k := 0) rfl (by kernel_rfl) rfl (fun ρ w b h => part_gso1 ρ _ _ w b 0 h)
        · exact owe_pload rfl wA rfl (oO 1 43) (k := 0) rfl (by kernel_rfl) rfl (fun ρ w b u h1 h2 h3 => ploadS rfl load1_mat ρ _ _ w b u h1 h2 h3)
        · exact owe_len rfl wA rfl (oO 2 44) ar_len Tryz.underlying23 rfl
        · exact b_lss_int_t wA (oO 0 42) (oO 3 45)
      intro B8 a8 W8 (S8 : Sta w 57 [(1, (.box 25 (SF [(Vv nD D K), (Mv nL L K)])))] [(46, bT), (4, iV (k0 : Nat))] _ _ _)
      refine wp_cond_true (S8.bool 0 46 rfl) ?_
      refine wp_skip ?_
      refine thenN ?_
      refine wp_seq ?_
      refine wp_block ?_
      refine wp_stmt_seq [.val (Part a8 1 1), .val (Mv nL L K), .val (iV (k0 : Nat)), .val (AtE 1 (Vv ((L.getD k0 []).length) (L.getD k0 []) K)), .val (Vv ((L.getD k0 []).length) (L.getD k0 []) K), .val (iV ((L.getD k0 []).length : Nat)), .val (iV (k0 : Nat)), kF] [.inr 0] [.inl 7, .inr 1] follows S8 rfl (by kernel_rfl) ?_ ?_
      · repeat' refine And.intro ?_ ?_
        · trivial
        · exact owe_part rfl wA rfl (k := 0) rfl (by kernel_rfl) rfl (fun ρ w b h => part_gso1 ρ _ _ w b 0 h)
        · exact owe_pload rfl wA rfl (oO 0 49) (k := 0) rfl (by kernel_rfl) rfl (fun ρ w b u h1 h2 h3 => ploadS rfl load1_mat ρ _ _ w b u h1 h2 h3)
        · exact mS 1 4
        · exact owe_aindex rfl wA rfl idx_rows (oO 1 50) (oO 2 51) (vv_at (by omega)) rfl
        · exact owe_aload rfl wA rfl ldr_row1 (by decide) cel_vv (oO 3 52) rfl
        · exact owe_len rfl wA rfl (oO 4 53) ar_len Tryz.underlying22 rfl
        · exact mS 1 4
        · exact b_neq_int_f wA (oO 5 54) (oO 6 55)
      intro B9 a9 W9 (S9 : Sta w 57 [(1, (.box 25 (SF [(Vv nD D K), (Mv nL L K)])))] [(56, bF), (4, iV (k0 : Nat))] _ _ _)
      refine wp_cond_false (S9.bool 0 56 rfl) ?_
      refine wp_skip ?_
      refine inBlkN ?_
      refine thenN ?_
      refine wp_stmt [.val (iV (k0 : Nat)), .val (iV (k0 + 1 : Nat)), .val (iV (k0 + 1 : Nat))] [.inr 0] [.inl 2] follows S9 rfl (by kernel_rfl) ?_ ?_
      · refine ⟨⟨⟨trivial, ?_⟩, ?_⟩, ?_⟩
        · exact mS 1 4
        · exact b_add_int wA (oO 0 47) (opnd_const _)
        · exact mO 1 48
      intro B10 a10 W10 (S10 : Sta w 57 [(1, (.box 25 (SF [(Vv nD D K), (Mv nL L K)])))] [(4, iV (k0 + 1 : Nat))] _ _ _)
      refine thenN ?_
      exact ⟨k0 + 1, ⟨by omega, B10, S10.sub [0] [0]⟩, by omega⟩
    · skip
      refine wp_seq ?_
      refine wp_stmt_seq [.val (iV (k0 : Nat)), .val (Part a7 1 1), .val (Mv nL L K), .val (iV (nL : Nat)), kF] [.inr 0] [.inl 4, .inr 0] follows S7 rfl (by kernel_rfl) ?_ ?_
      · refine ⟨⟨⟨⟨⟨trivial, ?_⟩, ?_⟩, ?_⟩, ?_⟩, ?_⟩
        · exact mS 0 4
        · exact owe_part rfl wA rfl (k := 0) rfl (by kernel_rfl) rfl (fun ρ w b h => part_gso1 ρ _ _ w b 0 h)
        · exact owe_pload rfl wA rfl (oO 1 43) (k := 0) rfl (by kernel_rfl) rfl (fun ρ w b u h1 h2 h3 => ploadS rfl load1_mat ρ _ _ w b u h1 h2 h3)
        · exact owe_len rfl wA rfl (oO 2 44) ar_len Tryz.underlying23 rfl
        · exact b_lss_int_f wA (oO 0 42) (oO 3 45)
      intro B8 a8 W8 (S8 : Sta w 57 [(1, (.box 25 (SF [(Vv nD D K), (Mv nL L K)])))] [(46, bF), (4, iV (k0 : Nat))] _ _ _)
      refine wp_cond_false (S8.bool 0 46 rfl) ?_
      refine wp_exit ?_
      refine thenX ?_
      refine thenX ?_
      refine inBlkE ?_
      refine thenN ?_
      refine wp_stmt_seq [kT] [.inr 0] [.inl 0, .inr 1] follows S8 rfl (by kernel_rfl) ?_ ?_
      · refine ⟨trivial, ?_⟩
        · exact mC
      intro B9 a9 W9 (S9 : Sta w 57 [(1, (.box 25 (SF [(Vv nD D K), (Mv nL L K)])))] [(2, bT), (4, iV (k0 : Nat))] _ _ _)
      refine wp_ret ?_
      exact end_one S9 rfl (res_tmp S9 0 2 rfl)


/-- How the document finds that it fails. -/
inductive RBad (D : List Int) (L : List (List Int)) : Prop
  | none : L.length = 0 → RBad D L
  | len : L.length ≠ 0 → D.length ≠ L.length + 1 → RBad D L
  | one : L.length ≠ 0 → D.length = L.length + 1 → D.getD 0 0 ≠ 1 → RBad D L
  | pos (i0 : Nat) : L.length ≠ 0 → D.length = L.length + 1 → D.getD 0 0 = 1 → i0 < D.length → (∀ j, j < i0 → 0 < D.getD j 0) → D.getD i0 0 ≤ 0 → RBad D L
  | row (i0 : Nat) : L.length ≠ 0 → D.length = L.length + 1 → D.getD 0 0 = 1 → (∀ j, j < D.length → 0 < D.getD j 0) → i0 < L.length → (∀ j, j < i0 → (L.getD j []).length = j) → (L.getD i0 []).length ≠ i0 → RBad D L
theorem Bad.r {D : List Int} {L : List (List Int)} (h : Bad D L) : RBad D L := by
  cases h with
  | none h => exact .none h
  | len h1 h2 => exact .len h1 h2
  | one h1 h2 h3 => exact .one h1 h2 h3
  | row i0 h1 h2 h3 h4 h5 h6 =>
    rcases first_off (fun j => decide (0 < D.getD j 0)) D.length with h | ⟨i, hi, h7, h8⟩
    · rcases first_off (fun j => decide ((L.getD j []).length = j)) L.length with g | ⟨j, hj, g1, g2⟩
      · rcases h6 with h6 | ⟨_, h6⟩
        · exact absurd (of_decide_eq_true (g i0 h4)) h6
        · have := of_decide_eq_true (h (i0 + 1) (by omega)); omega
      · exact .row j h1 h2 h3 (fun k hk => of_decide_eq_true (h k hk)) hj (fun k hk => of_decide_eq_true (g2 k hk)) (of_decide_eq_false g1)
    · exact .pos i h1 h2 h3 hi (fun j hj => of_decide_eq_true (h8 j hj)) (by have := of_decide_eq_false h7; omega)

set_option maxHeartbeats 4000000 in
theorem good_f0 (w : World) (u : Value) (nD nL K : Nat) (D : List Int) (L : List (List Int)) (h : Hs w (SF [Vv nD D K, Mv nL L K]) u) (hD : nD ≤ 1048576) (hL : nL ≤ 1048576) (hK : K ≤ 1048576) (lD : D.length = nD) (lL : L.length = nL) (g : L.length = 0 ∨ (L.length ≠ 0 ∧ D.length ≠ L.length + 1) ∨ (L.length ≠ 0 ∧ D.length = L.length + 1 ∧ D.getD 0 0 ≠ 1)) :
    Calls Tryz.prog 7 #[u] w (Gives (IS (.bool false)) w) := by
  refine calls_sta (sl := [(0, (SF [(Vv nD D K), (Mv nL L K)]))]) Tryz.func7 rfl Tryz.ntmps7 (by simp) (args_cons rfl (h) args_nil) ?_
  intro a0 S0
  refine wp_stmt_seq [.new (.box 25 (SF [(Vv nD D K), (Mv nL L K)])), kF] [.inl 0] [] follows S0 rfl (by kernel_rfl) ?_ ?_
  · refine ⟨⟨trivial, ?_⟩, ?_⟩
    · exact owe_box rfl wA rfl (oS 0 0) rfl (fun ρ w h => box_gso shp_sf2 ρ _ _ w h)
    · exact mC
  intro B1 a1 W1 (S1 : Sta w 57 [(1, (.box 25 (SF [(Vv nD D K), (Mv nL L K)])))] [] _ _ _)
  rcases g with g1 | ⟨g1, g2⟩ | ⟨g1, g2, g3⟩
  · skip
    refine wp_seq ?_
    refine wp_stmt_seq [.val (Part a1 1 1), .val (Mv nL L K), .val (iV (nL : Nat)), kT, kT, .off, .off, .off, .off, .off, .off, .off, .off, kT, kT, .off, .off, .off, .off, .off, .off, .off, kT] [.inr 0] [.inl 22] follows S1 rfl (by kernel_rfl) ?_ ?_
    · repeat' refine And.intro ?_ ?_
      · trivial
      · exact owe_part rfl wA rfl (k := 0) rfl (by kernel_rfl) rfl (fun ρ w b h => part_gso1 ρ _ _ w b 0 h)
      · exact owe_pload rfl wA rfl (oO 0 5) (k := 0) rfl (by kernel_rfl) rfl (fun ρ w b u h1 h2 h3 => ploadS rfl load1_mat ρ _ _ w b u h1 h2 h3)
      · exact owe_len rfl wA rfl (oO 1 6) ar_len Tryz.underlying23 rfl
      · exact b_eql_int_t wA (oO 2 7) (opnd_const _)
      · exact mO 3 8
      · exact oF 4 9
      · exact oF 4 9
      · exact oF 4 9
      · exact oF 4 9
      · exact oF 4 9
      · exact oF 4 9
      · exact oF 4 9
      · exact oF 4 9
      · exact pT wA (oO 4 9) (opnd_const _)
      · exact mO 13 18
      · exact oF 14 19
      · exact oF 14 19
      · exact oF 14 19
      · exact oF 14 19
      · exact oF 14 19
      · exact oF 14 19
      · exact oF 14 19
      · exact pT wA (oO 14 19) (opnd_const _)
    intro B2 a2 W2 (S2 : Sta w 57 [(1, (.box 25 (SF [(Vv nD D K), (Mv nL L K)])))] [(27, bT)] _ _ _)
    refine wp_cond_true (S2.bool 0 27 rfl) ?_
    refine wp_stmt_seq [kF] [.inr 0] [.inl 0] follows S2 rfl (by kernel_rfl) ?_ ?_
    · refine ⟨trivial, ?_⟩
      · exact mC
    intro B3 a3 W3 (S3 : Sta w 57 [(1, (.box 25 (SF [(Vv nD D K), (Mv nL L K)])))] [(2, bF)] _ _ _)
    refine wp_ret ?_
    refine thenR ?_
    exact end_one S3 rfl (res_tmp S3 0 2 rfl)
  · skip
    refine wp_seq ?_
    refine wp_stmt_seq [.val (Part a1 1 1), .val (Mv nL L K), .val (iV (nL : Nat)), kF, kF, .val (Part a1 1 0), .val (Vv nD D K), .val (iV (nD : Nat)), .val (Part a1 1 1), .val (Mv nL L K), .val (iV (nL : Nat)), .val (iV ((nL + 1 : Nat) : Int)), kT, kT, kT, .off, .off, .off, .off, .off, .off, .off, kT] [.inr 0] [.inl 22] follows S1 rfl (by kernel_rfl) ?_ ?_
    · repeat' refine And.intro ?_ ?_
      · trivial
      · exact owe_part rfl wA rfl (k := 0) rfl (by kernel_rfl) rfl (fun ρ w b h => part_gso1 ρ _ _ w b 0 h)
      · exact owe_pload rfl wA rfl (oO 0 5) (k := 0) rfl (by kernel_rfl) rfl (fun ρ w b u h1 h2 h3 => ploadS rfl load1_mat ρ _ _ w b u h1 h2 h3)
      · exact owe_len rfl wA rfl (oO 1 6) ar_len Tryz.underlying23 rfl
      · exact b_eql_int_f wA (oO 2 7) (opnd_const _)
      · exact mO 3 8
      · exact owe_part rfl (wI 4 9) rfl (k := 0) rfl (by kernel_rfl) rfl (fun ρ w b h => part_gso0 ρ _ _ w b 0 h)
      · exact owe_pload rfl (wI 4 9) rfl (oO 5 10) (k := 0) rfl (by kernel_rfl) rfl (fun ρ w b u h1 h2 h3 => ploadS rfl load1_vec ρ _ _ w b u h1 h2 h3)
      · exact owe_len rfl (wI 4 9) rfl (oO 6 11) ar_len Tryz.underlying22 rfl
      · exact owe_part rfl (wI 4 9) rfl (k := 0) rfl (by kernel_rfl) rfl (fun ρ w b h => part_gso1 ρ _ _ w b 0 h)
      · exact owe_pload rfl (wI 4 9) rfl (oO 8 13) (k := 0) rfl (by kernel_rfl) rfl (fun ρ w b u h1 h2 h3 => ploadS rfl load1_mat ρ _ _ w b u h1 h2 h3)
      · exact owe_len rfl (wI 4 9) rfl (oO 9 14) ar_len Tryz.underlying23 rfl
      · exact b_add_int (wI 4 9) (oO 10 15) (opnd_const _)
      · exact b_neq_int_t (wI 4 9) (oO 7 12) (oO 11 16)
      · exact pF wA (oO 4 9) (oO 12 17)
      · exact mO 13 18
      · exact oF 14 19
      · exact oF 14 19
      · exact oF 14 19
      · exact oF 14 19
      · exact oF 14 19
      · exact oF 14 19
      · exact oF 14 19
      · exact pT wA (oO 14 19) (opnd_const _)
    intro B2 a2 W2 (S2 : Sta w 57 [(1, (.box 25 (SF [(Vv nD D K), (Mv nL L K)])))] [(27, bT)] _ _ _)
    refine wp_cond_true (S2.bool 0 27 rfl) ?_
    refine wp_stmt_seq [kF] [.inr 0] [.inl 0] follows S2 rfl (by kernel_rfl) ?_ ?_
    · refine ⟨trivial, ?_⟩
      · exact mC
    intro B3 a3 W3 (S3 : Sta w 57 [(1, (.box 25 (SF [(Vv nD D K), (Mv nL L K)])))] [(2, bF)] _ _ _)
    refine wp_ret ?_
    refine thenR ?_
    exact end_one S3 rfl (res_tmp S3 0 2 rfl)
  · skip
    have hone : ((D.getD 0 0) - (1)).sign ≠ 0 := sgn_ne (by omega)
    refine wp_seq ?_
    refine wp_stmt_seq [.val (Part a1 1 1), .val (Mv nL L K), .val (iV (nL : Nat)), kF, kF, .val (Part a1 1 0), .val (Vv nD D K), .val (iV (nD : Nat)), .val (Part a1 1 1), .val (Mv nL L K), .val (iV (nL : Nat)), .val (iV ((nL + 1 : Nat) : Int)), kF, kF, kF, .val (Part a1 1 0), .val (Vv nD D K), .val (AtE 2 (Zv (D.getD 0 0) K)), .val (Zv (D.getD 0 0) K), .val ((ZN (1)) w.heap.size), .val (iV (((D.getD 0 0) - 1).sign)), kT, kT] [.inr 0] [.inl 22] follows S1 rfl (by kernel_rfl) ?_ ?_
    · repeat' refine And.intro ?_ ?_
      · trivial
      · exact owe_part rfl wA rfl (k := 0) rfl (by kernel_rfl) rfl (fun ρ w b h => part_gso1 ρ _ _ w b 0 h)
      · exact owe_pload rfl wA rfl (oO 0 5) (k := 0) rfl (by kernel_rfl) rfl (fun ρ w b u h1 h2 h3 => ploadS rfl load1_mat ρ _ _ w b u h1 h2 h3)
      · exact owe_len rfl wA rfl (oO 1 6) ar_len Tryz.underlying23 rfl
      · exact b_eql_int_f wA (oO 2 7) (opnd_const _)
      · exact mO 3 8
      · exact owe_part rfl (wI 4 9) rfl (k := 0) rfl (by kernel_rfl) rfl (fun ρ w b h => part_gso0 ρ _ _ w b 0 h)
      · exact owe_pload rfl (wI 4 9) rfl (oO 5 10) (k := 0) rfl (by kernel_rfl) rfl (fun ρ w b u h1 h2 h3 => ploadS rfl load1_vec ρ _ _ w b u h1 h2 h3)
      · exact owe_len rfl (wI 4 9) rfl (oO 6 11) ar_len Tryz.underlying22 rfl
      · exact owe_part rfl (wI 4 9) rfl (k := 0) rfl (by kernel_rfl) rfl (fun ρ w b h => part_gso1 ρ _ _ w b 0 h)
      · exact owe_pload rfl (wI 4 9) rfl (oO 8 13) (k := 0) rfl (by kernel_rfl) rfl (fun ρ w b u h1 h2 h3 => ploadS rfl load1_mat ρ _ _ w b u h1 h2 h3)
      · exact owe_len rfl (wI 4 9) rfl (oO 9 14) ar_len Tryz.underlying23 rfl
      · exact b_add_int (wI 4 9) (oO 10 15) (opnd_const _)
      · exact b_neq_int_f (wI 4 9) (oO 7 12) (oO 11 16)
      · exact pF wA (oO 4 9) (oO 12 17)
      · exact mO 13 18
      · exact owe_part rfl (wI 14 19) rfl (k := 0) rfl (by kernel_rfl) rfl (fun ρ w b h => part_gso0 ρ _ _ w b 0 h)
      · exact owe_pload rfl (wI 14 19) rfl (oO 15 20) (k := 0) rfl (by kernel_rfl) rfl (fun ρ w b u h1 h2 h3 => ploadS rfl load1_vec ρ _ _ w b u h1 h2 h3)
      · exact owe_aindex rfl (wI 14 19) rfl idx_ints (oO 16 21) (opnd_const _) (zv_at (k := 0) (by omega)) rfl
      · exact owe_aload rfl (wI 14 19) rfl ldr_int (by decide) (cel_shp (by decide) shp_zv) (oO 17 22) rfl
      · exact cc1 (wI 14 19) (opnd_const _) (fresh_zn _) (g_rof 1 (by omega) (by omega))
      · exact cc2 (wI 14 19) (qO 18 23 rfl) (qO 19 24 rfl) (fresh_is _) (fun w u v h1 h2 => h_rcmp (by omega) (by omega) w u v ((fun _ _ h => h) _ _ h1) ((zn_zv one_dl) _ _ h2))
      · exact b_neq_int_t (wI 14 19) (oO 20 25) (opnd_const _) (h := hone)
      · exact pF wA (oO 14 19) (oO 21 26)
    intro B2 a2 W2 (S2 : Sta w 57 [(1, (.box 25 (SF [(Vv nD D K), (Mv nL L K)])))] [(27, bT)] _ _ _)
    refine wp_cond_true (S2.bool 0 27 rfl) ?_
    refine wp_stmt_seq [kF] [.inr 0] [.inl 0] follows S2 rfl (by kernel_rfl) ?_ ?_
    · refine ⟨trivial, ?_⟩
      · exact mC
    intro B3 a3 W3 (S3 : Sta w 57 [(1, (.box 25 (SF [(Vv nD D K), (Mv nL L K)])))] [(2, bF)] _ _ _)
    refine wp_ret ?_
    refine thenR ?_
    exact end_one S3 rfl (res_tmp S3 0 2 rfl)

set_option maxHeartbeats 4000000 in
theorem good_f1 (w : World) (u : Value) (nD nL K : Nat) (D : List Int) (L : List (List Int)) (h : Hs w (SF [Vv nD D K, Mv nL L K]) u) (hD : nD ≤ 1048576) (hL : nL ≤ 1048576) (hK : K ≤ 1048576) (lD : D.length = nD) (lL : L.length = nL) (i0 : Nat) (g1 : L.length ≠ 0) (g2 : D.length = L.length + 1) (g3 : D.getD 0 0 = 1) (g4 : i0 < D.length) (g5 : ∀ j, j < i0 → 0 < D.getD j 0) (g6 : D.getD i0 0 ≤ 0) :
    Calls Tryz.prog 7 #[u] w (Gives (IS (.bool false)) w) := by
  have hone : ((D.getD 0 0) - (1)).sign = 0 := sgn0 (by omega)
  refine calls_sta (sl := [(0, (SF [(Vv nD D K), (Mv nL L K)]))]) Tryz.func7 rfl Tryz.ntmps7 (by simp) (args_cons rfl (h) args_nil) ?_
  intro a0 S0
  refine wp_stmt_seq [.new (.box 25 (SF [(Vv nD D K), (Mv nL L K)])), kF] [.inl 0] [] follows S0 rfl (by kernel_rfl) ?_ ?_
  · refine ⟨⟨trivial, ?_⟩, ?_⟩
    · exact owe_box rfl wA rfl (oS 0 0) rfl (fun ρ w h => box_gso shp_sf2 ρ _ _ w h)
    · exact mC
  intro B1 a1 W1 (S1 : Sta w 57 [(1, (.box 25 (SF [(Vv nD D K), (Mv nL L K)])))] [] _ _ _)
  refine wp_seq ?_
  refine wp_stmt_seq [.val (Part a1 1 1), .val (Mv nL L K), .val (iV (nL : Nat)), kF, kF, .val (Part a1 1 0), .val (Vv nD D K), .val (iV (nD : Nat)), .val (Part a1 1 1), .val (Mv nL L K), .val (iV (nL : Nat)), .val (iV ((nL + 1 : Nat) : Int)), kF, kF, kF, .val (Part a1 1 0), .val (Vv nD D K), .val (AtE 2 (Zv (D.getD 0 0) K)), .val (Zv (D.getD 0 0) K), .val ((ZN (1)) w.heap.size), .val (iV (((D.getD 0 0) - 1).sign)), kF, kF] [.inr 0] [.inl 22] follows S1 rfl (by kernel_rfl) ?_ ?_
  · repeat' refine And.intro ?_ ?_
    · trivial
    · exact owe_part rfl wA rfl (k := 0) rfl (by kernel_rfl) rfl (fun ρ w b h => part_gso1 ρ _ _ w b 0 h)
    · exact owe_pload rfl wA rfl (oO 0 5) (k := 0) rfl (by kernel_rfl) rfl (fun ρ w b u h1 h2 h3 => ploadS rfl load1_mat ρ _ _ w b u h1 h2 h3)
    · exact owe_len rfl wA rfl (oO 1 6) ar_len Tryz.underlying23 rfl
    · exact b_eql_int_f wA (oO 2 7) (opnd_const _)
    · exact mO 3 8
    · exact owe_part rfl (wI 4 9) rfl (k := 0) rfl (by kernel_rfl) rfl (fun ρ w b h => part_gso0 ρ _ _ w b 0 h)
    · exact owe_pload rfl (wI 4 9) rfl (oO 5 10) (k := 0) rfl (by kernel_rfl) rfl (fun ρ w b u h1 h2 h3 => ploadS rfl load1_vec ρ _ _ w b u h1 h2 h3)
    · exact owe_len rfl (wI 4 9) rfl (oO 6 11) ar_len Tryz.underlying22 rfl
    · exact owe_part rfl (wI 4 9) rfl (k := 0) rfl (by kernel_rfl) rfl (fun ρ w b h => part_gso1 ρ _ _ w b 0 h)
    · exact owe_pload rfl (wI 4 9) rfl (oO 8 13) (k := 0) rfl (by kernel_rfl) rfl (fun ρ w b u h1 h2 h3 => ploadS rfl load1_mat ρ _ _ w b u h1 h2 h3)
    · exact owe_len rfl (wI 4 9) rfl (oO 9 14) ar_len Tryz.underlying23 rfl
    · exact b_add_int (wI 4 9) (oO 10 15) (opnd_const _)
    · exact b_neq_int_f (wI 4 9) (oO 7 12) (oO 11 16)
    · exact pF wA (oO 4 9) (oO 12 17)
    · exact mO 13 18
    · exact owe_part rfl (wI 14 19) rfl (k := 0) rfl (by kernel_rfl) rfl (fun ρ w b h => part_gso0 ρ _ _ w b 0 h)
    · exact owe_pload rfl (wI 14 19) rfl (oO 15 20) (k := 0) rfl (by kernel_rfl) rfl (fun ρ w b u h1 h2 h3 => ploadS rfl load1_vec ρ _ _ w b u h1 h2 h3)
    · exact owe_aindex rfl (wI 14 19) rfl idx_ints (oO 16 21) (opnd_const _) (zv_at (k := 0) (by omega)) rfl
    · exact owe_aload rfl (wI 14 19) rfl ldr_int (by decide) (cel_shp (by decide) shp_zv) (oO 17 22) rfl
    · exact cc1 (wI 14 19) (opnd_const _) (fresh_zn _) (g_rof 1 (by omega) (by omega))
    · exact cc2 (wI 14 19) (qO 18 23 rfl) (qO 19 24 rfl) (fresh_is _) (fun w u v h1 h2 => h_rcmp (by omega) (by omega) w u v ((fun _ _ h => h) _ _ h1) ((zn_zv one_dl) _ _ h2))
    · exact b_neq_int_f (wI 14 19) (oO 20 25) (opnd_const _) (h := hone)
    · exact pF wA (oO 14 19) (oO 21 26)
  intro B2 a2 W2 (S2 : Sta w 57 [(1, (.box 25 (SF [(Vv nD D K), (Mv nL L K)])))] [(27, bF)] _ _ _)
  refine wp_cond_false (S2.bool 0 27 rfl) ?_
  refine wp_skip ?_
  refine thenN ?_
  refine wp_seq ?_
  refine wp_stmt_seq [.val (iV 0)] [.inr 0] [.inl 0] follows S2 rfl (by kernel_rfl) ?_ ?_
  · refine ⟨trivial, ?_⟩
    · exact mC
  intro B3 a3 W3 (S3 : Sta w 57 [(1, (.box 25 (SF [(Vv nD D K), (Mv nL L K)])))] [(3, iV 0)] _ _ _)
  refine wp_block ?_
  refine wp_loop_ghost (fun (k0 : Nat) a W => (k0 ≤ i0) ∧ ∃ Bq, Sta w 57 [(1, (.box 25 (SF [(Vv nD D K), (Mv nL L K)])))] [(3, iV (k0 : Nat))] Bq a W) (fun (k0 : Nat) => nD - k0) ?_ 0 ⟨Nat.zero_le _, B3, S3.sub [0] [0]⟩
  rintro k0 a4 W4 ⟨hcond, B4, S4⟩
  by_cases hlt : k0 < i0
  · have hp := sgn_pos (g5 k0 hlt)
    refine wp_seq ?_
    refine wp_stmt_seq [.val (iV (k0 : Nat)), .val (Part a4 1 0), .val (Vv nD D K), .val (iV (nD : Nat)), kT] [.inr 0] [.inl 4, .inr 0] follows S4 rfl (by kernel_rfl) ?_ ?_
    · refine ⟨⟨⟨⟨⟨trivial, ?_⟩, ?_⟩, ?_⟩, ?_⟩, ?_⟩
      · exact mS 0 3
      · exact owe_part rfl wA rfl (k := 0) rfl (by kernel_rfl) rfl (fun ρ w b h => part_gso0 ρ _ _ w b 0 h)
      · exact owe_pload rfl wA rfl (oO 1 29) (k := 0) rfl (by kernel_rfl) rfl (fun ρ w b u h1 h2 h3 => ploadS rfl load1_vec ρ _ _ w b u h1 h2 h3)
      · exact owe_len rfl wA rfl (oO 2 30) ar_len Tryz.underlying22 rfl
      · exact b_lss_int_t wA (oO 0 28) (oO 3 31)
    intro B5 a5 W5 (S5 : Sta w 57 [(1, (.box 25 (SF [(Vv nD D K), (Mv nL L K)])))] [(32, bT), (3, iV (k0 : Nat))] _ _ _)
    refine wp_cond_true (S5.bool 0 32 rfl) ?_
    refine wp_skip ?_
    refine thenN ?_
    refine wp_seq ?_
    refine wp_block ?_
    refine wp_stmt_seq [.val (Part a5 1 0), .val (Vv nD D K), .val (iV (k0 : Nat)), .val (AtE 2 (Zv (D.getD k0 0) K)), .val (Zv (D.getD k0 0) K), .val (iV ((D.getD k0 0).sign)), kF] [.inr 0] [.inl 6, .inr 1] follows S5 rfl (by kernel_rfl) ?_ ?_
    · repeat' refine And.intro ?_ ?_
      · trivial
      · exact owe_part rfl wA rfl (k := 0) rfl (by kernel_rfl) rfl (fun ρ w b h => part_gso0 ρ _ _ w b 0 h)
      · exact owe_pload rfl wA rfl (oO 0 35) (k := 0) rfl (by kernel_rfl) rfl (fun ρ w b u h1 h2 h3 => ploadS rfl load1_vec ρ _ _ w b u h1 h2 h3)
      · exact mS 1 3
      · exact owe_aindex rfl wA rfl idx_ints (oO 1 36) (oO 2 37) (zv_at (by omega)) rfl
      · exact owe_aload rfl wA rfl ldr_int (by decide) (cel_shp (by decide) shp_zv) (oO 3 38) rfl
      · exact cc1 wA (qO 4 39 rfl) (fresh_is _) (fun w u h1 => g_rsign (by omega) w u ((fun _ _ h => h) _ _ h1))
      · exact b_leq_int_f wA (oO 5 40) (opnd_const _)
    intro B6 a6 W6 (S6 : Sta w 57 [(1, (.box 25 (SF [(Vv nD D K), (Mv nL L K)])))] [(41, bF), (3, iV (k0 : Nat))] _ _ _)
    refine wp_cond_false (S6.bool 0 41 rfl) ?_
    refine wp_skip ?_
    refine inBlkN ?_
    refine thenN ?_
    refine wp_stmt [.val (iV (k0 : Nat)), .val (iV (k0 + 1 : Nat)), .val (iV (k0 + 1 : Nat))] [.inr 0] [.inl 2] follows S6 rfl (by kernel_rfl) ?_ ?_
    · refine ⟨⟨⟨trivial, ?_⟩, ?_⟩, ?_⟩
      · exact mS 1 3
      · exact b_add_int wA (oO 0 33) (opnd_const _)
      · exact mO 1 34
    intro B7 a7 W7 (S7 : Sta w 57 [(1, (.box 25 (SF [(Vv nD D K), (Mv nL L K)])))] [(3, iV (k0 + 1 : Nat))] _ _ _)
    refine thenN ?_
    exact ⟨k0 + 1, ⟨by omega, B7, S7.sub [0] [0]⟩, by omega⟩
  · have ek : k0 = i0 := by omega
    rw [← ek] at g6
    have hp := sgn_npos g6
    refine wp_seq ?_
    refine wp_stmt_seq [.val (iV (k0 : Nat)), .val (Part a4 1 0), .val (Vv nD D K), .val (iV (nD : Nat)), kT] [.inr 0] [.inl 4, .inr 0] follows S4 rfl (by kernel_rfl) ?_ ?_
    · refine ⟨⟨⟨⟨⟨trivial, ?_⟩, ?_⟩, ?_⟩, ?_⟩, ?_⟩
      · exact mS 0 3
      · exact owe_part rfl wA rfl (k := 0) rfl (by kernel_rfl) rfl (fun ρ w b h => part_gso0 ρ _ _ w b 0 h)
      · exact owe_pload rfl wA rfl (oO 1 29) (k := 0) rfl (by kernel_rfl) rfl (fun ρ w b u h1 h2 h3 => ploadS rfl load1_vec ρ _ _ w b u h1 h2 h3)
      · exact owe_len rfl wA rfl (oO 2 30) ar_len Tryz.underlying22 rfl
      · exact b_lss_int_t wA (oO 0 28) (oO 3 31)
    intro B5 a5 W5 (S5 : Sta w 57 [(1, (.box 25 (SF [(Vv nD D K), (Mv nL L K)])))] [(32, bT), (3, iV (k0 : Nat))] _ _ _)
    refine wp_cond_true (S5.bool 0 32 rfl) ?_
    refine wp_skip ?_
    refine thenN ?_
    refine wp_seq ?_
    refine wp_block ?_
    refine wp_stmt_seq [.val (Part a5 1 0), .val (Vv nD D K), .val (iV (k0 : Nat)), .val (AtE 2 (Zv (D.getD k0 0) K)), .val (Zv (D.getD k0 0) K), .val (iV ((D.getD k0 0).sign)), kT] [.inr 0] [.inl 6, .inr 1] follows S5 rfl (by kernel_rfl) ?_ ?_
    · repeat' refine And.intro ?_ ?_
      · trivial
      · exact owe_part rfl wA rfl (k := 0) rfl (by kernel_rfl) rfl (fun ρ w b h => part_gso0 ρ _ _ w b 0 h)
      · exact owe_pload rfl wA rfl (oO 0 35) (k := 0) rfl (by kernel_rfl) rfl (fun ρ w b u h1 h2 h3 => ploadS rfl load1_vec ρ _ _ w b u h1 h2 h3)
      · exact mS 1 3
      · exact owe_aindex rfl wA rfl idx_ints (oO 1 36) (oO 2 37) (zv_at (by omega)) rfl
      · exact owe_aload rfl wA rfl ldr_int (by decide) (cel_shp (by decide) shp_zv) (oO 3 38) rfl
      · exact cc1 wA (qO 4 39 rfl) (fresh_is _) (fun w u h1 => g_rsign (by omega) w u ((fun _ _ h => h) _ _ h1))
      · exact b_leq_int_t wA (oO 5 40) (opnd_const _)
    intro B6 a6 W6 (S6 : Sta w 57 [(1, (.box 25 (SF [(Vv nD D K), (Mv nL L K)])))] [(41, bT), (3, iV (k0 : Nat))] _ _ _)
    refine wp_cond_true (S6.bool 0 41 rfl) ?_
    refine wp_stmt_seq [kF] [.inr 0] [.inl 0, .inr 1] follows S6 rfl (by kernel_rfl) ?_ ?_
    · refine ⟨trivial, ?_⟩
      · exact mC
    intro B7 a7 W7 (S7 : Sta w 57 [(1, (.box 25 (SF [(Vv nD D K), (Mv nL L K)])))] [(2, bF), (3, iV (k0 : Nat))] _ _ _)
    refine wp_ret ?_
    refine inBlkR ?_
    refine thenR ?_
    refine thenR ?_
    refine inBlkR ?_
    refine thenR ?_
    exact end_one S7 rfl (res_tmp S7 0 2 rfl)

set_option maxHeartbeats 4000000 in
theorem good_f2 (w : World) (u : Value) (nD nL K : Nat) (D : List Int) (L : List (List Int)) (h : Hs w (SF [Vv nD D K, Mv nL L K]) u) (hD : nD ≤ 1048576) (hL : nL ≤ 1048576) (hK : K ≤ 1048576) (lD : D.length = nD) (lL : L.length = nL) (i0 : Nat) (g1 : L.length ≠ 0) (g2 : D.length = L.length + 1) (g3 : D.getD 0 0 = 1) (gp : ∀ j, j < D.length → 0 < D.getD j 0) (g4 : i0 < L.length) (g5 : ∀ j, j < i0 → (L.getD j []).length = j) (g6 : (L.getD i0 []).length ≠ i0) :
    Calls Tryz.prog 7 #[u] w (Gives (IS (.bool false)) w) := by
  have hone : ((D.getD 0 0) - (1)).sign = 0 := sgn0 (by omega)
  have hpos : ∀ i, i < nD → 0 < D.getD i 0 := fun i hi => gp i (by omega)
  refine calls_sta (sl := [(0, (SF [(Vv nD D K), (Mv nL L K)]))]) Tryz.func7 rfl Tryz.ntmps7 (by simp) (args_cons rfl (h) args_nil) ?_
  intro a0 S0
  refine wp_stmt_seq [.new (.box 25 (SF [(Vv nD D K), (Mv nL L K)])), kF] [.inl 0] [] follows S0 rfl (by kernel_rfl) ?_ ?_
  · refine ⟨⟨trivial, ?_⟩, ?_⟩
    · exact owe_box rfl wA rfl (oS 0 0) rfl (fun ρ w h => box_gso shp_sf2 ρ _ _ w h)
    · exact mC
  intro B1 a1 W1 (S1 : Sta w 57 [(1, (.box 25 (SF [(Vv nD D K), (Mv nL L K)])))] [] _ _ _)
  refine wp_seq ?_
  refine wp_stmt_seq [.val (Part a1 1 1), .val (Mv nL L K), .val (iV (nL : Nat)), kF, kF, .val (Part a1 1 0), .val (Vv nD D K), .val (iV (nD : Nat)), .val (Part a1 1 1), .val (Mv nL L K), .val (iV (nL : Nat)), .val (iV ((nL + 1 : Nat) : Int)), kF, kF, kF, .val (Part a1 1 0), .val (Vv nD D K), .val (AtE 2 (Zv (D.getD 0 0) K)), .val (Zv (D.getD 0 0) K), .val ((ZN (1)) w.heap.size), .val (iV (((D.getD 0 0) - 1).sign)), kF, kF] [.inr 0] [.inl 22] follows S1 rfl (by kernel_rfl) ?_ ?_
  · repeat' refine And.intro ?_ ?_
    · trivial
    · exact owe_part rfl wA rfl (k := 0) rfl (by kernel_rfl) rfl (fun ρ w b h => part_gso1 ρ _ _ w b 0 h)
    · exact owe_pload rfl wA rfl (oO 0 5) (k := 0) rfl (by kernel_rfl) rfl (fun ρ w b u h1 h2 h3 => ploadS rfl load1_mat ρ _ _ w b u h1 h2 h3)
    · exact owe_len rfl wA rfl (oO 1 6) ar_len Tryz.underlying23 rfl
    · exact b_eql_int_f wA (oO 2 7) (opnd_const _)
    · exact mO 3 8
    · exact owe_part rfl (wI 4 9) rfl (k := 0) rfl (by kernel_rfl) rfl (fun ρ w b h => part_gso0 ρ _ _ w b 0 h)
    · exact owe_pload rfl (wI 4 9) rfl (oO 5 10) (k := 0) rfl (by kernel_rfl) rfl (fun ρ w b u h1 h2 h3 => ploadS rfl load1_vec ρ _ _ w b u h1 h2 h3)
    · exact owe_len rfl (wI 4 9) rfl (oO 6 11) ar_len Tryz.underlying22 rfl
    · exact owe_part rfl (wI 4 9) rfl (k := 0) rfl (by kernel_rfl) rfl (fun ρ w b h => part_gso1 ρ _ _ w b 0 h)
    · exact owe_pload rfl (wI 4 9) rfl (oO 8 13) (k := 0) rfl (by kernel_rfl) rfl (fun ρ w b u h1 h2 h3 => ploadS rfl load1_mat ρ _ _ w b u h1 h2 h3)
    · exact owe_len rfl (wI 4 9) rfl (oO 9 14) ar_len Tryz.underlying23 rfl
    · exact b_add_int (wI 4 9) (oO 10 15) (opnd_const _)
    · exact b_neq_int_f (wI 4 9) (oO 7 12) (oO 11 16)
    · exact pF wA (oO 4 9) (oO 12 17)
    · exact mO 13 18
    · exact owe_part rfl (wI 14 19) rfl (k := 0) rfl (by kernel_rfl) rfl (fun ρ w b h => part_gso0 ρ _ _ w b 0 h)
    · exact owe_pload rfl (wI 14 19) rfl (oO 15 20) (k := 0) rfl (by kernel_rfl) rfl (fun ρ w b u h1 h2 h3 => ploadS rfl load1_vec ρ _ _ w b u h1 h2 h3)
    · exact owe_aindex rfl (wI 14 19) rfl idx_ints (oO 16 21) (opnd_const _) (zv_at (k := 0) (by omega)) rfl
    · exact owe_aload rfl (wI 14 19) rfl ldr_int (by decide) (cel_shp (by decide) shp_zv) (oO 17 22) rfl
    · exact cc1 (wI 14 19) (opnd_const _) (fresh_zn _) (g_rof 1 (by omega) (by omega))
    · exact cc2 (wI 14 19) (qO 18 23 rfl) (qO 19 24 rfl) (fresh_is _) (fun w u v h1 h2 => h_rcmp (by omega) (by omega) w u v ((fun _ _ h => h) _ _ h1) ((zn_zv one_dl) _ _ h2))
    · exact b_neq_int_f (wI 14 19) (oO 20 25) (opnd_const _) (h := hone)
    · exact pF wA (oO 14 19) (oO 21 26)
  intro B2 a2 W2 (S2 : Sta w 57 [(1, (.box 25 (SF [(Vv nD D K), (Mv nL L K)])))] [(27, bF)] _ _ _)
  refine wp_cond_false (S2.bool 0 27 rfl) ?_
  refine wp_skip ?_
  refine thenN ?_
  refine wp_seq ?_
  refine wp_stmt_seq [.val (iV 0)] [.inr 0] [.inl 0] follows S2 rfl (by kernel_rfl) ?_ ?_
  · refine ⟨trivial, ?_⟩
    · exact mC
  intro B3 a3 W3 (S3 : Sta w 57 [(1, (.box 25 (SF [(Vv nD D K), (Mv nL L K)])))] [(3, iV 0)] _ _ _)
  refine wp_block ?_
  refine wp_loop_ghost (fun (k0 : Nat) a W => (k0 ≤ nD) ∧ ∃ Bq, Sta w 57 [(1, (.box 25 (SF [(Vv nD D K), (Mv nL L K)])))] [(3, iV (k0 : Nat))] Bq a W) (fun (k0 : Nat) => nD - k0) ?_ 0 ⟨Nat.zero_le _, B3, S3.sub [0] [0]⟩
  rintro k0 a4 W4 ⟨hcond, B4, S4⟩
  by_cases hlt : k0 < nD
  · have hp := sgn_pos (hpos k0 hlt)
    refine wp_seq ?_
    refine wp_stmt_seq [.val (iV (k0 : Nat)), .val (Part a4 1 0), .val (Vv nD D K), .val (iV (nD : Nat)), kT] [.inr 0] [.inl 4, .inr 0] follows S4 rfl (by kernel_rfl) ?_ ?_
    · refine ⟨⟨⟨⟨⟨trivial, ?_⟩, ?_⟩, ?_⟩, ?_⟩, ?_⟩
      · exact mS 0 3
      · exact owe_part rfl wA rfl (k := 0) rfl (by kernel_rfl) rfl (fun ρ w b h => part_gso0 ρ _ _ w b 0 h)
      · exact owe_pload rfl wA rfl (oO 1 29) (k := 0) rfl (by kernel_rfl) rfl (fun ρ w b u h1 h2 h3 => ploadS rfl load1_vec ρ _ _ w b u h1 h2 h3)
      · exact owe_len rfl wA rfl (oO 2 30) ar_len Tryz.underlying22 rfl
      · exact b_lss_int_t wA (oO 0 28) (oO 3 31)
    intro B5 a5 W5 (S5 : Sta w 57 [(1, (.box 25 (SF [(Vv nD D K), (Mv nL L K)])))] [(32, bT), (3, iV (k0 : Nat))] _ _ _)
    refine wp_cond_true (S5.bool 0 32 rfl) ?_
    refine wp_skip ?_
    refine thenN ?_
    refine wp_seq ?_
    refine wp_block ?_
    refine wp_stmt_seq [.val (Part a5 1 0), .val (Vv nD D K), .val (iV (k0 : Nat)), .val (AtE 2 (Zv (D.getD k0 0) K)), .val (Zv (D.getD k0 0) K), .val (iV ((D.getD k0 0).sign)), kF] [.inr 0] [.inl 6, .inr 1] follows S5 rfl (by kernel_rfl) ?_ ?_
    · repeat' refine And.intro ?_ ?_
      · trivial
      · exact owe_part rfl wA rfl (k := 0) rfl (by kernel_rfl) rfl (fun ρ w b h => part_gso0 ρ _ _ w b 0 h)
      · exact owe_pload rfl wA rfl (oO 0 35) (k := 0) rfl (by kernel_rfl) rfl (fun ρ w b u h1 h2 h3 => ploadS rfl load1_vec ρ _ _ w b u h1 h2 h3)
      · exact mS 1 3
      · exact owe_aindex rfl wA rfl idx_ints (oO 1 36) (oO 2 37) (zv_at (by omega)) rfl
      · exact owe_aload rfl wA rfl ldr_int (by decide) (cel_shp (by decide) shp_zv) (oO 3 38) rfl
      · exact cc1 wA (qO 4 39 rfl) (fresh_is _) (fun w u h1 => g_rsign (by omega) w u ((fun _ _ h => h) _ _ h1))
      · exact b_leq_int_f wA (oO 5 40) (opnd_const _)
    intro B6 a6 W6 (S6 : Sta w 57 [(1, (.box 25 (SF [(Vv nD D K), (Mv nL L K)])))] [(41, bF), (3, iV (k0 : Nat))] _ _ _)
    refine wp_cond_false (S6.bool 0 41 rfl) ?_
    refine wp_skip ?_
    refine inBlkN ?_
    refine thenN ?_
    refine wp_stmt [.val (iV (k0 : Nat)), .val (iV (k0 + 1 : Nat)), .val (iV (k0 + 1 : Nat))] [.inr 0] [.inl 2] follows S6 rfl (by kernel_rfl) ?_ ?_
    · refine ⟨⟨⟨trivial, ?_⟩, ?_⟩, ?_⟩
      · exact mS 1 3
      · exact b_add_int wA (oO 0 33) (opnd_const _)
      · exact mO 1 34
    intro B7 a7 W7 (S7 : Sta w 57 [(1, (.box 25 (SF [(Vv nD D K), (Mv nL L K)])))] [(3, iV (k0 + 1 : Nat))] _ _ _)
    refine thenN ?_
    exact ⟨k0 + 1, ⟨by omega, B7, S7.sub [0] [0]⟩, by omega⟩
  · skip
    refine wp_seq ?_
    refine wp_stmt_seq [.val (iV (k0 : Nat)), .val (Part a4 1 0), .val (Vv nD D K), .val (iV (nD : Nat)), kF] [.inr 0] [.inl 4, .inr 0] follows S4 rfl (by kernel_rfl) ?_ ?_
    · refine ⟨⟨⟨⟨⟨trivial, ?_⟩, ?_⟩, ?_⟩, ?_⟩, ?_⟩
      · exact mS 0 3
      · exact owe_part rfl wA rfl (k := 0) rfl (by kernel_rfl) rfl (fun ρ w b h => part_gso0 ρ _ _ w b 0 h)
      · exact owe_pload rfl wA rfl (oO 1 29) (k := 0) rfl (by kernel_rfl) rfl (fun ρ w b u h1 h2 h3 => ploadS rfl load1_vec ρ _ _ w b u h1 h2 h3)
      · exact owe_len rfl wA rfl (oO 2 30) ar_len Tryz.underlying22 rfl
      · exact b_lss_int_f wA (oO 0 28) (oO 3 31)
    intro B5 a5 W5 (S5 : Sta w 57 [(1, (.box 25 (SF [(Vv nD D K), (Mv nL L K)])))] [(32, bF), (3, iV (k0 : Nat))] _ _ _)
    refine wp_cond_false (S5.bool 0 32 rfl) ?_
    refine wp_exit ?_
    refine thenX ?_
    refine thenX ?_
    refine inBlkE ?_
    refine thenN ?_
    refine wp_seq ?_
    refine wp_stmt_seq [.val (iV 0)] [.inr 0] [.inl 0, .inr 1] follows S5 rfl (by kernel_rfl) ?_ ?_
    · refine ⟨trivial, ?_⟩
      · exact mC
    intro B6 a6 W6 (S6 : Sta w 57 [(1, (.box 25 (SF [(Vv nD D K), (Mv nL L K)])))] [(4, iV 0), (3, iV (k0 : Nat))] _ _ _)
    refine wp_block ?_
    refine wp_loop_ghost (fun (k0 : Nat) a W => (k0 ≤ i0) ∧ ∃ Bq, Sta w 57 [(1, (.box 25 (SF [(Vv nD D K), (Mv nL L K)])))] [(4, iV (k0 : Nat))] Bq a W) (fun (k0 : Nat) => nL - k0) ?_ 0 ⟨Nat.zero_le _, B6, S6.sub [0] [0]⟩
    rintro k0 a7 W7 ⟨hcond, B7, S7⟩
    by_cases hlt : k0 < i0
    · have hr := g5 k0 hlt
      refine wp_seq ?_
      refine wp_stmt_seq [.val (iV (k0 : Nat)), .val (Part a7 1 1), .val (Mv nL L K), .val (iV (nL : Nat)), kT] [.inr 0] [.inl 4, .inr 0] follows S7 rfl (by kernel_rfl) ?_ ?_
      · refine ⟨⟨⟨⟨⟨trivial, ?_⟩, ?_⟩, ?_⟩, ?_⟩, ?_⟩
        · exact mS 0 4
        · exact owe_part rfl wA rfl (k := 0) rfl (by kernel_rfl) rfl (fun ρ w b h => part_gso1 ρ _ _ w b 0 h)
        · exact owe_pload rfl wA rfl (oO 1 43) (k := 0) rfl (by kernel_rfl) rfl (fun ρ w b u h1 h2 h3 => ploadS rfl load1_mat ρ _ _ w b u h1 h2 h3)
        · exact owe_len rfl wA rfl (oO 2 44) ar_len Tryz.underlying23 rfl
        · exact b_lss_int_t wA (oO 0 42) (oO 3 45)
      intro B8 a8 W8 (S8 : Sta w 57 [(1, (.box 25 (SF [(Vv nD D K), (Mv nL L K)])))] [(46, bT), (4, iV (k0 : Nat))] _ _ _)
      refine wp_cond_true (S8.bool 0 46 rfl) ?_
      refine wp_skip ?_
      refine thenN ?_
      refine wp_seq ?_
      refine wp_block ?_
      refine wp_stmt_seq [.val (Part a8 1 1), .val (Mv nL L K), .val (iV (k0 : Nat)), .val (AtE 1 (Vv ((L.getD k0 []).length) (L.getD k0 []) K)), .val (Vv ((L.getD k0 []).length) (L.getD k0 []) K), .val (iV ((L.getD k0 []).length : Nat)), .val (iV (k0 : Nat)), kF] [.inr 0] [.inl 7, .inr 1] follows S8 rfl (by kernel_rfl) ?_ ?_
      · repeat' refine And.intro ?_ ?_
        · trivial
        · exact owe_part rfl wA rfl (k := 0) rfl (by kernel_rfl) rfl (fun ρ w b h => part_gso1 ρ _ _ w b 0 h)
        · exact owe_pload rfl wA rfl (oO 0 49) (k := 0) rfl (by kernel_rfl) rfl (fun ρ w b u h1 h2 h3 => ploadS rfl load1_mat ρ _ _ w b u h1 h2 h3)
        · exact mS 1 4
        · exact owe_aindex rfl wA rfl idx_rows (oO 1 50) (oO 2 51) (vv_at (by omega)) rfl
        · exact owe_aload rfl wA rfl ldr_row1 (by decide) cel_vv (oO 3 52) rfl
        · exact owe_len rfl wA rfl (oO 4 53) ar_len Tryz.underlying22 rfl
        · exact mS 1 4
        · exact b_neq_int_f wA (oO 5 54) (oO 6 55)
      intro B9 a9 W9 (S9 : Sta w 57 [(1, (.box 25 (SF [(Vv nD D K), (Mv nL L K)])))] [(56, bF), (4, iV (k0 : Nat))] _ _ _)
      refine wp_cond_false (S9.bool 0 56 rfl) ?_
      refine wp_skip ?_
      refine inBlkN ?_
      refine thenN ?_
      refine wp_stmt [.val (iV (k0 : Nat)), .val (iV (k0 + 1 : Nat)), .val (iV (k0 + 1 : Nat))] [.inr 0] [.inl 2] follows S9 rfl (by kernel_rfl) ?_ ?_
      · refine ⟨⟨⟨trivial, ?_⟩, ?_⟩, ?_⟩
        · exact mS 1 4
        · exact b_add_int wA (oO 0 47) (opnd_const _)
        · exact mO 1 48
      intro B10 a10 W10 (S10 : Sta w 57 [(1, (.box 25 (SF [(Vv nD D K), (Mv nL L K)])))] [(4, iV (k0 + 1 : Nat))] _ _ _)
      refine thenN ?_
      exact ⟨k0 + 1, ⟨by omega, B10, S10.sub [0] [0]⟩, by omega⟩
    · have ek : k0 = i0 := by omega
      rw [← ek] at g6
      refine wp_seq ?_
      refine wp_stmt_seq [.val (iV (k0 : Nat)), .val (Part a7 1 1), .val (Mv nL L K), .val (iV (nL : Nat)), kT] [.inr 0] [.inl 4, .inr 0] follows S7 rfl (by kernel_rfl) ?_ ?_
      · refine ⟨⟨⟨⟨⟨trivial, ?_⟩, ?_⟩, ?_⟩, ?_⟩, ?_⟩
        · exact mS 0 4
        · exact owe_part rfl wA rfl (k := 0) rfl (by kernel_rfl) rfl (fun ρ w b h => part_gso1 ρ _ _ w b 0 h)
        · exact owe_pload rfl wA rfl (oO 1 43) (k := 0) rfl (by kernel_rfl) rfl (fun ρ w b u h1 h2 h3 => ploadS rfl load1_mat ρ _ _ w b u h1 h2 h3)
        · exact owe_len rfl wA rfl (oO 2 44) ar_len Tryz.underlying23 rfl
        · exact b_lss_int_t wA (oO 0 42) (oO 3 45)
      intro B8 a8 W8 (S8 : Sta w 57 [(1, (.box 25 (SF [(Vv nD D K), (Mv nL L K)])))] [(46, bT), (4, iV (k0 : Nat))] _ _ _)
      refine wp_cond_true (S8.bool 0 46 rfl) ?_
      refine wp_skip ?_
      refine thenN ?_
      refine wp_seq ?_
      refine wp_block ?_
      refine wp_stmt_seq [.val (Part a8 1 1), .val (Mv nL L K), .val (iV (k0 : Nat)), .val (AtE 1 (Vv ((L.getD k0 []).length) (L.getD k0 []) K)), .val (Vv ((L.getD k0 []).length) (L.getD k0 []) K), .val (iV ((L.getD k0 []).length : Nat)), .val (iV (k0 : Nat)), kT] [.inr 0] [.inl 7, .inr 1] follows S8 rfl (by kernel_rfl) ?_ ?_
      · repeat' refine And.intro ?_ ?_
        · trivial
        · exact owe_part rfl wA rfl (k := 0) rfl (by kernel_rfl) rfl (fun ρ w b h => part_gso1 ρ _ _ w b 0 h)
        · exact owe_pload rfl wA rfl (oO 0 49) (k := 0) rfl (by kernel_rfl) rfl (fun ρ w b u h1 h2 h3 => ploadS rfl load1_mat ρ _ _ w b u h1 h2 h3)
        · exact mS 1 4
        · exact owe_aindex rfl wA rfl idx_rows (oO 1 50) (oO 2 51) (vv_at (by omega)) rfl
        · exact owe_aload rfl wA rfl ldr_row1 (by decide) cel_vv (oO 3 52) rfl
        · exact owe_len rfl wA rfl (oO 4 53) ar_len Tryz.underlying22 rfl
        · exact mS 1 4
        · exact b_neq_int_t wA (oO 5 54) (oO 6 55)
      intro B9 a9 W9 (S9 : Sta w 57 [(1, (.box 25 (SF [(Vv nD D K), (Mv nL L K)])))] [(56, bT), (4, iV (k0 : Nat))] _ _ _)
      refine wp_cond_true (S9.bool 0 56 rfl) ?_
      refine wp_stmt_seq [kF] [.inr 0] [.inl 0, .inr 1] follows S9 rfl (by kernel_rfl) ?_ ?_
      · refine ⟨trivial, ?_⟩
        · exact mC
      intro B10 a10 W10 (S10 : Sta w 57 [(1, (.box 25 (SF [(Vv nD D K), (Mv nL L K)])))] [(2, bF), (4, iV (k0 : Nat))] _ _ _)
      refine wp_ret ?_
      refine inBlkR ?_
      refine thenR ?_
      refine thenR ?_
      refine inBlkR ?_
      refine thenR ?_
      exact end_one S10 rfl (res_tmp S10 0 2 rfl)


theorem good_f (w : World) (u : Value) (nD nL K : Nat) (D : List Int) (L : List (List Int)) (h : Hs w (SF [Vv nD D K, Mv nL L K]) u) (hD : nD ≤ 1048576) (hL : nL ≤ 1048576) (hK : K ≤ 1048576) (lD : D.length = nD) (lL : L.length = nL) (g : Bad D L) : Calls Tryz.prog 7 #[u] w (Gives (IS (.bool false)) w) := by
  cases g.r with
  | none h1 => exact good_f0 w u nD nL K D L h hD hL hK lD lL (Or.inl h1)
  | len h1 h2 => exact good_f0 w u nD nL K D L h hD hL hK lD lL (Or.inr (Or.inl ⟨h1, h2⟩))
  | one h1 h2 h3 => exact good_f0 w u nD nL K D L h hD hL hK lD lL (Or.inr (Or.inr ⟨h1, h2, h3⟩))
  | pos i0 h1 h2 h3 h4 h5 h6 => exact good_f1 w u nD nL K D L h hD hL hK lD lL i0 h1 h2 h3 h4 h5 h6
  | row i0 h1 h2 h3 h4 h5 h6 h7 => exact good_f2 w u nD nL K D L h hD hL hK lD lL i0 h1 h2 h3 h4 h5 h6 h7
end Go.Proofs.YtkiholgfamfgeaaGreat

/-
  gso.Mu, gso.Star, what the document says of them.
-/
namespace Go.Proofs.YtkiholgfamfgeaaGreat
open Go Go.RowKit Nt
set_option linter.unusedSimpArgs false
set_option linter.unusedVariables false
set_option maxRecDepth 20000


theorem g_rmk {A : Int} {D k k' : Nat} (hD : D ≠ 0) (hk : k ≤ 67108864) (hk' : k' ≤ 67108864) : ∀ w u v, Zv A k u w → Zv (D : Int) k' v w → Calls Tryz.prog 27 #[u, v] w (Gives (RN (nR A D) (dR A D)) w) := by
  rintro w u v ⟨s, p, n, c, xs, rfl, h, rfl, hn⟩ ⟨t, q, m, d, ys, rfl, h', eD, hm⟩
  obtain ⟨rfl, rfl⟩ := zv_pos eD hD
  rw [nR_sg, dR_sg]
  exact rt_gives (rmake_c w s p q n c m d xs ys h h' hD (by omega) (by omega))
theorem g_rofG {A : Int} {k : Nat} (hk : k ≤ 67108864) : ∀ w u, Zv A k u w → Calls Tryz.prog 28 #[u] w (Gives (RN A 1) w) := by
  rintro w u ⟨s, p, n, c, xs, rfl, h, rfl, hn⟩
  exact rt_gives (rof_c w s p n c xs h (by omega))
theorem zn_nmx {z : Int} {lo : Nat} : ∀ v w, ZN z lo v w → Nmx (ng z) (digs z.natAbs) v w := fun v w ⟨r, c, e, h, _⟩ => ⟨r, _, c, e, h⟩
theorem rn_nmx {N : Int} {D lo : Nat} : ∀ v w, RN N D lo v w → PR (Nmx (ng N) (digs N.natAbs)) (Nmx (ng (D : Int)) (digs (D : Int).natAbs)) v w := pr_imp zn_nmx zn_nmx
theorem z_nmx : ∀ v w, Is (.agg #[.bool false, .slice none 0 0, .bool false, .slice none 0 0]) v w → PR (Nmx false []) (Nmx false []) v w := fun v w e => ⟨_, _, _, _, e, ⟨none, 0, 0, rfl, Sl.none w⟩, ⟨none, 0, 0, rfl, Sl.none w⟩⟩

set_option maxHeartbeats 400000 in
theorem gsame_w (w : World) (u v : Value) (s t : Bool) (xs ys : List Nat) (h : Hs w (PR (Nmx s xs) (Nmx t ys)) u) (h' : Hs w (PR (Nmx s xs) (Nmx t ys)) v) :
    Calls Tryz.prog 8 #[u, v] w (Gives (IS (.bool true)) w) := by
  refine calls_sta (sl := [(0, (PR (Nmx s xs) (Nmx t ys))), (1, (PR (Nmx s xs) (Nmx t ys)))]) Tryz.func8 rfl Tryz.ntmps8 (by simp) (args_cons rfl (h) (args_cons rfl (h') args_nil)) ?_
  intro a0 S0
  refine wp_stmt_seq [.new (.box 30 (PR (Nmx s xs) (Nmx t ys))), .new (.box 30 (PR (Nmx s xs) (Nmx t ys))), kF] [.inl 0, .inl 1] [] follows S0 rfl (by kernel_rfl) ?_ ?_
  · refine ⟨⟨⟨trivial, ?_⟩, ?_⟩, ?_⟩
    · exact owe_box rfl wA rfl (oS 0 0) rfl (fun ρ w h => box_rat (shp_pr shp_nmx shp_nmx) ρ _ _ w h)
    · exact owe_box rfl wA rfl (oS 1 1) rfl (fun ρ w h => box_rat (shp_pr shp_nmx shp_nmx) ρ _ _ w h)
    · exact mC
  intro B1 a1 W1 (S1 : Sta w 17 [(2, (.box 30 (PR (Nmx s xs) (Nmx t ys)))), (3, (.box 30 (PR (Nmx s xs) (Nmx t ys))))] [] _ _ _)
  refine wp_stmt_seq [.val (Part a1 2 0), .val (Nmx s xs), .val (Part a1 3 0), .val (Nmx s xs), kT, kT, .val (Part a1 2 2), .val (Nmx t ys), .val (Part a1 3 2), .val (Nmx t ys), kT, kT, kT] [] [.inl 12] follows S1 rfl (by kernel_rfl) ?_ ?_
  · repeat' refine And.intro ?_ ?_
    · trivial
    · exact owe_part rfl wA rfl (k := 0) rfl (by kernel_rfl) rfl (fun ρ w b h => part_rat0 ρ _ _ w b 0 h)
    · exact owe_pload rfl wA rfl (oO 0 5) (k := 0) rfl (by kernel_rfl) rfl (fun ρ w b u h1 h2 h3 => pload_num ρ _ _ w b u h1 h2 h3)
    · exact owe_part rfl wA rfl (k := 1) rfl (by kernel_rfl) rfl (fun ρ w b h => part_rat0 ρ _ _ w b 0 h)
    · exact owe_pload rfl wA rfl (oO 2 7) (k := 1) rfl (by kernel_rfl) rfl (fun ρ w b u h1 h2 h3 => pload_num ρ _ _ w b u h1 h2 h3)
    · exact cc2 wA (qO 1 6 rfl) (qO 3 8 rfl) (fresh_is _) h_eq
    · exact mO 4 9
    · exact owe_part rfl (wI 5 10) rfl (k := 0) rfl (by kernel_rfl) rfl (fun ρ w b h => part_rat1 ρ _ _ w b 0 h)
    · exact owe_pload rfl (wI 5 10) rfl (oO 6 11) (k := 0) rfl (by kernel_rfl) rfl (fun ρ w b u h1 h2 h3 => pload_den ρ _ _ w b u h1 h2 h3)
    · exact owe_part rfl (wI 5 10) rfl (k := 1) rfl (by kernel_rfl) rfl (fun ρ w b h => part_rat1 ρ _ _ w b 0 h)
    · exact owe_pload rfl (wI 5 10) rfl (oO 8 13) (k := 1) rfl (by kernel_rfl) rfl (fun ρ w b u h1 h2 h3 => pload_den ρ _ _ w b u h1 h2 h3)
    · exact cc2 (wI 5 10) (qO 7 12 rfl) (qO 9 14 rfl) (fresh_is _) h_eq
    · exact pT wA (oO 5 10) (oO 10 15)
    · exact mO 11 16
  intro B2 a2 W2 (S2 : Sta w 17 [] [(4, bT)] _ _ _)
  refine wp_ret ?_
  exact end_one S2 rfl (res_tmp S2 0 4 rfl)

set_option maxHeartbeats 400000 in
theorem mu_b (w : World) (u : Value) (nD nL K : Nat) (D : List Int) (L : List (List Int)) (h : Hs w (SF [Vv nD D K, Mv nL L K]) u) (hD : nD ≤ 1048576) (hL : nL ≤ 1048576) (hK : K ≤ 1048576) (lD : D.length = nD) (lL : L.length = nL) (i j : Int) (g : Bad D L) :
    Calls Tryz.prog 5 #[u, .int .i64 i, .int .i64 j] w (Gives (TWO (IS (.agg #[.bool false, .slice none 0 0, .bool false, .slice none 0 0])) (IS (.int .i64 51))) w) := by
  refine calls_sta (sl := [(0, (SF [(Vv nD D K), (Mv nL L K)])), (1, (iV i)), (2, (iV j))]) Tryz.func5 rfl Tryz.ntmps5 (by simp) (args_cons rfl (h) (args_cons rfl (is_has _) (args_cons rfl (is_has _) args_nil))) ?_
  intro a0 S0
  refine wp_stmt_seq [.new (.box 25 (SF [(Vv nD D K), (Mv nL L K)])), .new (.box 30 zR), .val (iV 0)] [.inl 0, .inl 1] [.inr 1, .inr 2] follows S0 rfl (by kernel_rfl) ?_ ?_
  · refine ⟨⟨⟨trivial, ?_⟩, ?_⟩, ?_⟩
    · exact owe_box rfl wA rfl (oS 0 0) rfl (fun ρ w h => box_gso shp_sf2 ρ _ _ w h)
    · exact owe_new rfl wA rfl rfl (fun ρ w => alloc_rat ρ _ w)
    · exact mC
  intro B1 a1 W1 (S1 : Sta w 52 [(3, (.box 25 (SF [(Vv nD D K), (Mv nL L K)]))), (6, (.box 30 zR))] [(1, iV i), (2, iV j)] _ _ _)
  refine wp_seq ?_
  refine wp_block ?_
  refine wp_stmt_seq [.val (SF [(Vv nD D K), (Mv nL L K)]), kF, kT, kT] [.inr 0, .inr 1] [.inl 3, .inr 0, .inr 1] follows S1 rfl (by kernel_rfl) ?_ ?_
  · refine ⟨⟨⟨⟨trivial, ?_⟩, ?_⟩, ?_⟩, ?_⟩
    · exact lod 0 wA (loads_of strct_gso shp_sf2)
    · exact ch1 wA (qO 0 9 rfl) (fresh_is _) (fun w u h => may_f w u nD nL K D L h hD hL hK lD lL g)
    · exact b_not wA (oO 1 10)
    · exact mO 2 11
  intro B2 a2 W2 (S2 : Sta w 52 [(3, (.box 25 (SF [(Vv nD D K), (Mv nL L K)]))), (6, (.box 30 zR))] [(8, bT), (1, iV i), (2, iV j)] _ _ _)
  refine wp_cond_true (S2.bool 0 8 rfl) ?_
  refine wp_stmt_seq [.val zR, .put (.inl 6) (.box 30 zR), .val (iV 51)] [.inr 0, .inr 1] [.inl 2] follows S2 rfl (by kernel_rfl) ?_ ?_
  · refine ⟨⟨⟨trivial, ?_⟩, ?_⟩, ?_⟩
    · exact owe_build_rat rfl wA rfl rfl
    · exact owe_set rfl wA rfl (k := 1) rfl (by kernel_rfl) (oO 0 12) (stores_of strct_rat shp_r0 shp_r0) rfl
    · exact mC
  intro B3 a3 W3 (S3 : Sta w 52 [(3, (.box 25 (SF [(Vv nD D K), (Mv nL L K)]))), (6, (.box 30 zR))] [(7, iV 51)] _ _ _)
  refine wp_ret ?_
  refine inBlkR ?_
  refine thenR ?_
  exact end_two S3 rfl (res_cell S3 1 6 rfl strct_rat shp_r0) (res_tmp S3 0 7 rfl)

set_option maxHeartbeats 1000000 in
theorem mu_a (w : World) (u : Value) (nD nL K : Nat) (D : List Int) (L : List (List Int)) (h : Hs w (SF [Vv nD D K, Mv nL L K]) u) (hD : nD ≤ 1048576) (hL : nL ≤ 1048576) (hK : K ≤ 1048576) (lD : D.length = nD) (lL : L.length = nL) (i j : Int) (g : Good D L) (hp : j < 0 ∨ (0 ≤ j ∧ i < j) ∨ (0 ≤ j ∧ j ≤ i ∧ (nL : Int) ≤ i)) :
    Calls Tryz.prog 5 #[u, .int .i64 i, .int .i64 j] w (Gives (TWO (IS (.agg #[.bool false, .slice none 0 0, .bool false, .slice none 0 0])) (IS (.int .i64 1))) w) := by
  refine calls_sta (sl := [(0, (SF [(Vv nD D K), (Mv nL L K)])), (1, (iV i)), (2, (iV j))]) Tryz.func5 rfl Tryz.ntmps5 (by simp) (args_cons rfl (h) (args_cons rfl (is_has _) (args_cons rfl (is_has _) args_nil))) ?_
  intro a0 S0
  refine wp_stmt_seq [.new (.box 25 (SF [(Vv nD D K), (Mv nL L K)])), .new (.box 30 zR), .val (iV 0)] [.inl 0, .inl 1] [.inr 1, .inr 2] follows S0 rfl (by kernel_rfl) ?_ ?_
  · refine ⟨⟨⟨trivial, ?_⟩, ?_⟩, ?_⟩
    · exact owe_box rfl wA rfl (oS 0 0) rfl (fun ρ w h => box_gso shp_sf2 ρ _ _ w h)
    · exact owe_new rfl wA rfl rfl (fun ρ w => alloc_rat ρ _ w)
    · exact mC
  intro B1 a1 W1 (S1 : Sta w 52 [(3, (.box 25 (SF [(Vv nD D K), (Mv nL L K)]))), (6, (.box 30 zR))] [(1, iV i), (2, iV j)] _ _ _)
  refine wp_seq ?_
  refine wp_block ?_
  refine wp_stmt_seq [.val (SF [(Vv nD D K), (Mv nL L K)]), kT, kF, kF] [.inr 0, .inr 1] [.inl 3, .inr 0, .inr 1] follows S1 rfl (by kernel_rfl) ?_ ?_
  · refine ⟨⟨⟨⟨trivial, ?_⟩, ?_⟩, ?_⟩, ?_⟩
    · exact lod 0 wA (loads_of strct_gso shp_sf2)
    · exact ch1 wA (qO 0 9 rfl) (fresh_is _) (fun w u h => may_t w u nD nL K D L h hD hL hK lD lL g)
    · exact b_not wA (oO 1 10)
    · exact mO 2 11
  intro B2 a2 W2 (S2 : Sta w 52 [(3, (.box 25 (SF [(Vv nD D K), (Mv nL L K)]))), (6, (.box 30 zR))] [(8, bF), (1, iV i), (2, iV j)] _ _ _)
  refine wp_cond_false (S2.bool 0 8 rfl) ?_
  rcases hp with hp | ⟨hp, hq⟩ | ⟨hp, hq, hr⟩
  · skip
    refine wp_stmt_seq [.val (iV j), kT, kT, .off, .off, .off, kT, kT, .off, .off, .off, .off, .off, kT, kT] [.inr 0, .inr 1] [.inl 14, .inr 1, .inr 2] follows S2 rfl (by kernel_rfl) ?_ ?_
    · repeat' refine And.intro ?_ ?_
      · trivial
      · exact mS 2 2
      · exact b_lss_int_t wA (oO 0 14) (opnd_const _)
      · exact mO 1 15
      · exact oF 2 16
      · exact oF 2 16
      · exact oF 2 16
      · exact pT wA (oO 2 16) (opnd_const _)
      · exact mO 6 20
      · exact oF 7 21
      · exact oF 7 21
      · exact oF 7 21
      · exact oF 7 21
      · exact oF 7 21
      · exact pT wA (oO 7 21) (opnd_const _)
      · exact mO 13 27
    intro B3 a3 W3 (S3 : Sta w 52 [(3, (.box 25 (SF [(Vv nD D K), (Mv nL L K)]))), (6, (.box 30 zR))] [(13, bT), (1, iV i), (2, iV j)] _ _ _)
    refine wp_cond_true (S3.bool 0 13 rfl) ?_
    refine wp_stmt_seq [.val zR, .put (.inl 6) (.box 30 zR), .val (iV 1)] [.inr 0, .inr 1] [.inl 2] follows S3 rfl (by kernel_rfl) ?_ ?_
    · refine ⟨⟨⟨trivial, ?_⟩, ?_⟩, ?_⟩
      · exact owe_build_rat rfl wA rfl rfl
      · exact owe_set rfl wA rfl (k := 1) rfl (by kernel_rfl) (oO 0 28) (stores_of strct_rat shp_r0 shp_r0) rfl
      · exact mC
    intro B4 a4 W4 (S4 : Sta w 52 [(3, (.box 25 (SF [(Vv nD D K), (Mv nL L K)]))), (6, (.box 30 zR))] [(7, iV 1)] _ _ _)
    refine wp_ret ?_
    refine inBlkR ?_
    refine thenR ?_
    exact end_two S4 rfl (res_cell S4 1 6 rfl strct_rat shp_r0) (res_tmp S4 0 7 rfl)
  · skip
    refine wp_stmt_seq [.val (iV j), kF, kF, .val (iV j), .val (iV i), kT, kT, kT, .off, .off, .off, .off, .off, kT, kT] [.inr 0, .inr 1] [.inl 14, .inr 1, .inr 2] follows S2 rfl (by kernel_rfl) ?_ ?_
    · repeat' refine And.intro ?_ ?_
      · trivial
      · exact mS 2 2
      · exact b_lss_int_f wA (oO 0 14) (opnd_const _)
      · exact mO 1 15
      · exact mW (wI 2 16) (oS 2 2)
      · exact mW (wI 2 16) (oS 1 1)
      · exact b_gtr_int_t (wI 2 16) (oO 3 17) (oO 4 18)
      · exact pF wA (oO 2 16) (oO 5 19)
      · exact mO 6 20
      · exact oF 7 21
      · exact oF 7 21
      · exact oF 7 21
      · exact oF 7 21
      · exact oF 7 21
      · exact pT wA (oO 7 21) (opnd_const _)
      · exact mO 13 27
    intro B3 a3 W3 (S3 : Sta w 52 [(3, (.box 25 (SF [(Vv nD D K), (Mv nL L K)]))), (6, (.box 30 zR))] [(13, bT), (1, iV i), (2, iV j)] _ _ _)
    refine wp_cond_true (S3.bool 0 13 rfl) ?_
    refine wp_stmt_seq [.val zR, .put (.inl 6) (.box 30 zR), .val (iV 1)] [.inr 0, .inr 1] [.inl 2] follows S3 rfl (by kernel_rfl) ?_ ?_
    · refine ⟨⟨⟨trivial, ?_⟩, ?_⟩, ?_⟩
      · exact owe_build_rat rfl wA rfl rfl
      · exact owe_set rfl wA rfl (k := 1) rfl (by kernel_rfl) (oO 0 28) (stores_of strct_rat shp_r0 shp_r0) rfl
      · exact mC
    intro B4 a4 W4 (S4 : Sta w 52 [(3, (.box 25 (SF [(Vv nD D K), (Mv nL L K)]))), (6, (.box 30 zR))] [(7, iV 1)] _ _ _)
    refine wp_ret ?_
    refine inBlkR ?_
    refine thenR ?_
    exact end_two S4 rfl (res_cell S4 1 6 rfl strct_rat shp_r0) (res_tmp S4 0 7 rfl)
  · skip
    refine wp_stmt_seq [.val (iV j), kF, kF, .val (iV j), .val (iV i), kF, kF, kF, .val (iV i), .val (Part a2 3 1), .val (Mv nL L K), .val (iV (nL : Nat)), kT, kT, kT] [.inr 0, .inr 1] [.inl 14, .inr 1, .inr 2] follows S2 rfl (by kernel_rfl) ?_ ?_
    · repeat' refine And.intro ?_ ?_
      · trivial
      · exact mS 2 2
      · exact b_lss_int_f wA (oO 0 14) (opnd_const _)
      · exact mO 1 15
      · exact mW (wI 2 16) (oS 2 2)
      · exact mW (wI 2 16) (oS 1 1)
      · exact b_gtr_int_f (wI 2 16) (oO 3 17) (oO 4 18)
      · exact pF wA (oO 2 16) (oO 5 19)
      · exact mO 6 20
      · exact mW (wI 7 21) (oS 1 1)
      · exact owe_part rfl (wI 7 21) rfl (k := 0) rfl (by kernel_rfl) rfl (fun ρ w b h => part_gso1 ρ _ _ w b 0 h)
      · exact owe_pload rfl (wI 7 21) rfl (oO 9 23) (k := 0) rfl (by kernel_rfl) rfl (fun ρ w b u h1 h2 h3 => ploadS rfl load1_mat ρ _ _ w b u h1 h2 h3)
      · exact owe_len rfl (wI 7 21) rfl (oO 10 24) ar_len Tryz.underlying23 rfl
      · exact b_geq_int_t (wI 7 21) (oO 8 22) (oO 11 25)
      · exact pF wA (oO 7 21) (oO 12 26)
      · exact mO 13 27
    intro B3 a3 W3 (S3 : Sta w 52 [(3, (.box 25 (SF [(Vv nD D K), (Mv nL L K)]))), (6, (.box 30 zR))] [(13, bT), (1, iV i), (2, iV j)] _ _ _)
    refine wp_cond_true (S3.bool 0 13 rfl) ?_
    refine wp_stmt_seq [.val zR, .put (.inl 6) (.box 30 zR), .val (iV 1)] [.inr 0, .inr 1] [.inl 2] follows S3 rfl (by kernel_rfl) ?_ ?_
    · refine ⟨⟨⟨trivial, ?_⟩, ?_⟩, ?_⟩
      · exact owe_build_rat rfl wA rfl rfl
      · exact owe_set rfl wA rfl (k := 1) rfl (by kernel_rfl) (oO 0 28) (stores_of strct_rat shp_r0 shp_r0) rfl
      · exact mC
    intro B4 a4 W4 (S4 : Sta w 52 [(3, (.box 25 (SF [(Vv nD D K), (Mv nL L K)]))), (6, (.box 30 zR))] [(7, iV 1)] _ _ _)
    refine wp_ret ?_
    refine inBlkR ?_
    refine thenR ?_
    exact end_two S4 rfl (res_cell S4 1 6 rfl strct_rat shp_r0) (res_tmp S4 0 7 rfl)

set_option maxHeartbeats 400000 in
theorem mu_e (w : World) (u : Value) (nD nL K : Nat) (D : List Int) (L : List (List Int)) (h : Hs w (SF [Vv nD D K, Mv nL L K]) u) (hD : nD ≤ 1048576) (hL : nL ≤ 1048576) (hK : K ≤ 1048576) (lD : D.length = nD) (lL : L.length = nL) (i : Nat) (g : Good D L) (hi : i < nL) :
    Calls Tryz.prog 5 #[u, .int .i64 (i : Nat), .int .i64 (i : Nat)] w (Gives (TWO (RN 1 1) (IS (.int .i64 0))) w) := by
  refine calls_sta (sl := [(0, (SF [(Vv nD D K), (Mv nL L K)])), (1, (iV (i : Nat))), (2, (iV (i : Nat)))]) Tryz.func5 rfl Tryz.ntmps5 (by simp) (args_cons rfl (h) (args_cons rfl (is_has _) (args_cons rfl (is_has _) args_nil))) ?_
  intro a0 S0
  refine wp_stmt_seq [.new (.box 25 (SF [(Vv nD D K), (Mv nL L K)])), .new (.box 30 zR), .val (iV 0)] [.inl 0, .inl 1] [.inr 1, .inr 2] follows S0 rfl (by kernel_rfl) ?_ ?_
  · refine ⟨⟨⟨trivial, ?_⟩, ?_⟩, ?_⟩
    · exact owe_box rfl wA rfl (oS 0 0) rfl (fun ρ w h => box_gso shp_sf2 ρ _ _ w h)
    · exact owe_new rfl wA rfl rfl (fun ρ w => alloc_rat ρ _ w)
    · exact mC
  intro B1 a1 W1 (S1 : Sta w 52 [(3, (.box 25 (SF [(Vv nD D K), (Mv nL L K)]))), (6, (.box 30 zR))] [(1, iV (i : Nat)), (2, iV (i : Nat))] _ _ _)
  refine wp_seq ?_
  refine wp_block ?_
  refine wp_stmt_seq [.val (SF [(Vv nD D K), (Mv nL L K)]), kT, kF, kF] [.inr 0, .inr 1] [.inl 3, .inr 0, .inr 1] follows S1 rfl (by kernel_rfl) ?_ ?_
  · refine ⟨⟨⟨⟨trivial, ?_⟩, ?_⟩, ?_⟩, ?_⟩
    · exact lod 0 wA (loads_of strct_gso shp_sf2)
    · exact ch1 wA (qO 0 9 rfl) (fresh_is _) (fun w u h => may_t w u nD nL K D L h hD hL hK lD lL g)
    · exact b_not wA (oO 1 10)
    · exact mO 2 11
  intro B2 a2 W2 (S2 : Sta w 52 [(3, (.box 25 (SF [(Vv nD D K), (Mv nL L K)]))), (6, (.box 30 zR))] [(8, bF), (1, iV (i : Nat)), (2, iV (i : Nat))] _ _ _)
  refine wp_cond_false (S2.bool 0 8 rfl) ?_
  refine wp_stmt_seq [.val (iV (i : Nat)), kF, kF, .val (iV (i : Nat)), .val (iV (i : Nat)), kF, kF, kF, .val (iV (i : Nat)), .val (Part a2 3 1), .val (Mv nL L K), .val (iV (nL : Nat)), kF, kF, kF] [.inr 0, .inr 1] [.inl 14, .inr 1, .inr 2] follows S2 rfl (by kernel_rfl) ?_ ?_
  · repeat' refine And.intro ?_ ?_
    · trivial
    · exact mS 2 2
    · exact b_lss_int_f wA (oO 0 14) (opnd_const _)
    · exact mO 1 15
    · exact mW (wI 2 16) (oS 2 2)
    · exact mW (wI 2 16) (oS 1 1)
    · exact b_gtr_int_f (wI 2 16) (oO 3 17) (oO 4 18)
    · exact pF wA (oO 2 16) (oO 5 19)
    · exact mO 6 20
    · exact mW (wI 7 21) (oS 1 1)
    · exact owe_part rfl (wI 7 21) rfl (k := 0) rfl (by kernel_rfl) rfl (fun ρ w b h => part_gso1 ρ _ _ w b 0 h)
    · exact owe_pload rfl (wI 7 21) rfl (oO 9 23) (k := 0) rfl (by kernel_rfl) rfl (fun ρ w b u h1 h2 h3 => ploadS rfl load1_mat ρ _ _ w b u h1 h2 h3)
    · exact owe_len rfl (wI 7 21) rfl (oO 10 24) ar_len Tryz.underlying23 rfl
    · exact b_geq_int_f (wI 7 21) (oO 8 22) (oO 11 25)
    · exact pF wA (oO 7 21) (oO 12 26)
    · exact mO 13 27
  intro B3 a3 W3 (S3 : Sta w 52 [(3, (.box 25 (SF [(Vv nD D K), (Mv nL L K)]))), (6, (.box 30 zR))] [(13, bF), (1, iV (i : Nat)), (2, iV (i : Nat))] _ _ _)
  refine wp_cond_false (S3.bool 0 13 rfl) ?_
  refine wp_stmt_seq [.val (iV (i : Nat)), .val (iV (i : Nat)), kT, kT] [.inr 0, .inr 1] [.inl 3, .inr 1, .inr 2] follows S3 rfl (by kernel_rfl) ?_ ?_
  · refine ⟨⟨⟨⟨trivial, ?_⟩, ?_⟩, ?_⟩, ?_⟩
    · exact mS 2 2
    · exact mS 1 1
    · exact b_eql_int_t wA (oO 0 30) (oO 1 31)
    · exact mO 2 32
  intro B4 a4 W4 (S4 : Sta w 52 [(3, (.box 25 (SF [(Vv nD D K), (Mv nL L K)]))), (6, (.box 30 zR))] [(29, bT), (1, iV (i : Nat)), (2, iV (i : Nat))] _ _ _)
  refine wp_cond_true (S4.bool 0 29 rfl) ?_
  refine wp_stmt_seq [.val ((ZN (1)) w.heap.size), .val ((RN 1 1) w.heap.size), .put (.inl 6) (.box 30 ((RN 1 1) w.heap.size)), .val (iV 0)] [.inr 0, .inr 1] [.inl 3] follows S4 rfl (by kernel_rfl) ?_ ?_
  · refine ⟨⟨⟨⟨trivial, ?_⟩, ?_⟩, ?_⟩, ?_⟩
    · exact cc1 wA (opnd_const _) (fresh_zn _) (g_zof (1) (by omega) (by omega))
    · exact cc1 wA (qO 0 33 rfl) (fresh_rn _ _) (fun w u h1 => g_ratof (k := 1) (by omega) w u (zn_zv one_dl _ _ h1))
    · exact owe_set rfl wA rfl (k := 1) rfl (by kernel_rfl) (oO 1 34) (stores_of strct_rat shp_r0 (shp_pr shp_zn shp_zn)) rfl
    · exact mC
  intro B5 a5 W5 (S5 : Sta w 52 [(3, (.box 25 (SF [(Vv nD D K), (Mv nL L K)]))), (6, (.box 30 ((RN 1 1) w.heap.size)))] [(7, iV 0)] _ _ _)
  refine wp_ret ?_
  refine inBlkR ?_
  refine thenR ?_
  exact end_two S5 rfl (res_cell S5 1 6 rfl strct_rat (shp_pr shp_zn shp_zn)) (res_tmp S5 0 7 rfl)

set_option maxHeartbeats 1000000 in
theorem mu_m (w : World) (u : Value) (nD nL K : Nat) (D : List Int) (L : List (List Int)) (h : Hs w (SF [Vv nD D K, Mv nL L K]) u) (hD : nD ≤ 1048576) (hL : nL ≤ 1048576) (hK : K ≤ 1048576) (lD : D.length = nD) (lL : L.length = nL) (i j : Nat) (d0 : Nat) (g : Good D L) (hi : i < nL) (hj : j < i) (hd : D.getD (j + 1) 0 = (d0 : Int)) (hd0 : d0 ≠ 0) :
    Calls Tryz.prog 5 #[u, .int .i64 (i : Nat), .int .i64 (j : Nat)] w (Gives (TWO (RN (nR ((L.getD i []).getD j 0) d0) (dR ((L.getD i []).getD j 0) d0)) (IS (.int .i64 0))) w) := by
  have hl := g.len
  have hr := g.row i (by omega)
  refine calls_sta (sl := [(0, (SF [(Vv nD D K), (Mv nL L K)])), (1, (iV (i : Nat))), (2, (iV (j : Nat)))]) Tryz.func5 rfl Tryz.ntmps5 (by simp) (args_cons rfl (h) (args_cons rfl (is_has _) (args_cons rfl (is_has _) args_nil))) ?_
  intro a0 S0
  refine wp_stmt_seq [.new (.box 25 (SF [(Vv nD D K), (Mv nL L K)])), .new (.box 30 zR), .val (iV 0)] [.inl 0, .inl 1] [.inr 1, .inr 2] follows S0 rfl (by kernel_rfl) ?_ ?_
  · refine ⟨⟨⟨trivial, ?_⟩, ?_⟩, ?_⟩
    · exact owe_box rfl wA rfl (oS 0 0) rfl (fun ρ w h => box_gso shp_sf2 ρ _ _ w h)
    · exact owe_new rfl wA rfl rfl (fun ρ w => alloc_rat ρ _ w)
    · exact mC
  intro B1 a1 W1 (S1 : Sta w 52 [(3, (.box 25 (SF [(Vv nD D K), (Mv nL L K)]))), (6, (.box 30 zR))] [(1, iV (i : Nat)), (2, iV (j : Nat))] _ _ _)
  refine wp_seq ?_
  refine wp_block ?_
  refine wp_stmt_seq [.val (SF [(Vv nD D K), (Mv nL L K)]), kT, kF, kF] [.inr 0, .inr 1] [.inl 3, .inr 0, .inr 1] follows S1 rfl (by kernel_rfl) ?_ ?_
  · refine ⟨⟨⟨⟨trivial, ?_⟩, ?_⟩, ?_⟩, ?_⟩
    · exact lod 0 wA (loads_of strct_gso shp_sf2)
    · exact ch1 wA (qO 0 9 rfl) (fresh_is _) (fun w u h => may_t w u nD nL K D L h hD hL hK lD lL g)
    · exact b_not wA (oO 1 10)
    · exact mO 2 11
  intro B2 a2 W2 (S2 : Sta w 52 [(3, (.box 25 (SF [(Vv nD D K), (Mv nL L K)]))), (6, (.box 30 zR))] [(8, bF), (1, iV (i : Nat)), (2, iV (j : Nat))] _ _ _)
  refine wp_cond_false (S2.bool 0 8 rfl) ?_
  refine wp_stmt_seq [.val (iV (j : Nat)), kF, kF, .val (iV (j : Nat)), .val (iV (i : Nat)), kF, kF, kF, .val (iV (i : Nat)), .val (Part a2 3 1), .val (Mv nL L K), .val (iV (nL : Nat)), kF, kF, kF] [.inr 0, .inr 1] [.inl 14, .inr 1, .inr 2] follows S2 rfl (by kernel_rfl) ?_ ?_
  · repeat' refine And.intro ?_ ?_
    · trivial
    · exact mS 2 2
    · exact b_lss_int_f wA (oO 0 14) (opnd_const _)
    · exact mO 1 15
    · exact mW (wI 2 16) (oS 2 2)
    · exact mW (wI 2 16) (oS 1 1)
    · exact b_gtr_int_f (wI 2 16) (oO 3 17) (oO 4 18)
    · exact pF wA (oO 2 16) (oO 5 19)
    · exact mO 6 20
    · exact mW (wI 7 21) (oS 1 1)
    · exact owe_part rfl (wI 7 21) rfl (k := 0) rfl (by kernel_rfl) rfl (fun ρ w b h => part_gso1 ρ _ _ w b 0 h)
    · exact owe_pload rfl (wI 7 21) rfl (oO 9 23) (k := 0) rfl (by kernel_rfl) rfl (fun ρ w b u h1 h2 h3 => ploadS rfl load1_mat ρ _ _ w b u h1 h2 h3)
    · exact owe_len rfl (wI 7 21) rfl (oO 10 24) ar_len Tryz.underlying23 rfl
    · exact b_geq_int_f (wI 7 21) (oO 8 22) (oO 11 25)
    · exact pF wA (oO 7 21) (oO 12 26)
    · exact mO 13 27
  intro B3 a3 W3 (S3 : Sta w 52 [(3, (.box 25 (SF [(Vv nD D K), (Mv nL L K)]))), (6, (.box 30 zR))] [(13, bF), (1, iV (i : Nat)), (2, iV (j : Nat))] _ _ _)
  refine wp_cond_false (S3.bool 0 13 rfl) ?_
  refine wp_stmt_seq [.val (iV (j : Nat)), .val (iV (i : Nat)), kF, kF] [.inr 0, .inr 1] [.inl 3, .inr 1, .inr 2] follows S3 rfl (by kernel_rfl) ?_ ?_
  · refine ⟨⟨⟨⟨trivial, ?_⟩, ?_⟩, ?_⟩, ?_⟩
    · exact mS 2 2
    · exact mS 1 1
    · exact b_eql_int_f wA (oO 0 30) (oO 1 31)
    · exact mO 2 32
  intro B4 a4 W4 (S4 : Sta w 52 [(3, (.box 25 (SF [(Vv nD D K), (Mv nL L K)]))), (6, (.box 30 zR))] [(29, bF), (1, iV (i : Nat)), (2, iV (j : Nat))] _ _ _)
  refine wp_cond_false (S4.bool 0 29 rfl) ?_
  refine wp_skip ?_
  refine inBlkN ?_
  refine thenN ?_
  refine wp_stmt_seq [.val (Part a4 3 1), .val (Mv nL L K), .val (iV (i : Nat)), .val (AtE 1 (Vv ((L.getD i []).length) (L.getD i []) K)), .val (Vv ((L.getD i []).length) (L.getD i []) K), .val (iV (j : Nat)), .val (AtE 2 (Zv ((L.getD i []).getD j 0) K)), .val (Zv ((L.getD i []).getD j 0) K), .val (Part a4 3 0), .val (Vv nD D K), .val (iV (j : Nat)), .val (iV ((j + 1 : Nat) : Int)), .val (AtE 2 (Zv (D.getD (j + 1) 0) K)), .val (Zv (D.getD (j + 1) 0) K), .val ((TWO (RN (nR ((L.getD i []).getD j 0) d0) (dR ((L.getD i []).getD j 0) d0)) (IS (.int .i64 0))) w.heap.size), .val ((RN (nR ((L.getD i []).getD j 0) d0) (dR ((L.getD i []).getD j 0) d0)) w.heap.size), .val (iV 0), .put (.inl 6) (.box 30 ((RN (nR ((L.getD i []).getD j 0) d0) (dR ((L.getD i []).getD j 0) d0)) w.heap.size)), .val (iV 0)] [.inr 0, .inr 1] [.inl 18] follows S4 rfl (by kernel_rfl) ?_ ?_
  · repeat' refine And.intro ?_ ?_
    · trivial
    · exact owe_part rfl wA rfl (k := 0) rfl (by kernel_rfl) rfl (fun ρ w b h => part_gso1 ρ _ _ w b 0 h)
    · exact owe_pload rfl wA rfl (oO 0 35) (k := 0) rfl (by kernel_rfl) rfl (fun ρ w b u h1 h2 h3 => ploadS rfl load1_mat ρ _ _ w b u h1 h2 h3)
    · exact mS 1 1
    · exact owe_aindex rfl wA rfl idx_rows (oO 1 36) (oO 2 37) (vv_at (by omega)) rfl
    · exact owe_aload rfl wA rfl ldr_row1 (by decide) cel_vv (oO 3 38) rfl
    · exact mS 2 2
    · exact owe_aindex rfl wA rfl idx_ints (oO 4 39) (oO 5 40) (zv_at (by omega)) rfl
    · exact owe_aload rfl wA rfl ldr_int (by decide) (cel_shp (by decide) shp_zv) (oO 6 41) rfl
    · exact owe_part rfl wA rfl (k := 0) rfl (by kernel_rfl) rfl (fun ρ w b h => part_gso0 ρ _ _ w b 0 h)
    · exact owe_pload rfl wA rfl (oO 8 43) (k := 0) rfl (by kernel_rfl) rfl (fun ρ w b u h1 h2 h3 => ploadS rfl load1_vec ρ _ _ w b u h1 h2 h3)
    · exact mS 2 2
    · exact b_add_int wA (oO 10 45) (opnd_const _)
    · exact owe_aindex rfl wA rfl idx_ints (oO 9 44) (oO 11 46) (zv_at (by omega)) rfl
    · exact owe_aload rfl wA rfl ldr_int (by decide) (cel_shp (by decide) shp_zv) (oO 12 47) rfl
    · exact cc2 wA (qO 7 42 rfl) (qO 13 48 rfl) (fresh_two (fresh_rn _ _) (fresh_is _)) (fun w u v h1 h2 => g_ratmake (k := K) (k' := K) hd0 (by omega) (by omega) w u v ((fun _ _ h => h) _ _ h1) (by rw [← hd]; exact (fun _ _ h => h) _ _ h2))
    · exact e20 wA (oO 14 49)
    · exact e21 wA (oO 14 49)
    · exact owe_set rfl wA rfl (k := 1) rfl (by kernel_rfl) (oO 15 50) (stores_of strct_rat shp_r0 (shp_pr shp_zn shp_zn)) rfl
    · exact mO 16 51
  intro B5 a5 W5 (S5 : Sta w 52 [(3, (.box 25 (SF [(Vv nD D K), (Mv nL L K)]))), (6, (.box 30 ((RN (nR ((L.getD i []).getD j 0) d0) (dR ((L.getD i []).getD j 0) d0)) w.heap.size)))] [(7, iV 0)] _ _ _)
  refine wp_ret ?_
  exact end_two S5 rfl (res_cell S5 1 6 rfl strct_rat (shp_pr shp_zn shp_zn)) (res_tmp S5 0 7 rfl)

set_option maxHeartbeats 400000 in
theorem rmu_e (w : World) (u : Value) (nD nL K : Nat) (D : List Int) (L : List (List Int)) (h : Hs w (SF [Vv nD D K, Mv nL L K]) u) (hD : nD ≤ 1048576) (hL : nL ≤ 1048576) (hK : K ≤ 1048576) (lD : D.length = nD) (lL : L.length = nL) (i : Nat) :
    Calls Tryz.prog 12 #[u, .int .i64 (i : Nat), .int .i64 (i : Nat)] w (Gives (RN 1 1) w) := by
  refine calls_sta (sl := [(0, (SF [(Vv nD D K), (Mv nL L K)])), (1, (iV (i : Nat))), (2, (iV (i : Nat)))]) Tryz.func12 rfl Tryz.ntmps12 (by simp) (args_cons rfl (h) (args_cons rfl (is_has _) (args_cons rfl (is_has _) args_nil))) ?_
  intro a0 S0
  refine wp_stmt_seq [.new (.box 25 (SF [(Vv nD D K), (Mv nL L K)])), .new (.box 30 zR)] [.inl 0, .inl 1] [.inr 1, .inr 2] follows S0 rfl (by kernel_rfl) ?_ ?_
  · refine ⟨⟨trivial, ?_⟩, ?_⟩
    · exact owe_box rfl wA rfl (oS 0 0) rfl (fun ρ w h => box_gso shp_sf2 ρ _ _ w h)
    · exact owe_new rfl wA rfl rfl (fun ρ w => alloc_rat ρ _ w)
  intro B1 a1 W1 (S1 : Sta w 27 [(3, (.box 25 (SF [(Vv nD D K), (Mv nL L K)]))), (6, (.box 30 zR))] [(1, iV (i : Nat)), (2, iV (i : Nat))] _ _ _)
  refine wp_seq ?_
  refine wp_stmt_seq [.val (iV (i : Nat)), .val (iV (i : Nat)), kT] [.inr 0, .inr 1] [.inl 2, .inr 0, .inr 1] follows S1 rfl (by kernel_rfl) ?_ ?_
  · refine ⟨⟨⟨trivial, ?_⟩, ?_⟩, ?_⟩
    · exact mS 0 1
    · exact mS 1 2
    · exact b_eql_int_t wA (oO 0 7) (oO 1 8)
  intro B2 a2 W2 (S2 : Sta w 27 [(3, (.box 25 (SF [(Vv nD D K), (Mv nL L K)]))), (6, (.box 30 zR))] [(9, bT), (1, iV (i : Nat)), (2, iV (i : Nat))] _ _ _)
  refine wp_cond_true (S2.bool 0 9 rfl) ?_
  refine wp_stmt_seq [.val ((ZN (1)) w.heap.size), .val ((RN 1 1) w.heap.size), .put (.inl 6) (.box 30 ((RN 1 1) w.heap.size))] [.inr 0, .inr 1] [] follows S2 rfl (by kernel_rfl) ?_ ?_
  · refine ⟨⟨⟨trivial, ?_⟩, ?_⟩, ?_⟩
    · exact cc1 wA (opnd_const _) (fresh_zn _) (g_rof 1 (by omega) (by omega))
    · exact cc1 wA (qO 0 10 rfl) (fresh_rn _ _) (fun w u h1 => g_rofG (k := 1) (by omega) w u (zn_zv one_dl _ _ h1))
    · exact owe_set rfl wA rfl (k := 1) rfl (by kernel_rfl) (oO 1 11) (stores_of strct_rat shp_r0 (shp_pr shp_zn shp_zn)) rfl
  intro B3 a3 W3 (S3 : Sta w 27 [(3, (.box 25 (SF [(Vv nD D K), (Mv nL L K)]))), (6, (.box 30 ((RN 1 1) w.heap.size)))] [] _ _ _)
  refine wp_ret ?_
  refine thenR ?_
  exact end_one S3 rfl (res_cell S3 1 6 rfl strct_rat (shp_pr shp_zn shp_zn))

set_option maxHeartbeats 1000000 in
theorem rmu_m (w : World) (u : Value) (nD nL K : Nat) (D : List Int) (L : List (List Int)) (h : Hs w (SF [Vv nD D K, Mv nL L K]) u) (hD : nD ≤ 1048576) (hL : nL ≤ 1048576) (hK : K ≤ 1048576) (lD : D.length = nD) (lL : L.length = nL) (i j : Nat) (d0 : Nat) (g : Good D L) (hi : i < nL) (hj : j < i) (hd : D.getD (j + 1) 0 = (d0 : Int)) (hd0 : d0 ≠ 0) :
    Calls Tryz.prog 12 #[u, .int .i64 (i : Nat), .int .i64 (j : Nat)] w (Gives (RN (nR ((L.getD i []).getD j 0) d0) (dR ((L.getD i []).getD j 0) d0)) w) := by
  have hl := g.len
  have hr := g.row i (by omega)
  refine calls_sta (sl := [(0, (SF [(Vv nD D K), (Mv nL L K)])), (1, (iV (i : Nat))), (2, (iV (j : Nat)))]) Tryz.func12 rfl Tryz.ntmps12 (by simp) (args_cons rfl (h) (args_cons rfl (is_has _) (args_cons rfl (is_has _) args_nil))) ?_
  intro a0 S0
  refine wp_stmt_seq [.new (.box 25 (SF [(Vv nD D K), (Mv nL L K)])), .new (.box 30 zR)] [.inl 0, .inl 1] [.inr 1, .inr 2] follows S0 rfl (by kernel_rfl) ?_ ?_
  · refine ⟨⟨trivial, ?_⟩, ?_⟩
    · exact owe_box rfl wA rfl (oS 0 0) rfl (fun ρ w h => box_gso shp_sf2 ρ _ _ w h)
    · exact owe_new rfl wA rfl rfl (fun ρ w => alloc_rat ρ _ w)
  intro B1 a1 W1 (S1 : Sta w 27 [(3, (.box 25 (SF [(Vv nD D K), (Mv nL L K)]))), (6, (.box 30 zR))] [(1, iV (i : Nat)), (2, iV (j : Nat))] _ _ _)
  refine wp_seq ?_
  refine wp_stmt_seq [.val (iV (i : Nat)), .val (iV (j : Nat)), kF] [.inr 0, .inr 1] [.inl 2, .inr 0, .inr 1] follows S1 rfl (by kernel_rfl) ?_ ?_
  · refine ⟨⟨⟨trivial, ?_⟩, ?_⟩, ?_⟩
    · exact mS 0 1
    · exact mS 1 2
    · exact b_eql_int_f wA (oO 0 7) (oO 1 8)
  intro B2 a2 W2 (S2 : Sta w 27 [(3, (.box 25 (SF [(Vv nD D K), (Mv nL L K)]))), (6, (.box 30 zR))] [(9, bF), (1, iV (i : Nat)), (2, iV (j : Nat))] _ _ _)
  refine wp_cond_false (S2.bool 0 9 rfl) ?_
  refine wp_skip ?_
  refine thenN ?_
  refine wp_stmt_seq [.val (Part a2 3 1), .val (Mv nL L K), .val (iV (i : Nat)), .val (AtE 1 (Vv ((L.getD i []).length) (L.getD i []) K)), .val (Vv ((L.getD i []).length) (L.getD i []) K), .val (iV (j : Nat)), .val (AtE 2 (Zv ((L.getD i []).getD j 0) K)), .val (Zv ((L.getD i []).getD j 0) K), .val (Part a2 3 0), .val (Vv nD D K), .val (iV (j : Nat)), .val (iV ((j + 1 : Nat) : Int)), .val (AtE 2 (Zv (D.getD (j + 1) 0) K)), .val (Zv (D.getD (j + 1) 0) K), .val ((RN (nR ((L.getD i []).getD j 0) d0) (dR ((L.getD i []).getD j 0) d0)) w.heap.size), .put (.inl 6) (.box 30 ((RN (nR ((L.getD i []).getD j 0) d0) (dR ((L.getD i []).getD j 0) d0)) w.heap.size))] [.inr 0, .inr 1] [] follows S2 rfl (by kernel_rfl) ?_ ?_
  · repeat' refine And.intro ?_ ?_
    · trivial
    · exact owe_part rfl wA rfl (k := 0) rfl (by kernel_rfl) rfl (fun ρ w b h => part_gso1 ρ _ _ w b 0 h)
    · exact owe_pload rfl wA rfl (oO 0 12) (k := 0) rfl (by kernel_rfl) rfl (fun ρ w b u h1 h2 h3 => ploadS rfl load1_mat ρ _ _ w b u h1 h2 h3)
    · exact mS 1 1
    · exact owe_aindex rfl wA rfl idx_rows (oO 1 13) (oO 2 14) (vv_at (by omega)) rfl
    · exact owe_aload rfl wA rfl ldr_row1 (by decide) cel_vv (oO 3 15) rfl
    · exact mS 2 2
    · exact owe_aindex rfl wA rfl idx_ints (oO 4 16) (oO 5 17) (zv_at (by omega)) rfl
    · exact owe_aload rfl wA rfl ldr_int (by decide) (cel_shp (by decide) shp_zv) (oO 6 18) rfl
    · exact owe_part rfl wA rfl (k := 0) rfl (by kernel_rfl) rfl (fun ρ w b h => part_gso0 ρ _ _ w b 0 h)
    · exact owe_pload rfl wA rfl (oO 8 20) (k := 0) rfl (by kernel_rfl) rfl (fun ρ w b u h1 h2 h3 => ploadS rfl load1_vec ρ _ _ w b u h1 h2 h3)
    · exact mS 2 2
    · exact b_add_int wA (oO 10 22) (opnd_const _)
    · exact owe_aindex rfl wA rfl idx_ints (oO 9 21) (oO 11 23) (zv_at (by omega)) rfl
    · exact owe_aload rfl wA rfl ldr_int (by decide) (cel_shp (by decide) shp_zv) (oO 12 24) rfl
    · exact cc2 wA (qO 7 19 rfl) (qO 13 25 rfl) (fresh_rn _ _) (fun w u v h1 h2 => g_rmk (k := K) (k' := K) hd0 (by omega) (by omega) w u v ((fun _ _ h => h) _ _ h1) (by rw [← hd]; exact (fun _ _ h => h) _ _ h2))
    · exact owe_set rfl wA rfl (k := 1) rfl (by kernel_rfl) (oO 14 26) (stores_of strct_rat shp_r0 (shp_pr shp_zn shp_zn)) rfl
  intro B3 a3 W3 (S3 : Sta w 27 [(3, (.box 25 (SF [(Vv nD D K), (Mv nL L K)]))), (6, (.box 30 ((RN (nR ((L.getD i []).getD j 0) d0) (dR ((L.getD i []).getD j 0) d0)) w.heap.size)))] [] _ _ _)
  refine wp_ret ?_
  exact end_one S3 rfl (res_cell S3 1 6 rfl strct_rat (shp_pr shp_zn shp_zn))

set_option maxHeartbeats 400000 in
theorem star_b (w : World) (u : Value) (nD nL K : Nat) (D : List Int) (L : List (List Int)) (h : Hs w (SF [Vv nD D K, Mv nL L K]) u) (hD : nD ≤ 1048576) (hL : nL ≤ 1048576) (hK : K ≤ 1048576) (lD : D.length = nD) (lL : L.length = nL) (i : Int) (g : Bad D L) :
    Calls Tryz.prog 6 #[u, .int .i64 i] w (Gives (TWO (IS (.agg #[.bool false, .slice none 0 0, .bool false, .slice none 0 0])) (IS (.int .i64 51))) w) := by
  refine calls_sta (sl := [(0, (SF [(Vv nD D K), (Mv nL L K)])), (1, (iV i))]) Tryz.func6 rfl Tryz.ntmps6 (by simp) (args_cons rfl (h) (args_cons rfl (is_has _) args_nil)) ?_
  intro a0 S0
  refine wp_stmt_seq [.new (.box 25 (SF [(Vv nD D K), (Mv nL L K)])), .new (.box 30 zR), .val (iV 0)] [.inl 0, .inl 1] [.inr 1] follows S0 rfl (by kernel_rfl) ?_ ?_
  · refine ⟨⟨⟨trivial, ?_⟩, ?_⟩, ?_⟩
    · exact owe_box rfl wA rfl (oS 0 0) rfl (fun ρ w h => box_gso shp_sf2 ρ _ _ w h)
    · exact owe_new rfl wA rfl rfl (fun ρ w => alloc_rat ρ _ w)
    · exact mC
  intro B1 a1 W1 (S1 : Sta w 36 [(2, (.box 25 (SF [(Vv nD D K), (Mv nL L K)]))), (4, (.box 30 zR))] [(1, iV i)] _ _ _)
  refine wp_seq ?_
  refine wp_block ?_
  refine wp_stmt_seq [.val (SF [(Vv nD D K), (Mv nL L K)]), kF, kT, kT] [.inr 0, .inr 1] [.inl 3, .inr 0] follows S1 rfl (by kernel_rfl) ?_ ?_
  · refine ⟨⟨⟨⟨trivial, ?_⟩, ?_⟩, ?_⟩, ?_⟩
    · exact lod 0 wA (loads_of strct_gso shp_sf2)
    · exact ch1 wA (qO 0 7 rfl) (fresh_is _) (fun w u h => may_f w u nD nL K D L h hD hL hK lD lL g)
    · exact b_not wA (oO 1 8)
    · exact mO 2 9
  intro B2 a2 W2 (S2 : Sta w 36 [(2, (.box 25 (SF [(Vv nD D K), (Mv nL L K)]))), (4, (.box 30 zR))] [(6, bT), (1, iV i)] _ _ _)
  refine wp_cond_true (S2.bool 0 6 rfl) ?_
  refine wp_stmt_seq [.val zR, .put (.inl 4) (.box 30 zR), .val (iV 51)] [.inr 0, .inr 1] [.inl 2] follows S2 rfl (by kernel_rfl) ?_ ?_
  · refine ⟨⟨⟨trivial, ?_⟩, ?_⟩, ?_⟩
    · exact owe_build_rat rfl wA rfl rfl
    · exact owe_set rfl wA rfl (k := 1) rfl (by kernel_rfl) (oO 0 10) (stores_of strct_rat shp_r0 shp_r0) rfl
    · exact mC
  intro B3 a3 W3 (S3 : Sta w 36 [(2, (.box 25 (SF [(Vv nD D K), (Mv nL L K)]))), (4, (.box 30 zR))] [(5, iV 51)] _ _ _)
  refine wp_ret ?_
  refine inBlkR ?_
  refine thenR ?_
  exact end_two S3 rfl (res_cell S3 1 4 rfl strct_rat shp_r0) (res_tmp S3 0 5 rfl)

set_option maxHeartbeats 400000 in
theorem star_a (w : World) (u : Value) (nD nL K : Nat) (D : List Int) (L : List (List Int)) (h : Hs w (SF [Vv nD D K, Mv nL L K]) u) (hD : nD ≤ 1048576) (hL : nL ≤ 1048576) (hK : K ≤ 1048576) (lD : D.length = nD) (lL : L.length = nL) (i : Int) (g : Good D L) (hp : i < 0 ∨ (0 ≤ i ∧ (nL : Int) ≤ i)) :
    Calls Tryz.prog 6 #[u, .int .i64 i] w (Gives (TWO (IS (.agg #[.bool false, .slice none 0 0, .bool false, .slice none 0 0])) (IS (.int .i64 1))) w) := by
  refine calls_sta (sl := [(0, (SF [(Vv nD D K), (Mv nL L K)])), (1, (iV i))]) Tryz.func6 rfl Tryz.ntmps6 (by simp) (args_cons rfl (h) (args_cons rfl (is_has _) args_nil)) ?_
  intro a0 S0
  refine wp_stmt_seq [.new (.box 25 (SF [(Vv nD D K), (Mv nL L K)])), .new (.box 30 zR), .val (iV 0)] [.inl 0, .inl 1] [.inr 1] follows S0 rfl (by kernel_rfl) ?_ ?_
  · refine ⟨⟨⟨trivial, ?_⟩, ?_⟩, ?_⟩
    · exact owe_box rfl wA rfl (oS 0 0) rfl (fun ρ w h => box_gso shp_sf2 ρ _ _ w h)
    · exact owe_new rfl wA rfl rfl (fun ρ w => alloc_rat ρ _ w)
    · exact mC
  intro B1 a1 W1 (S1 : Sta w 36 [(2, (.box 25 (SF [(Vv nD D K), (Mv nL L K)]))), (4, (.box 30 zR))] [(1, iV i)] _ _ _)
  refine wp_seq ?_
  refine wp_block ?_
  refine wp_stmt_seq [.val (SF [(Vv nD D K), (Mv nL L K)]), kT, kF, kF] [.inr 0, .inr 1] [.inl 3, .inr 0] follows S1 rfl (by kernel_rfl) ?_ ?_
  · refine ⟨⟨⟨⟨trivial, ?_⟩, ?_⟩, ?_⟩, ?_⟩
    · exact lod 0 wA (loads_of strct_gso shp_sf2)
    · exact ch1 wA (qO 0 7 rfl) (fresh_is _) (fun w u h => may_t w u nD nL K D L h hD hL hK lD lL g)
    · exact b_not wA (oO 1 8)
    · exact mO 2 9
  intro B2 a2 W2 (S2 : Sta w 36 [(2, (.box 25 (SF [(Vv nD D K), (Mv nL L K)]))), (4, (.box 30 zR))] [(6, bF), (1, iV i)] _ _ _)
  refine wp_cond_false (S2.bool 0 6 rfl) ?_
  rcases hp with hp | ⟨hp, hq⟩
  · skip
    refine wp_stmt_seq [.val (iV i), kT, kT, .off, .off, .off, .off, .off, kT, kT] [.inr 0, .inr 1] [.inl 9, .inr 1] follows S2 rfl (by kernel_rfl) ?_ ?_
    · repeat' refine And.intro ?_ ?_
      · trivial
      · exact mS 1 1
      · exact b_lss_int_t wA (oO 0 12) (opnd_const _)
      · exact mO 1 13
      · exact oF 2 14
      · exact oF 2 14
      · exact oF 2 14
      · exact oF 2 14
      · exact oF 2 14
      · exact pT wA (oO 2 14) (opnd_const _)
      · exact mO 8 20
    intro B3 a3 W3 (S3 : Sta w 36 [(2, (.box 25 (SF [(Vv nD D K), (Mv nL L K)]))), (4, (.box 30 zR))] [(11, bT), (1, iV i)] _ _ _)
    refine wp_cond_true (S3.bool 0 11 rfl) ?_
    refine wp_stmt_seq [.val zR, .put (.inl 4) (.box 30 zR), .val (iV 1)] [.inr 0, .inr 1] [.inl 2] follows S3 rfl (by kernel_rfl) ?_ ?_
    · refine ⟨⟨⟨trivial, ?_⟩, ?_⟩, ?_⟩
      · exact owe_build_rat rfl wA rfl rfl
      · exact owe_set rfl wA rfl (k := 1) rfl (by kernel_rfl) (oO 0 21) (stores_of strct_rat shp_r0 shp_r0) rfl
      · exact mC
    intro B4 a4 W4 (S4 : Sta w 36 [(2, (.box 25 (SF [(Vv nD D K), (Mv nL L K)]))), (4, (.box 30 zR))] [(5, iV 1)] _ _ _)
    refine wp_ret ?_
    refine inBlkR ?_
    refine thenR ?_
    exact end_two S4 rfl (res_cell S4 1 4 rfl strct_rat shp_r0) (res_tmp S4 0 5 rfl)
  · skip
    refine wp_stmt_seq [.val (iV i), kF, kF, .val (iV i), .val (Part a2 2 1), .val (Mv nL L K), .val (iV (nL : Nat)), kT, kT, kT] [.inr 0, .inr 1] [.inl 9, .inr 1] follows S2 rfl (by kernel_rfl) ?_ ?_
    · repeat' refine And.intro ?_ ?_
      · trivial
      · exact mS 1 1
      · exact b_lss_int_f wA (oO 0 12) (opnd_const _)
      · exact mO 1 13
      · exact mW (wI 2 14) (oS 1 1)
      · exact owe_part rfl (wI 2 14) rfl (k := 0) rfl (by kernel_rfl) rfl (fun ρ w b h => part_gso1 ρ _ _ w b 0 h)
      · exact owe_pload rfl (wI 2 14) rfl (oO 4 16) (k := 0) rfl (by kernel_rfl) rfl (fun ρ w b u h1 h2 h3 => ploadS rfl load1_mat ρ _ _ w b u h1 h2 h3)
      · exact owe_len rfl (wI 2 14) rfl (oO 5 17) ar_len Tryz.underlying23 rfl
      · exact b_geq_int_t (wI 2 14) (oO 3 15) (oO 6 18)
      · exact pF wA (oO 2 14) (oO 7 19)
      · exact mO 8 20
    intro B3 a3 W3 (S3 : Sta w 36 [(2, (.box 25 (SF [(Vv nD D K), (Mv nL L K)]))), (4, (.box 30 zR))] [(11, bT), (1, iV i)] _ _ _)
    refine wp_cond_true (S3.bool 0 11 rfl) ?_
    refine wp_stmt_seq [.val zR, .put (.inl 4) (.box 30 zR), .val (iV 1)] [.inr 0, .inr 1] [.inl 2] follows S3 rfl (by kernel_rfl) ?_ ?_
    · refine ⟨⟨⟨trivial, ?_⟩, ?_⟩, ?_⟩
      · exact owe_build_rat rfl wA rfl rfl
      · exact owe_set rfl wA rfl (k := 1) rfl (by kernel_rfl) (oO 0 21) (stores_of strct_rat shp_r0 shp_r0) rfl
      · exact mC
    intro B4 a4 W4 (S4 : Sta w 36 [(2, (.box 25 (SF [(Vv nD D K), (Mv nL L K)]))), (4, (.box 30 zR))] [(5, iV 1)] _ _ _)
    refine wp_ret ?_
    refine inBlkR ?_
    refine thenR ?_
    exact end_two S4 rfl (res_cell S4 1 4 rfl strct_rat shp_r0) (res_tmp S4 0 5 rfl)

set_option maxHeartbeats 1000000 in
theorem star_m (w : World) (u : Value) (nD nL K : Nat) (D : List Int) (L : List (List Int)) (h : Hs w (SF [Vv nD D K, Mv nL L K]) u) (hD : nD ≤ 1048576) (hL : nL ≤ 1048576) (hK : K ≤ 1048576) (lD : D.length = nD) (lL : L.length = nL) (i d0 : Nat) (g : Good D L) (hi : i < nL) (hd : D.getD i 0 = (d0 : Int)) (hd0 : d0 ≠ 0) :
    Calls Tryz.prog 6 #[u, .int .i64 (i : Nat)] w (Gives (TWO (RN (nR (D.getD (i + 1) 0) d0) (dR (D.getD (i + 1) 0) d0)) (IS (.int .i64 0))) w) := by
  have hl := g.len
  refine calls_sta (sl := [(0, (SF [(Vv nD D K), (Mv nL L K)])), (1, (iV (i : Nat)))]) Tryz.func6 rfl Tryz.ntmps6 (by simp) (args_cons rfl (h) (args_cons rfl (is_has _) args_nil)) ?_
  intro a0 S0
  refine wp_stmt_seq [.new (.box 25 (SF [(Vv nD D K), (Mv nL L K)])), .new (.box 30 zR), .val (iV 0)] [.inl 0, .inl 1] [.inr 1] follows S0 rfl (by kernel_rfl) ?_ ?_
  · refine ⟨⟨⟨trivial, ?_⟩, ?_⟩, ?_⟩
    · exact owe_box rfl wA rfl (oS 0 0) rfl (fun ρ w h => box_gso shp_sf2 ρ _ _ w h)
    · exact owe_new rfl wA rfl rfl (fun ρ w => alloc_rat ρ _ w)
    · exact mC
  intro B1 a1 W1 (S1 : Sta w 36 [(2, (.box 25 (SF [(Vv nD D K), (Mv nL L K)]))), (4, (.box 30 zR))] [(1, iV (i : Nat))] _ _ _)
  refine wp_seq ?_
  refine wp_block ?_
  refine wp_stmt_seq [.val (SF [(Vv nD D K), (Mv nL L K)]), kT, kF, kF] [.inr 0, .inr 1] [.inl 3, .inr 0] follows S1 rfl (by kernel_rfl) ?_ ?_
  · refine ⟨⟨⟨⟨trivial, ?_⟩, ?_⟩, ?_⟩, ?_⟩
    · exact lod 0 wA (loads_of strct_gso shp_sf2)
    · exact ch1 wA (qO 0 7 rfl) (fresh_is _) (fun w u h => may_t w u nD nL K D L h hD hL hK lD lL g)
    · exact b_not wA (oO 1 8)
    · exact mO 2 9
  intro B2 a2 W2 (S2 : Sta w 36 [(2, (.box 25 (SF [(Vv nD D K), (Mv nL L K)]))), (4, (.box 30 zR))] [(6, bF), (1, iV (i : Nat))] _ _ _)
  refine wp_cond_false (S2.bool 0 6 rfl) ?_
  refine wp_stmt_seq [.val (iV (i : Nat)), kF, kF, .val (iV (i : Nat)), .val (Part a2 2 1), .val (Mv nL L K), .val (iV (nL : Nat)), kF, kF, kF] [.inr 0, .inr 1] [.inl 9, .inr 1] follows S2 rfl (by kernel_rfl) ?_ ?_
  · repeat' refine And.intro ?_ ?_
    · trivial
    · exact mS 1 1
    · exact b_lss_int_f wA (oO 0 12) (opnd_const _)
    · exact mO 1 13
    · exact mW (wI 2 14) (oS 1 1)
    · exact owe_part rfl (wI 2 14) rfl (k := 0) rfl (by kernel_rfl) rfl (fun ρ w b h => part_gso1 ρ _ _ w b 0 h)
    · exact owe_pload rfl (wI 2 14) rfl (oO 4 16) (k := 0) rfl (by kernel_rfl) rfl (fun ρ w b u h1 h2 h3 => ploadS rfl load1_mat ρ _ _ w b u h1 h2 h3)
    · exact owe_len rfl (wI 2 14) rfl (oO 5 17) ar_len Tryz.underlying23 rfl
    · exact b_geq_int_f (wI 2 14) (oO 3 15) (oO 6 18)
    · exact pF wA (oO 2 14) (oO 7 19)
    · exact mO 8 20
  intro B3 a3 W3 (S3 : Sta w 36 [(2, (.box 25 (SF [(Vv nD D K), (Mv nL L K)]))), (4, (.box 30 zR))] [(11, bF), (1, iV (i : Nat))] _ _ _)
  refine wp_cond_false (S3.bool 0 11 rfl) ?_
  refine wp_skip ?_
  refine inBlkN ?_
  refine thenN ?_
  refine wp_stmt_seq [.val (Part a3 2 0), .val (Vv nD D K), .val (iV (i : Nat)), .val (iV ((i + 1 : Nat) : Int)), .val (AtE 2 (Zv (D.getD (i + 1) 0) K)), .val (Zv (D.getD (i + 1) 0) K), .val (Part a3 2 0), .val (Vv nD D K), .val (iV (i : Nat)), .val (AtE 2 (Zv (D.getD i 0) K)), .val (Zv (D.getD i 0) K), .val ((TWO (RN (nR (D.getD (i + 1) 0) d0) (dR (D.getD (i + 1) 0) d0)) (IS (.int .i64 0))) w.heap.size), .val ((RN (nR (D.getD (i + 1) 0) d0) (dR (D.getD (i + 1) 0) d0)) w.heap.size), .val (iV 0), .put (.inl 4) (.box 30 ((RN (nR (D.getD (i + 1) 0) d0) (dR (D.getD (i + 1) 0) d0)) w.heap.size)), .val (iV 0)] [.inr 0, .inr 1] [.inl 15] follows S3 rfl (by kernel_rfl) ?_ ?_
  · repeat' refine And.intro ?_ ?_
    · trivial
    · exact owe_part rfl wA rfl (k := 0) rfl (by kernel_rfl) rfl (fun ρ w b h => part_gso0 ρ _ _ w b 0 h)
    · exact owe_pload rfl wA rfl (oO 0 22) (k := 0) rfl (by kernel_rfl) rfl (fun ρ w b u h1 h2 h3 => ploadS rfl load1_vec ρ _ _ w b u h1 h2 h3)
    · exact mS 1 1
    · exact b_add_int wA (oO 2 24) (opnd_const _)
    · exact owe_aindex rfl wA rfl idx_ints (oO 1 23) (oO 3 25) (zv_at (by omega)) rfl
    · exact owe_aload rfl wA rfl ldr_int (by decide) (cel_shp (by decide) shp_zv) (oO 4 26) rfl
    · exact owe_part rfl wA rfl (k := 0) rfl (by kernel_rfl) rfl (fun ρ w b h => part_gso0 ρ _ _ w b 0 h)
    · exact owe_pload rfl wA rfl (oO 6 28) (k := 0) rfl (by kernel_rfl) rfl (fun ρ w b u h1 h2 h3 => ploadS rfl load1_vec ρ _ _ w b u h1 h2 h3)
    · exact mS 1 1
    · exact owe_aindex rfl wA rfl idx_ints (oO 7 29) (oO 8 30) (zv_at (by omega)) rfl
    · exact owe_aload rfl wA rfl ldr_int (by decide) (cel_shp (by decide) shp_zv) (oO 9 31) rfl
    · exact cc2 wA (qO 5 27 rfl) (qO 10 32 rfl) (fresh_two (fresh_rn _ _) (fresh_is _)) (fun w u v h1 h2 => g_ratmake (k := K) (k' := K) hd0 (by omega) (by omega) w u v ((fun _ _ h => h) _ _ h1) (by rw [← hd]; exact (fun _ _ h => h) _ _ h2))
    · exact e20 wA (oO 11 33)
    · exact e21 wA (oO 11 33)
    · exact owe_set rfl wA rfl (k := 1) rfl (by kernel_rfl) (oO 12 34) (stores_of strct_rat shp_r0 (shp_pr shp_zn shp_zn)) rfl
    · exact mO 13 35
  intro B4 a4 W4 (S4 : Sta w 36 [(2, (.box 25 (SF [(Vv nD D K), (Mv nL L K)]))), (4, (.box 30 ((RN (nR (D.getD (i + 1) 0) d0) (dR (D.getD (i + 1) 0) d0)) w.heap.size)))] [(5, iV 0)] _ _ _)
  refine wp_ret ?_
  exact end_two S4 rfl (res_cell S4 1 4 rfl strct_rat (shp_pr shp_zn shp_zn)) (res_tmp S4 0 5 rfl)

set_option maxHeartbeats 1000000 in
theorem rstar_m (w : World) (u : Value) (nD nL K : Nat) (D : List Int) (L : List (List Int)) (h : Hs w (SF [Vv nD D K, Mv nL L K]) u) (hD : nD ≤ 1048576) (hL : nL ≤ 1048576) (hK : K ≤ 1048576) (lD : D.length = nD) (lL : L.length = nL) (i d0 : Nat) (g : Good D L) (hi : i < nL) (hd : D.getD i 0 = (d0 : Int)) (hd0 : d0 ≠ 0) :
    Calls Tryz.prog 10 #[u, .int .i64 (i : Nat)] w (Gives (RN (nR (D.getD (i + 1) 0) d0) (dR (D.getD (i + 1) 0) d0)) w) := by
  have hl := g.len
  refine calls_sta (sl := [(0, (SF [(Vv nD D K), (Mv nL L K)])), (1, (iV (i : Nat)))]) Tryz.func10 rfl Tryz.ntmps10 (by simp) (args_cons rfl (h) (args_cons rfl (is_has _) args_nil)) ?_
  intro a0 S0
  refine wp_stmt_seq [.new (.box 25 (SF [(Vv nD D K), (Mv nL L K)])), .new (.box 30 zR)] [.inl 0, .inl 1] [.inr 1] follows S0 rfl (by kernel_rfl) ?_ ?_
  · refine ⟨⟨trivial, ?_⟩, ?_⟩
    · exact owe_box rfl wA rfl (oS 0 0) rfl (fun ρ w h => box_gso shp_sf2 ρ _ _ w h)
    · exact owe_new rfl wA rfl rfl (fun ρ w => alloc_rat ρ _ w)
  intro B1 a1 W1 (S1 : Sta w 17 [(2, (.box 25 (SF [(Vv nD D K), (Mv nL L K)]))), (4, (.box 30 zR))] [(1, iV (i : Nat))] _ _ _)
  refine wp_stmt_seq [.val (Part a1 2 0), .val (Vv nD D K), .val (iV (i : Nat)), .val (iV ((i + 1 : Nat) : Int)), .val (AtE 2 (Zv (D.getD (i + 1) 0) K)), .val (Zv (D.getD (i + 1) 0) K), .val (Part a1 2 0), .val (Vv nD D K), .val (iV (i : Nat)), .val (AtE 2 (Zv (D.getD i 0) K)), .val (Zv (D.getD i 0) K), .val ((RN (nR (D.getD (i + 1) 0) d0) (dR (D.getD (i + 1) 0) d0)) w.heap.size), .put (.inl 4) (.box 30 ((RN (nR (D.getD (i + 1) 0) d0) (dR (D.getD (i + 1) 0) d0)) w.heap.size))] [.inr 0, .inr 1] [] follows S1 rfl (by kernel_rfl) ?_ ?_
  · repeat' refine And.intro ?_ ?_
    · trivial
    · exact owe_part rfl wA rfl (k := 0) rfl (by kernel_rfl) rfl (fun ρ w b h => part_gso0 ρ _ _ w b 0 h)
    · exact owe_pload rfl wA rfl (oO 0 5) (k := 0) rfl (by kernel_rfl) rfl (fun ρ w b u h1 h2 h3 => ploadS rfl load1_vec ρ _ _ w b u h1 h2 h3)
    · exact mS 0 1
    · exact b_add_int wA (oO 2 7) (opnd_const _)
    · exact owe_aindex rfl wA rfl idx_ints (oO 1 6) (oO 3 8) (zv_at (by omega)) rfl
    · exact owe_aload rfl wA rfl ldr_int (by decide) (cel_shp (by decide) shp_zv) (oO 4 9) rfl
    · exact owe_part rfl wA rfl (k := 0) rfl (by kernel_rfl) rfl (fun ρ w b h => part_gso0 ρ _ _ w b 0 h)
    · exact owe_pload rfl wA rfl (oO 6 11) (k := 0) rfl (by kernel_rfl) rfl (fun ρ w b u h1 h2 h3 => ploadS rfl load1_vec ρ _ _ w b u h1 h2 h3)
    · exact mS 0 1
    · exact owe_aindex rfl wA rfl idx_ints (oO 7 12) (oO 8 13) (zv_at (by omega)) rfl
    · exact owe_aload rfl wA rfl ldr_int (by decide) (cel_shp (by decide) shp_zv) (oO 9 14) rfl
    · exact cc2 wA (qO 5 10 rfl) (qO 10 15 rfl) (fresh_rn _ _) (fun w u v h1 h2 => g_rmk (k := K) (k' := K) hd0 (by omega) (by omega) w u v ((fun _ _ h => h) _ _ h1) (by rw [← hd]; exact (fun _ _ h => h) _ _ h2))
    · exact owe_set rfl wA rfl (k := 1) rfl (by kernel_rfl) (oO 11 16) (stores_of strct_rat shp_r0 (shp_pr shp_zn shp_zn)) rfl
  intro B2 a2 W2 (S2 : Sta w 17 [(2, (.box 25 (SF [(Vv nD D K), (Mv nL L K)]))), (4, (.box 30 ((RN (nR (D.getD (i + 1) 0) d0) (dR (D.getD (i + 1) 0) d0)) w.heap.size)))] [] _ _ _)
  refine wp_ret ?_
  exact end_one S2 rfl (res_cell S2 1 4 rfl strct_rat (shp_pr shp_zn shp_zn))

set_option maxHeartbeats 400000 in
theorem place_t (w : World) (u : Value) (nD nL K : Nat) (D : List Int) (L : List (List Int)) (h : Hs w (SF [Vv nD D K, Mv nL L K]) u) (hD : nD ≤ 1048576) (hL : nL ≤ 1048576) (hK : K ≤ 1048576) (lD : D.length = nD) (lL : L.length = nL) (i j : Nat) (hi : i < nL) (hj : j ≤ i) :
    Calls Tryz.prog 11 #[u, .int .i64 (i : Nat), .int .i64 (j : Nat)] w (Gives (IS (.bool true)) w) := by
  refine calls_sta (sl := [(0, (SF [(Vv nD D K), (Mv nL L K)])), (1, (iV (i : Nat))), (2, (iV (j : Nat)))]) Tryz.func11 rfl Tryz.ntmps11 (by simp) (args_cons rfl (h) (args_cons rfl (is_has _) (args_cons rfl (is_has _) args_nil))) ?_
  intro a0 S0
  refine wp_stmt_seq [.new (.box 25 (SF [(Vv nD D K), (Mv nL L K)])), kF] [.inl 0] [.inr 1, .inr 2] follows S0 rfl (by kernel_rfl) ?_ ?_
  · refine ⟨⟨trivial, ?_⟩, ?_⟩
    · exact owe_box rfl wA rfl (oS 0 0) rfl (fun ρ w h => box_gso shp_sf2 ρ _ _ w h)
    · exact mC
  intro B1 a1 W1 (S1 : Sta w 21 [(3, (.box 25 (SF [(Vv nD D K), (Mv nL L K)])))] [(1, iV (i : Nat)), (2, iV (j : Nat))] _ _ _)
  refine wp_stmt_seq [.val (iV (j : Nat)), kT, kT, .val (iV (j : Nat)), .val (iV (i : Nat)), kT, kT, kT, .val (iV (i : Nat)), .val (Part a1 3 1), .val (Mv nL L K), .val (iV (nL : Nat)), kT, kT, kT] [.inr 0] [.inl 14] follows S1 rfl (by kernel_rfl) ?_ ?_
  · repeat' refine And.intro ?_ ?_
    · trivial
    · exact mS 1 2
    · exact b_geq_int_t wA (oO 0 7) (opnd_const _)
    · exact mO 1 8
    · exact mW (wI 2 9) (oS 1 2)
    · exact mW (wI 2 9) (oS 0 1)
    · exact b_leq_int_t (wI 2 9) (oO 3 10) (oO 4 11)
    · exact pT wA (oO 2 9) (oO 5 12)
    · exact mO 6 13
    · exact mW (wI 7 14) (oS 0 1)
    · exact owe_part rfl (wI 7 14) rfl (k := 0) rfl (by kernel_rfl) rfl (fun ρ w b h => part_gso1 ρ _ _ w b 0 h)
    · exact owe_pload rfl (wI 7 14) rfl (oO 9 16) (k := 0) rfl (by kernel_rfl) rfl (fun ρ w b u h1 h2 h3 => ploadS rfl load1_mat ρ _ _ w b u h1 h2 h3)
    · exact owe_len rfl (wI 7 14) rfl (oO 10 17) ar_len Tryz.underlying23 rfl
    · exact b_lss_int_t (wI 7 14) (oO 8 15) (oO 11 18)
    · exact pT wA (oO 7 14) (oO 12 19)
    · exact mO 13 20
  intro B2 a2 W2 (S2 : Sta w 21 [(3, (.box 25 (SF [(Vv nD D K), (Mv nL L K)])))] [(6, bT)] _ _ _)
  refine wp_ret ?_
  exact end_one S2 rfl (res_tmp S2 0 6 rfl)

set_option maxHeartbeats 400000 in
theorem place_f (w : World) (u : Value) (nD nL K : Nat) (D : List Int) (L : List (List Int)) (h : Hs w (SF [Vv nD D K, Mv nL L K]) u) (hD : nD ≤ 1048576) (hL : nL ≤ 1048576) (hK : K ≤ 1048576) (lD : D.length = nD) (lL : L.length = nL) (i j : Int) (hp : j < 0 ∨ (0 ≤ j ∧ i < j) ∨ (0 ≤ j ∧ j ≤ i ∧ (nL : Int) ≤ i)) :
    Calls Tryz.prog 11 #[u, .int .i64 i, .int .i64 j] w (Gives (IS (.bool false)) w) := by
  refine calls_sta (sl := [(0, (SF [(Vv nD D K), (Mv nL L K)])), (1, (iV i)), (2, (iV j))]) Tryz.func11 rfl Tryz.ntmps11 (by simp) (args_cons rfl (h) (args_cons rfl (is_has _) (args_cons rfl (is_has _) args_nil))) ?_
  intro a0 S0
  refine wp_stmt_seq [.new (.box 25 (SF [(Vv nD D K), (Mv nL L K)])), kF] [.inl 0] [.inr 1, .inr 2] follows S0 rfl (by kernel_rfl) ?_ ?_
  · refine ⟨⟨trivial, ?_⟩, ?_⟩
    · exact owe_box rfl wA rfl (oS 0 0) rfl (fun ρ w h => box_gso shp_sf2 ρ _ _ w h)
    · exact mC
  intro B1 a1 W1 (S1 : Sta w 21 [(3, (.box 25 (SF [(Vv nD D K), (Mv nL L K)])))] [(1, iV i), (2, iV j)] _ _ _)
  rcases hp with hp | ⟨hp, hq⟩ | ⟨hp, hq, hr⟩
  · skip
    refine wp_stmt_seq [.val (iV j), kF, kF, .off, .off, .off, kF, kF, .off, .off, .off, .off, .off, kF, kF] [.inr 0] [.inl 14] follows S1 rfl (by kernel_rfl) ?_ ?_
    · repeat' refine And.intro ?_ ?_
      · trivial
      · exact mS 1 2
      · exact b_geq_int_f wA (oO 0 7) (opnd_const _)
      · exact mO 1 8
      · exact oF 2 9
      · exact oF 2 9
      · exact oF 2 9
      · exact pF wA (oO 2 9) (opnd_const _)
      · exact mO 6 13
      · exact oF 7 14
      · exact oF 7 14
      · exact oF 7 14
      · exact oF 7 14
      · exact oF 7 14
      · exact pF wA (oO 7 14) (opnd_const _)
      · exact mO 13 20
    intro B2 a2 W2 (S2 : Sta w 21 [(3, (.box 25 (SF [(Vv nD D K), (Mv nL L K)])))] [(6, bF)] _ _ _)
    refine wp_ret ?_
    exact end_one S2 rfl (res_tmp S2 0 6 rfl)
  · skip
    refine wp_stmt_seq [.val (iV j), kT, kT, .val (iV j), .val (iV i), kF, kF, kF, .off, .off, .off, .off, .off, kF, kF] [.inr 0] [.inl 14] follows S1 rfl (by kernel_rfl) ?_ ?_
    · repeat' refine And.intro ?_ ?_
      · trivial
      · exact mS 1 2
      · exact b_geq_int_t wA (oO 0 7) (opnd_const _)
      · exact mO 1 8
      · exact mW (wI 2 9) (oS 1 2)
      · exact mW (wI 2 9) (oS 0 1)
      · exact b_leq_int_f (wI 2 9) (oO 3 10) (oO 4 11)
      · exact pT wA (oO 2 9) (oO 5 12)
      · exact mO 6 13
      · exact oF 7 14
      · exact oF 7 14
      · exact oF 7 14
      · exact oF 7 14
      · exact oF 7 14
      · exact pF wA (oO 7 14) (opnd_const _)
      · exact mO 13 20
    intro B2 a2 W2 (S2 : Sta w 21 [(3, (.box 25 (SF [(Vv nD D K), (Mv nL L K)])))] [(6, bF)] _ _ _)
    refine wp_ret ?_
    exact end_one S2 rfl (res_tmp S2 0 6 rfl)
  · skip
    refine wp_stmt_seq [.val (iV j), kT, kT, .val (iV j), .val (iV i), kT, kT, kT, .val (iV i), .val (Part a1 3 1), .val (Mv nL L K), .val (iV (nL : Nat)), kF, kF, kF] [.inr 0] [.inl 14] follows S1 rfl (by kernel_rfl) ?_ ?_
    · repeat' refine And.intro ?_ ?_
      · trivial
      · exact mS 1 2
      · exact b_geq_int_t wA (oO 0 7) (opnd_const _)
      · exact mO 1 8
      · exact mW (wI 2 9) (oS 1 2)
      · exact mW (wI 2 9) (oS 0 1)
      · exact b_leq_int_t (wI 2 9) (oO 3 10) (oO 4 11)
      · exact pT wA (oO 2 9) (oO 5 12)
      · exact mO 6 13
      · exact mW (wI 7 14) (oS 0 1)
      · exact owe_part rfl (wI 7 14) rfl (k := 0) rfl (by kernel_rfl) rfl (fun ρ w b h => part_gso1 ρ _ _ w b 0 h)
      · exact owe_pload rfl (wI 7 14) rfl (oO 9 16) (k := 0) rfl (by kernel_rfl) rfl (fun ρ w b u h1 h2 h3 => ploadS rfl load1_mat ρ _ _ w b u h1 h2 h3)
      · exact owe_len rfl (wI 7 14) rfl (oO 10 17) ar_len Tryz.underlying23 rfl
      · exact b_lss_int_f (wI 7 14) (oO 8 15) (oO 11 18)
      · exact pT wA (oO 7 14) (oO 12 19)
      · exact mO 13 20
    intro B2 a2 W2 (S2 : Sta w 21 [(3, (.box 25 (SF [(Vv nD D K), (Mv nL L K)])))] [(6, bF)] _ _ _)
    refine wp_ret ?_
    exact end_one S2 rfl (res_tmp S2 0 6 rfl)

end Go.Proofs.YtkiholgfamfgeaaGreat

/-
  GsoParts' walk.
-/
namespace Go.Proofs.YtkiholgfamfgeaaGreat
open Go Go.RowKit Nt
set_option linter.unusedSimpArgs false
set_option linter.unusedVariables false
set_option maxRecDepth 20000

set_option maxHeartbeats 4000000 in
theorem parts_1 (w : World) (u : Value) (nD nL K : Nat) (D : List Int) (L : List (List Int)) (h : Hs w (SF [Vv nD D K, Mv nL L K]) u) (hD : nD ≤ 1048576) (hL : nL ≤ 1048576) (hK : K ≤ 1048576) (lD : D.length = nD) (lL : L.length = nL) (i j : Int) (g : Bad D L) :
    Calls Tryz.prog 3 #[u, .int .i64 i, .int .i64 j] w (Gives (IS (.bool true)) w) := by
  refine calls_sta (sl := [(0, (SF [(Vv nD D K), (Mv nL L K)])), (1, (iV i)), (2, (iV j))]) Tryz.func3 rfl Tryz.ntmps3 (by simp) (args_cons rfl (h) (args_cons rfl (is_has _) (args_cons rfl (is_has _) args_nil))) ?_
  intro a0 S0
  refine wp_stmt_seq [.new (.box 25 (SF [(Vv nD D K), (Mv nL L K)])), kF] [.inl 0] [.inr 1, .inr 2] follows S0 rfl (by kernel_rfl) ?_ ?_
  · refine ⟨⟨trivial, ?_⟩, ?_⟩
    · exact owe_box rfl wA rfl (oS 0 0) rfl (fun ρ w h => box_gso shp_sf2 ρ _ _ w h)
    · exact mC
  intro B1 a1 W1 (S1 : Sta w 101 [(3, (.box 25 (SF [(Vv nD D K), (Mv nL L K)])))] [(1, iV i), (2, iV j)] _ _ _)
  refine wp_stmt_seq [.val (SF [(Vv nD D K), (Mv nL L K)]), .val (iV i), .val (iV j), .val ((TWO (IS (.agg #[.bool false, .slice none 0 0, .bool false, .slice none 0 0])) (IS (.int .i64 51))) w.heap.size), .val ((TWO (IS (.agg #[.bool false, .slice none 0 0, .bool false, .slice none 0 0])) (IS (.int .i64 51))) w.heap.size), .val zR, .val (iV 51), .new (.box 30 zR), .put (.inr 7) (.box 30 zR), .val (iV 51)] [.inr 0, .inl 7] [.inl 9, .inr 0, .inr 1] follows S1 rfl (by kernel_rfl) ?_ ?_
  · repeat' refine And.intro ?_ ?_
    · trivial
    · exact lod 0 wA (loads_of strct_gso shp_sf2)
    · exact mS 0 1
    · exact mS 1 2
    · exact ch3 wA (qO 0 12 rfl) (qO 1 13 rfl) (qO 2 14 rfl) (fresh_two (fresh_is _) (fresh_is _)) (fun w u0 u1 u2 h0 h1 h2 => by obtain rfl : u1 = _ := h1.now; obtain rfl : u2 = _ := h2.now; have h := h0; exact mu_b w u0 nD nL K D L h hD hL hK lD lL i j g)
    · exact mO 3 15
    · exact e20 wA (oO 4 11)
    · exact e21 wA (oO 4 11)
    · exact owe_new rfl wA rfl rfl (fun ρ w => alloc_rat ρ _ w)
    · exact owe_put 7 rfl wA rfl (by kernel_rfl) rfl (oO 5 16) (stores_of strct_rat shp_r0 shp_r0) rfl
    · exact mO 6 17
  intro B2 a2 W2 (S2 : Sta w 101 [(3, (.box 25 (SF [(Vv nD D K), (Mv nL L K)]))), (7, (.box 30 zR))] [(8, iV 51), (1, iV i), (2, iV j)] _ _ _)
  refine wp_stmt_seq [.val (SF [(Vv nD D K), (Mv nL L K)]), .val (iV i), .val ((TWO (IS (.agg #[.bool false, .slice none 0 0, .bool false, .slice none 0 0])) (IS (.int .i64 51))) w.heap.size), .val ((TWO (IS (.agg #[.bool false, .slice none 0 0, .bool false, .slice none 0 0])) (IS (.int .i64 51))) w.heap.size), .val zR, .val (iV 51), .new (.box 30 zR), .put (.inr 6) (.box 30 zR), .val (iV 51)] [.inr 0, .inr 1, .inl 6] [.inl 8, .inr 0, .inr 1, .inr 2] follows S2 rfl (by kernel_rfl) ?_ ?_
  · repeat' refine And.intro ?_ ?_
    · trivial
    · exact lod 0 wA (loads_of strct_gso shp_sf2)
    · exact mS 1 1
    · exact ch2 wA (qO 0 19 rfl) (qO 1 20 rfl) (fresh_two (fresh_is _) (fresh_is _)) (fun w u0 u1 h0 h1 => by obtain rfl : u1 = _ := h1.now; have h := h0; exact star_b w u0 nD nL K D L h hD hL hK lD lL i g)
    · exact mO 2 21
    · exact e20 wA (oO 3 18)
    · exact e21 wA (oO 3 18)
    · exact owe_new rfl wA rfl rfl (fun ρ w => alloc_rat ρ _ w)
    · exact owe_put 6 rfl wA rfl (by kernel_rfl) rfl (oO 4 22) (stores_of strct_rat shp_r0 shp_r0) rfl
    · exact mO 5 23
  intro B3 a3 W3 (S3 : Sta w 101 [(3, (.box 25 (SF [(Vv nD D K), (Mv nL L K)]))), (7, (.box 30 zR)), (9, (.box 30 zR))] [(10, iV 51), (8, iV 51), (1, iV i), (2, iV j)] _ _ _)
  refine wp_seq ?_
  refine wp_stmt_seq [.val (SF [(Vv nD D K), (Mv nL L K)]), kF, kT] [.inr 0, .inr 1, .inr 2] [.inl 2, .inr 0, .inr 1, .inr 2, .inr 3] follows S3 rfl (by kernel_rfl) ?_ ?_
  · refine ⟨⟨⟨trivial, ?_⟩, ?_⟩, ?_⟩
    · exact lod 0 wA (loads_of strct_gso shp_sf2)
    · exact ch1 wA (qO 0 24 rfl) (fresh_is _) (fun w u0 h0 => by  have h := h0; exact good_f w u0 nD nL K D L h hD hL hK lD lL g)
    · exact b_not wA (oO 1 25)
  intro B4 a4 W4 (S4 : Sta w 101 [(3, (.box 25 (SF [(Vv nD D K), (Mv nL L K)]))), (7, (.box 30 zR)), (9, (.box 30 zR))] [(26, bT), (10, iV 51), (8, iV 51), (1, iV i), (2, iV j)] _ _ _)
  refine wp_cond_true (S4.bool 0 26 rfl) ?_
  refine wp_stmt_seq [.val (iV 51), kT, kT, .val (iV 51), kT, kT, kT, .val zR, .val zR, kT, kT, kT, .val zR, .val zR, kT, kT, kT, kT, kT, kT] [.inr 0] [.inl 19] follows S4 rfl (by kernel_rfl) ?_ ?_
  · repeat' refine And.intro ?_ ?_
    · trivial
    · exact mS 2 8
    · exact b_eql_errno_t wA (oO 0 27) (opnd_const _) (h := rfl)
    · exact mO 1 28
    · exact mW (wI 2 29) (oS 1 10)
    · exact b_eql_errno_t (wI 2 29) (oO 3 30) (opnd_const _) (h := rfl)
    · exact pT wA (oO 2 29) (oO 4 31)
    · exact mO 5 32
    · exact lod 1 (wI 6 33) (loads_of strct_rat shp_r0)
    · exact owe_build_rat rfl (wI 6 33) rfl rfl
    · exact ch2 (wI 6 33) ((qO 7 34 rfl).imp z_nmx) ((qO 8 35 rfl).imp z_nmx) (fresh_is _) (fun w u v h h' => gsame_w w u v _ _ _ _ h h')
    · exact pT wA (oO 6 33) (oO 9 36)
    · exact mO 10 37
    · exact lod 2 (wI 11 38) (loads_of strct_rat shp_r0)
    · exact owe_build_rat rfl (wI 11 38) rfl rfl
    · exact ch2 (wI 11 38) ((qO 12 39 rfl).imp z_nmx) ((qO 13 40 rfl).imp z_nmx) (fresh_is _) (fun w u v h h' => gsame_w w u v _ _ _ _ h h')
    · exact pT wA (oO 11 38) (oO 14 41)
    · exact mO 15 42
    · exact owe_call0 rfl (wI 16 43) rfl  (fresh_is _) rfl (fun args w => by go_simp) (fun w => gawake_w w)
    · exact pT wA (oO 16 43) (oO 17 44)
    · exact mO 18 45
  intro B5 a5 W5 (S5 : Sta w 101 [(3, (.box 25 (SF [(Vv nD D K), (Mv nL L K)])))] [(6, bT)] _ _ _)
  refine wp_ret ?_
  refine thenR ?_
  exact end_one S5 rfl (res_tmp S5 0 6 rfl)

set_option maxHeartbeats 4000000 in
theorem parts_2 (w : World) (u : Value) (nD nL K : Nat) (D : List Int) (L : List (List Int)) (h : Hs w (SF [Vv nD D K, Mv nL L K]) u) (hD : nD ≤ 1048576) (hL : nL ≤ 1048576) (hK : K ≤ 1048576) (lD : D.length = nD) (lL : L.length = nL) (i j : Int) (g : Good D L) (hq : i < 0) (hp : j < 0 ∨ (0 ≤ j ∧ i < j) ∨ (0 ≤ j ∧ j ≤ i ∧ (nL : Int) ≤ i)) :
    Calls Tryz.prog 3 #[u, .int .i64 i, .int .i64 j] w (Gives (IS (.bool true)) w) := by
  refine calls_sta (sl := [(0, (SF [(Vv nD D K), (Mv nL L K)])), (1, (iV i)), (2, (iV j))]) Tryz.func3 rfl Tryz.ntmps3 (by simp) (args_cons rfl (h) (args_cons rfl (is_has _) (args_cons rfl (is_has _) args_nil))) ?_
  intro a0 S0
  refine wp_stmt_seq [.new (.box 25 (SF [(Vv nD D K), (Mv nL L K)])), kF] [.inl 0] [.inr 1, .inr 2] follows S0 rfl (by kernel_rfl) ?_ ?_
  · refine ⟨⟨trivial, ?_⟩, ?_⟩
    · exact owe_box rfl wA rfl (oS 0 0) rfl (fun ρ w h => box_gso shp_sf2 ρ _ _ w h)
    · exact mC
  intro B1 a1 W1 (S1 : Sta w 101 [(3, (.box 25 (SF [(Vv nD D K), (Mv nL L K)])))] [(1, iV i), (2, iV j)] _ _ _)
  refine wp_stmt_seq [.val (SF [(Vv nD D K), (Mv nL L K)]), .val (iV i), .val (iV j), .val ((TWO (IS (.agg #[.bool false, .slice none 0 0, .bool false, .slice none 0 0])) (IS (.int .i64 1))) w.heap.size), .val ((TWO (IS (.agg #[.bool false, .slice none 0 0, .bool false, .slice none 0 0])) (IS (.int .i64 1))) w.heap.size), .val zR, .val (iV 1), .new (.box 30 zR), .put (.inr 7) (.box 30 zR), .val (iV 1)] [.inr 0, .inl 7] [.inl 9, .inr 0, .inr 1] follows S1 rfl (by kernel_rfl) ?_ ?_
  · repeat' refine And.intro ?_ ?_
    · trivial
    · exact lod 0 wA (loads_of strct_gso shp_sf2)
    · exact mS 0 1
    · exact mS 1 2
    · exact ch3 wA (qO 0 12 rfl) (qO 1 13 rfl) (qO 2 14 rfl) (fresh_two (fresh_is _) (fresh_is _)) (fun w u0 u1 u2 h0 h1 h2 => by obtain rfl : u1 = _ := h1.now; obtain rfl : u2 = _ := h2.now; have h := h0; exact mu_a w u0 nD nL K D L h hD hL hK lD lL i j g hp)
    · exact mO 3 15
    · exact e20 wA (oO 4 11)
    · exact e21 wA (oO 4 11)
    · exact owe_new rfl wA rfl rfl (fun ρ w => alloc_rat ρ _ w)
    · exact owe_put 7 rfl wA rfl (by kernel_rfl) rfl (oO 5 16) (stores_of strct_rat shp_r0 shp_r0) rfl
    · exact mO 6 17
  intro B2 a2 W2 (S2 : Sta w 101 [(3, (.box 25 (SF [(Vv nD D K), (Mv nL L K)]))), (7, (.box 30 zR))] [(8, iV 1), (1, iV i), (2, iV j)] _ _ _)
  refine wp_stmt_seq [.val (SF [(Vv nD D K), (Mv nL L K)]), .val (iV i), .val ((TWO (IS (.agg #[.bool false, .slice none 0 0, .bool false, .slice none 0 0])) (IS (.int .i64 1))) w.heap.size), .val ((TWO (IS (.agg #[.bool false, .slice none 0 0, .bool false, .slice none 0 0])) (IS (.int .i64 1))) w.heap.size), .val zR, .val (iV 1), .new (.box 30 zR), .put (.inr 6) (.box 30 zR), .val (iV 1)] [.inr 0, .inr 1, .inl 6] [.inl 8, .inr 0, .inr 1, .inr 2] follows S2 rfl (by kernel_rfl) ?_ ?_
  · repeat' refine And.intro ?_ ?_
    · trivial
    · exact lod 0 wA (loads_of strct_gso shp_sf2)
    · exact mS 1 1
    · exact ch2 wA (qO 0 19 rfl) (qO 1 20 rfl) (fresh_two (fresh_is _) (fresh_is _)) (fun w u0 u1 h0 h1 => by obtain rfl : u1 = _ := h1.now; have h := h0; exact star_a w u0 nD nL K D L h hD hL hK lD lL i g (Or.inl hq))
    · exact mO 2 21
    · exact e20 wA (oO 3 18)
    · exact e21 wA (oO 3 18)
    · exact owe_new rfl wA rfl rfl (fun ρ w => alloc_rat ρ _ w)
    · exact owe_put 6 rfl wA rfl (by kernel_rfl) rfl (oO 4 22) (stores_of strct_rat shp_r0 shp_r0) rfl
    · exact mO 5 23
  intro B3 a3 W3 (S3 : Sta w 101 [(3, (.box 25 (SF [(Vv nD D K), (Mv nL L K)]))), (7, (.box 30 zR)), (9, (.box 30 zR))] [(10, iV 1), (8, iV 1), (1, iV i), (2, iV j)] _ _ _)
  refine wp_seq ?_
  refine wp_stmt_seq [.val (SF [(Vv nD D K), (Mv nL L K)]), kT, kF] [.inr 0, .inr 1, .inr 2] [.inl 2, .inr 0, .inr 1, .inr 2, .inr 3] follows S3 rfl (by kernel_rfl) ?_ ?_
  · refine ⟨⟨⟨trivial, ?_⟩, ?_⟩, ?_⟩
    · exact lod 0 wA (loads_of strct_gso shp_sf2)
    · exact ch1 wA (qO 0 24 rfl) (fresh_is _) (fun w u0 h0 => by  have h := h0; exact good_t w u0 nD nL K D L h hD hL hK lD lL g)
    · exact b_not wA (oO 1 25)
  intro B4 a4 W4 (S4 : Sta w 101 [(3, (.box 25 (SF [(Vv nD D K), (Mv nL L K)]))), (7, (.box 30 zR)), (9, (.box 30 zR))] [(26, bF), (10, iV 1), (8, iV 1), (1, iV i), (2, iV j)] _ _ _)
  refine wp_cond_false (S4.bool 0 26 rfl) ?_
  refine wp_skip ?_
  refine thenN ?_
  refine wp_seq ?_
  refine wp_stmt_seq [.val (iV i), kT, kT, .off, .off, .off, .off, .off, kT] [.inr 0, .inr 1, .inr 2] [.inl 8, .inr 1, .inr 2, .inr 3, .inr 4] follows S4 rfl (by kernel_rfl) ?_ ?_
  · repeat' refine And.intro ?_ ?_
    · trivial
    · exact mS 3 1
    · exact b_lss_int_t wA (oO 0 46) (opnd_const _)
    · exact mO 1 47
    · exact oF 2 48
    · exact oF 2 48
    · exact oF 2 48
    · exact oF 2 48
    · exact oF 2 48
    · exact pT wA (oO 2 48) (opnd_const _)
  intro B5 a5 W5 (S5 : Sta w 101 [(3, (.box 25 (SF [(Vv nD D K), (Mv nL L K)]))), (7, (.box 30 zR)), (9, (.box 30 zR))] [(54, bT), (10, iV 1), (8, iV 1), (1, iV i), (2, iV j)] _ _ _)
  refine wp_cond_true (S5.bool 0 54 rfl) ?_
  refine wp_stmt_seq [.val (iV 1), kF, kF, .val zR, .val zR, kT, kF, kF] [.inr 0, .inr 1] [.inl 7, .inr 2, .inr 3, .inr 4] follows S5 rfl (by kernel_rfl) ?_ ?_
  · repeat' refine And.intro ?_ ?_
    · trivial
    · exact mS 1 10
    · exact b_neq_errno_f wA (oO 0 55) (opnd_const _) (h := rfl)
    · exact mO 1 56
    · exact lod 2 (wI 2 57) (loads_of strct_rat shp_r0)
    · exact owe_build_rat rfl (wI 2 57) rfl rfl
    · exact ch2 (wI 2 57) ((qO 3 58 rfl).imp z_nmx) ((qO 4 59 rfl).imp z_nmx) (fresh_is _) (fun w u v h h' => gsame_w w u v _ _ _ _ h h')
    · exact b_not (wI 2 57) (oO 5 60)
    · exact pF wA (oO 2 57) (oO 6 61)
  intro B6 a6 W6 (S6 : Sta w 101 [(3, (.box 25 (SF [(Vv nD D K), (Mv nL L K)]))), (7, (.box 30 zR))] [(62, bF), (8, iV 1), (1, iV i), (2, iV j)] _ _ _)
  refine wp_cond_false (S6.bool 0 62 rfl) ?_
  refine wp_skip ?_
  refine thenN ?_
  refine wp_seq ?_
  refine wp_stmt_seq [.val (SF [(Vv nD D K), (Mv nL L K)]), .val (iV i), .val (iV j), kF, kT] [.inr 0, .inr 1] [.inl 4, .inr 1, .inr 2, .inr 3] follows S6 rfl (by kernel_rfl) ?_ ?_
  · refine ⟨⟨⟨⟨⟨trivial, ?_⟩, ?_⟩, ?_⟩, ?_⟩, ?_⟩
    · exact lod 0 wA (loads_of strct_gso shp_sf2)
    · exact mS 2 1
    · exact mS 3 2
    · exact ch3 wA (qO 0 73 rfl) (qO 1 74 rfl) (qO 2 75 rfl) (fresh_is _) (fun w u0 u1 u2 h0 h1 h2 => by obtain rfl : u1 = _ := h1.now; obtain rfl : u2 = _ := h2.now; have h := h0; exact place_f w u0 nD nL K D L h hD hL hK lD lL i j hp)
    · exact b_not wA (oO 3 76)
  intro B7 a7 W7 (S7 : Sta w 101 [(3, (.box 25 (SF [(Vv nD D K), (Mv nL L K)]))), (7, (.box 30 zR))] [(77, bT), (8, iV 1), (1, iV i), (2, iV j)] _ _ _)
  refine wp_cond_true (S7.bool 0 77 rfl) ?_
  refine wp_stmt_seq [.val (iV 1), kT, kT, .val zR, .val zR, kT, kT, kT, kT, kT, kT] [.inr 0] [.inl 10] follows S7 rfl (by kernel_rfl) ?_ ?_
  · repeat' refine And.intro ?_ ?_
    · trivial
    · exact mS 1 8
    · exact b_eql_errno_t wA (oO 0 78) (opnd_const _) (h := rfl)
    · exact mO 1 79
    · exact lod 1 (wI 2 80) (loads_of strct_rat shp_r0)
    · exact owe_build_rat rfl (wI 2 80) rfl rfl
    · exact ch2 (wI 2 80) ((qO 3 81 rfl).imp z_nmx) ((qO 4 82 rfl).imp z_nmx) (fresh_is _) (fun w u v h h' => gsame_w w u v _ _ _ _ h h')
    · exact pT wA (oO 2 80) (oO 5 83)
    · exact mO 6 84
    · exact owe_call0 rfl (wI 7 85) rfl  (fresh_is _) rfl (fun args w => by go_simp) (fun w => gawake_w w)
    · exact pT wA (oO 7 85) (oO 8 86)
    · exact mO 9 87
  intro B8 a8 W8 (S8 : Sta w 101 [(3, (.box 25 (SF [(Vv nD D K), (Mv nL L K)])))] [(6, bT)] _ _ _)
  refine wp_ret ?_
  refine thenR ?_
  exact end_one S8 rfl (res_tmp S8 0 6 rfl)

set_option maxHeartbeats 4000000 in
theorem parts_3 (w : World) (u : Value) (nD nL K : Nat) (D : List Int) (L : List (List Int)) (h : Hs w (SF [Vv nD D K, Mv nL L K]) u) (hD : nD ≤ 1048576) (hL : nL ≤ 1048576) (hK : K ≤ 1048576) (lD : D.length = nD) (lL : L.length = nL) (i j : Int) (g : Good D L) (hz : 0 ≤ i) (hq : (nL : Int) ≤ i) (hp : j < 0 ∨ (0 ≤ j ∧ i < j) ∨ (0 ≤ j ∧ j ≤ i ∧ (nL : Int) ≤ i)) :
    Calls Tryz.prog 3 #[u, .int .i64 i, .int .i64 j] w (Gives (IS (.bool true)) w) := by
  refine calls_sta (sl := [(0, (SF [(Vv nD D K), (Mv nL L K)])), (1, (iV i)), (2, (iV j))]) Tryz.func3 rfl Tryz.ntmps3 (by simp) (args_cons rfl (h) (args_cons rfl (is_has _) (args_cons rfl (is_has _) args_nil))) ?_
  intro a0 S0
  refine wp_stmt_seq [.new (.box 25 (SF [(Vv nD D K), (Mv nL L K)])), kF] [.inl 0] [.inr 1, .inr 2] follows S0 rfl (by kernel_rfl) ?_ ?_
  · refine ⟨⟨trivial, ?_⟩, ?_⟩
    · exact owe_box rfl wA rfl (oS 0 0) rfl (fun ρ w h => box_gso shp_sf2 ρ _ _ w h)
    · exact mC
  intro B1 a1 W1 (S1 : Sta w 101 [(3, (.box 25 (SF [(Vv nD D K), (Mv nL L K)])))] [(1, iV i), (2, iV j)] _ _ _)
  refine wp_stmt_seq [.val (SF [(Vv nD D K), (Mv nL L K)]), .val (iV i), .val (iV j), .val ((TWO (IS (.agg #[.bool false, .slice none 0 0, .bool false, .slice none 0 0])) (IS (.int .i64 1))) w.heap.size), .val ((TWO (IS (.agg #[.bool false, .slice none 0 0, .bool false, .slice none 0 0])) (IS (.int .i64 1))) w.heap.size), .val zR, .val (iV 1), .new (.box 30 zR), .put (.inr 7) (.box 30 zR), .val (iV 1)] [.inr 0, .inl 7] [.inl 9, .inr 0, .inr 1] follows S1 rfl (by kernel_rfl) ?_ ?_
  · repeat' refine And.intro ?_ ?_
    · trivial
    · exact lod 0 wA (loads_of strct_gso shp_sf2)
    · exact mS 0 1
    · exact mS 1 2
    · exact ch3 wA (qO 0 12 rfl) (qO 1 13 rfl) (qO 2 14 rfl) (fresh_two (fresh_is _) (fresh_is _)) (fun w u0 u1 u2 h0 h1 h2 => by obtain rfl : u1 = _ := h1.now; obtain rfl : u2 = _ := h2.now; have h := h0; exact mu_a w u0 nD nL K D L h hD hL hK lD lL i j g hp)
    · exact mO 3 15
    · exact e20 wA (oO 4 11)
    · exact e21 wA (oO 4 11)
    · exact owe_new rfl wA rfl rfl (fun ρ w => alloc_rat ρ _ w)
    · exact owe_put 7 rfl wA rfl (by kernel_rfl) rfl (oO 5 16) (stores_of strct_rat shp_r0 shp_r0) rfl
    · exact mO 6 17
  intro B2 a2 W2 (S2 : Sta w 101 [(3, (.box 25 (SF [(Vv nD D K), (Mv nL L K)]))), (7, (.box 30 zR))] [(8, iV 1), (1, iV i), (2, iV j)] _ _ _)
  refine wp_stmt_seq [.val (SF [(Vv nD D K), (Mv nL L K)]), .val (iV i), .val ((TWO (IS (.agg #[.bool false, .slice none 0 0, .bool false, .slice none 0 0])) (IS (.int .i64 1))) w.heap.size), .val ((TWO (IS (.agg #[.bool false, .slice none 0 0, .bool false, .slice none 0 0])) (IS (.int .i64 1))) w.heap.size), .val zR, .val (iV 1), .new (.box 30 zR), .put (.inr 6) (.box 30 zR), .val (iV 1)] [.inr 0, .inr 1, .inl 6] [.inl 8, .inr 0, .inr 1, .inr 2] follows S2 rfl (by kernel_rfl) ?_ ?_
  · repeat' refine And.intro ?_ ?_
    · trivial
    · exact lod 0 wA (loads_of strct_gso shp_sf2)
    · exact mS 1 1
    · exact ch2 wA (qO 0 19 rfl) (qO 1 20 rfl) (fresh_two (fresh_is _) (fresh_is _)) (fun w u0 u1 h0 h1 => by obtain rfl : u1 = _ := h1.now; have h := h0; exact star_a w u0 nD nL K D L h hD hL hK lD lL i g (Or.inr ⟨hz, hq⟩))
    · exact mO 2 21
    · exact e20 wA (oO 3 18)
    · exact e21 wA (oO 3 18)
    · exact owe_new rfl wA rfl rfl (fun ρ w => alloc_rat ρ _ w)
    · exact owe_put 6 rfl wA rfl (by kernel_rfl) rfl (oO 4 22) (stores_of strct_rat shp_r0 shp_r0) rfl
    · exact mO 5 23
  intro B3 a3 W3 (S3 : Sta w 101 [(3, (.box 25 (SF [(Vv nD D K), (Mv nL L K)]))), (7, (.box 30 zR)), (9, (.box 30 zR))] [(10, iV 1), (8, iV 1), (1, iV i), (2, iV j)] _ _ _)
  refine wp_seq ?_
  refine wp_stmt_seq [.val (SF [(Vv nD D K), (Mv nL L K)]), kT, kF] [.inr 0, .inr 1, .inr 2] [.inl 2, .inr 0, .inr 1, .inr 2, .inr 3] follows S3 rfl (by kernel_rfl) ?_ ?_
  · refine ⟨⟨⟨trivial, ?_⟩, ?_⟩, ?_⟩
    · exact lod 0 wA (loads_of strct_gso shp_sf2)
    · exact ch1 wA (qO 0 24 rfl) (fresh_is _) (fun w u0 h0 => by  have h := h0; exact good_t w u0 nD nL K D L h hD hL hK lD lL g)
    · exact b_not wA (oO 1 25)
  intro B4 a4 W4 (S4 : Sta w 101 [(3, (.box 25 (SF [(Vv nD D K), (Mv nL L K)]))), (7, (.box 30 zR)), (9, (.box 30 zR))] [(26, bF), (10, iV 1), (8, iV 1), (1, iV i), (2, iV j)] _ _ _)
  refine wp_cond_false (S4.bool 0 26 rfl) ?_
  refine wp_skip ?_
  refine thenN ?_
  refine wp_seq ?_
  refine wp_stmt_seq [.val (iV i), kF, kF, .val (iV i), .val (Part a4 3 1), .val (Mv nL L K), .val (iV (nL : Nat)), kT, kT] [.inr 0, .inr 1, .inr 2] [.inl 8, .inr 1, .inr 2, .inr 3, .inr 4] follows S4 rfl (by kernel_rfl) ?_ ?_
  · repeat' refine And.intro ?_ ?_
    · trivial
    · exact mS 3 1
    · exact b_lss_int_f wA (oO 0 46) (opnd_const _)
    · exact mO 1 47
    · exact mW (wI 2 48) (oS 3 1)
    · exact owe_part rfl (wI 2 48) rfl (k := 0) rfl (by kernel_rfl) rfl (fun ρ w b h => part_gso1 ρ _ _ w b 0 h)
    · exact owe_pload rfl (wI 2 48) rfl (oO 4 50) (k := 0) rfl (by kernel_rfl) rfl (fun ρ w b u h1 h2 h3 => ploadS rfl load1_mat ρ _ _ w b u h1 h2 h3)
    · exact owe_len rfl (wI 2 48) rfl (oO 5 51) ar_len Tryz.underlying23 rfl
    · exact b_geq_int_t (wI 2 48) (oO 3 49) (oO 6 52)
    · exact pF wA (oO 2 48) (oO 7 53)
  intro B5 a5 W5 (S5 : Sta w 101 [(3, (.box 25 (SF [(Vv nD D K), (Mv nL L K)]))), (7, (.box 30 zR)), (9, (.box 30 zR))] [(54, bT), (10, iV 1), (8, iV 1), (1, iV i), (2, iV j)] _ _ _)
  refine wp_cond_true (S5.bool 0 54 rfl) ?_
  refine wp_stmt_seq [.val (iV 1), kF, kF, .val zR, .val zR, kT, kF, kF] [.inr 0, .inr 1] [.inl 7, .inr 2, .inr 3, .inr 4] follows S5 rfl (by kernel_rfl) ?_ ?_
  · repeat' refine And.intro ?_ ?_
    · trivial
    · exact mS 1 10
    · exact b_neq_errno_f wA (oO 0 55) (opnd_const _) (h := rfl)
    · exact mO 1 56
    · exact lod 2 (wI 2 57) (loads_of strct_rat shp_r0)
    · exact owe_build_rat rfl (wI 2 57) rfl rfl
    · exact ch2 (wI 2 57) ((qO 3 58 rfl).imp z_nmx) ((qO 4 59 rfl).imp z_nmx) (fresh_is _) (fun w u v h h' => gsame_w w u v _ _ _ _ h h')
    · exact b_not (wI 2 57) (oO 5 60)
    · exact pF wA (oO 2 57) (oO 6 61)
  intro B6 a6 W6 (S6 : Sta w 101 [(3, (.box 25 (SF [(Vv nD D K), (Mv nL L K)]))), (7, (.box 30 zR))] [(62, bF), (8, iV 1), (1, iV i), (2, iV j)] _ _ _)
  refine wp_cond_false (S6.bool 0 62 rfl) ?_
  refine wp_skip ?_
  refine thenN ?_
  refine wp_seq ?_
  refine wp_stmt_seq [.val (SF [(Vv nD D K), (Mv nL L K)]), .val (iV i), .val (iV j), kF, kT] [.inr 0, .inr 1] [.inl 4, .inr 1, .inr 2, .inr 3] follows S6 rfl (by kernel_rfl) ?_ ?_
  · refine ⟨⟨⟨⟨⟨trivial, ?_⟩, ?_⟩, ?_⟩, ?_⟩, ?_⟩
    · exact lod 0 wA (loads_of strct_gso shp_sf2)
    · exact mS 2 1
    · exact mS 3 2
    · exact ch3 wA (qO 0 73 rfl) (qO 1 74 rfl) (qO 2 75 rfl) (fresh_is _) (fun w u0 u1 u2 h0 h1 h2 => by obtain rfl : u1 = _ := h1.now; obtain rfl : u2 = _ := h2.now; have h := h0; exact place_f w u0 nD nL K D L h hD hL hK lD lL i j hp)
    · exact b_not wA (oO 3 76)
  intro B7 a7 W7 (S7 : Sta w 101 [(3, (.box 25 (SF [(Vv nD D K), (Mv nL L K)]))), (7, (.box 30 zR))] [(77, bT), (8, iV 1), (1, iV i), (2, iV j)] _ _ _)
  refine wp_cond_true (S7.bool 0 77 rfl) ?_
  refine wp_stmt_seq [.val (iV 1), kT, kT, .val zR, .val zR, kT, kT, kT, kT, kT, kT] [.inr 0] [.inl 10] follows S7 rfl (by kernel_rfl) ?_ ?_
  · repeat' refine And.intro ?_ ?_
    · trivial
    · exact mS 1 8
    · exact b_eql_errno_t wA (oO 0 78) (opnd_const _) (h := rfl)
    · exact mO 1 79
    · exact lod 1 (wI 2 80) (loads_of strct_rat shp_r0)
    · exact owe_build_rat rfl (wI 2 80) rfl rfl
    · exact ch2 (wI 2 80) ((qO 3 81 rfl).imp z_nmx) ((qO 4 82 rfl).imp z_nmx) (fresh_is _) (fun w u v h h' => gsame_w w u v _ _ _ _ h h')
    · exact pT wA (oO 2 80) (oO 5 83)
    · exact mO 6 84
    · exact owe_call0 rfl (wI 7 85) rfl  (fresh_is _) rfl (fun args w => by go_simp) (fun w => gawake_w w)
    · exact pT wA (oO 7 85) (oO 8 86)
    · exact mO 9 87
  intro B8 a8 W8 (S8 : Sta w 101 [(3, (.box 25 (SF [(Vv nD D K), (Mv nL L K)])))] [(6, bT)] _ _ _)
  refine wp_ret ?_
  refine thenR ?_
  exact end_one S8 rfl (res_tmp S8 0 6 rfl)

set_option maxHeartbeats 4000000 in
theorem parts_4 (w : World) (u : Value) (nD nL K : Nat) (D : List Int) (L : List (List Int)) (h : Hs w (SF [Vv nD D K, Mv nL L K]) u) (hD : nD ≤ 1048576) (hL : nL ≤ 1048576) (hK : K ≤ 1048576) (lD : D.length = nD) (lL : L.length = nL) (i d0 : Nat) (j : Int) (g : Good D L) (hi : i < nL) (hd : D.getD i 0 = (d0 : Int)) (hd0 : d0 ≠ 0) (hp : j < 0 ∨ (0 ≤ j ∧ (i : Int) < j) ∨ (0 ≤ j ∧ j ≤ (i : Int) ∧ (nL : Int) ≤ (i : Int))) :
    Calls Tryz.prog 3 #[u, .int .i64 (i : Nat), .int .i64 j] w (Gives (IS (.bool true)) w) := by
  refine calls_sta (sl := [(0, (SF [(Vv nD D K), (Mv nL L K)])), (1, (iV (i : Nat))), (2, (iV j))]) Tryz.func3 rfl Tryz.ntmps3 (by simp) (args_cons rfl (h) (args_cons rfl (is_has _) (args_cons rfl (is_has _) args_nil))) ?_
  intro a0 S0
  refine wp_stmt_seq [.new (.box 25 (SF [(Vv nD D K), (Mv nL L K)])), kF] [.inl 0] [.inr 1, .inr 2] follows S0 rfl (by kernel_rfl) ?_ ?_
  · refine ⟨⟨trivial, ?_⟩, ?_⟩
    · exact owe_box rfl wA rfl (oS 0 0) rfl (fun ρ w h => box_gso shp_sf2 ρ _ _ w h)
    · exact mC
  intro B1 a1 W1 (S1 : Sta w 101 [(3, (.box 25 (SF [(Vv nD D K), (Mv nL L K)])))] [(1, iV (i : Nat)), (2, iV j)] _ _ _)
  refine wp_stmt_seq [.val (SF [(Vv nD D K), (Mv nL L K)]), .val (iV (i : Nat)), .val (iV j), .val ((TWO (IS (.agg #[.bool false, .slice none 0 0, .bool false, .slice none 0 0])) (IS (.int .i64 1))) w.heap.size), .val ((TWO (IS (.agg #[.bool false, .slice none 0 0, .bool false, .slice none 0 0])) (IS (.int .i64 1))) w.heap.size), .val zR, .val (iV 1), .new (.box 30 zR), .put (.inr 7) (.box 30 zR), .val (iV 1)] [.inr 0, .inl 7] [.inl 9, .inr 0, .inr 1] follows S1 rfl (by kernel_rfl) ?_ ?_
  · repeat' refine And.intro ?_ ?_
    · trivial
    · exact lod 0 wA (loads_of strct_gso shp_sf2)
    · exact mS 0 1
    · exact mS 1 2
    · exact ch3 wA (qO 0 12 rfl) (qO 1 13 rfl) (qO 2 14 rfl) (fresh_two (fresh_is _) (fresh_is _)) (fun w u0 u1 u2 h0 h1 h2 => by obtain rfl : u1 = _ := h1.now; obtain rfl : u2 = _ := h2.now; have h := h0; exact mu_a w u0 nD nL K D L h hD hL hK lD lL (i : Int) j g hp)
    · exact mO 3 15
    · exact e20 wA (oO 4 11)
    · exact e21 wA (oO 4 11)
    · exact owe_new rfl wA rfl rfl (fun ρ w => alloc_rat ρ _ w)
    · exact owe_put 7 rfl wA rfl (by kernel_rfl) rfl (oO 5 16) (stores_of strct_rat shp_r0 shp_r0) rfl
    · exact mO 6 17
  intro B2 a2 W2 (S2 : Sta w 101 [(3, (.box 25 (SF [(Vv nD D K), (Mv nL L K)]))), (7, (.box 30 zR))] [(8, iV 1), (1, iV (i : Nat)), (2, iV j)] _ _ _)
  refine wp_stmt_seq [.val (SF [(Vv nD D K), (Mv nL L K)]), .val (iV (i : Nat)), .val ((TWO (RN (nR (D.getD (i + 1) 0) d0) (dR (D.getD (i + 1) 0) d0)) (IS (.int .i64 0))) w.heap.size), .val ((TWO (RN (nR (D.getD (i + 1) 0) d0) (dR (D.getD (i + 1) 0) d0)) (IS (.int .i64 0))) w.heap.size), .val ((RN (nR (D.getD (i + 1) 0) d0) (dR (D.getD (i + 1) 0) d0)) w.heap.size), .val (iV 0), .new (.box 30 zR), .put (.inr 6) (.box 30 ((RN (nR (D.getD (i + 1) 0) d0) (dR (D.getD (i + 1) 0) d0)) w.heap.size)), .val (iV 0)] [.inr 0, .inr 1, .inl 6] [.inl 8, .inr 0, .inr 1, .inr 2] follows S2 rfl (by kernel_rfl) ?_ ?_
  · repeat' refine And.intro ?_ ?_
    · trivial
    · exact lod 0 wA (loads_of strct_gso shp_sf2)
    · exact mS 1 1
    · exact ch2 wA (qO 0 19 rfl) (qO 1 20 rfl) (fresh_two (fresh_rn _ _) (fresh_is _)) (fun w u0 u1 h0 h1 => by obtain rfl : u1 = _ := h1.now; have h := h0; exact star_m w u0 nD nL K D L h hD hL hK lD lL i d0 g hi hd hd0)
    · exact mO 2 21
    · exact e20 wA (oO 3 18)
    · exact e21 wA (oO 3 18)
    · exact owe_new rfl wA rfl rfl (fun ρ w => alloc_rat ρ _ w)
    · exact owe_put 6 rfl wA rfl (by kernel_rfl) rfl (oO 4 22) (stores_of strct_rat shp_r0 (shp_pr shp_zn shp_zn)) rfl
    · exact mO 5 23
  intro B3 a3 W3 (S3 : Sta w 101 [(3, (.box 25 (SF [(Vv nD D K), (Mv nL L K)]))), (7, (.box 30 zR)), (9, (.box 30 ((RN (nR (D.getD (i + 1) 0) d0) (dR (D.getD (i + 1) 0) d0)) w.heap.size)))] [(10, iV 0), (8, iV 1), (1, iV (i : Nat)), (2, iV j)] _ _ _)
  refine wp_seq ?_
  refine wp_stmt_seq [.val (SF [(Vv nD D K), (Mv nL L K)]), kT, kF] [.inr 0, .inr 1, .inr 2] [.inl 2, .inr 0, .inr 1, .inr 2, .inr 3] follows S3 rfl (by kernel_rfl) ?_ ?_
  · refine ⟨⟨⟨trivial, ?_⟩, ?_⟩, ?_⟩
    · exact lod 0 wA (loads_of strct_gso shp_sf2)
    · exact ch1 wA (qO 0 24 rfl) (fresh_is _) (fun w u0 h0 => by  have h := h0; exact good_t w u0 nD nL K D L h hD hL hK lD lL g)
    · exact b_not wA (oO 1 25)
  intro B4 a4 W4 (S4 : Sta w 101 [(3, (.box 25 (SF [(Vv nD D K), (Mv nL L K)]))), (7, (.box 30 zR)), (9, (.box 30 ((RN (nR (D.getD (i + 1) 0) d0) (dR (D.getD (i + 1) 0) d0)) w.heap.size)))] [(26, bF), (10, iV 0), (8, iV 1), (1, iV (i : Nat)), (2, iV j)] _ _ _)
  refine wp_cond_false (S4.bool 0 26 rfl) ?_
  refine wp_skip ?_
  refine thenN ?_
  refine wp_seq ?_
  refine wp_stmt_seq [.val (iV (i : Nat)), kF, kF, .val (iV (i : Nat)), .val (Part a4 3 1), .val (Mv nL L K), .val (iV (nL : Nat)), kF, kF] [.inr 0, .inr 1, .inr 2] [.inl 8, .inr 1, .inr 2, .inr 3, .inr 4] follows S4 rfl (by kernel_rfl) ?_ ?_
  · repeat' refine And.intro ?_ ?_
    · trivial
    · exact mS 3 1
    · exact b_lss_int_f wA (oO 0 46) (opnd_const _)
    · exact mO 1 47
    · exact mW (wI 2 48) (oS 3 1)
    · exact owe_part rfl (wI 2 48) rfl (k := 0) rfl (by kernel_rfl) rfl (fun ρ w b h => part_gso1 ρ _ _ w b 0 h)
    · exact owe_pload rfl (wI 2 48) rfl (oO 4 50) (k := 0) rfl (by kernel_rfl) rfl (fun ρ w b u h1 h2 h3 => ploadS rfl load1_mat ρ _ _ w b u h1 h2 h3)
    · exact owe_len rfl (wI 2 48) rfl (oO 5 51) ar_len Tryz.underlying23 rfl
    · exact b_geq_int_f (wI 2 48) (oO 3 49) (oO 6 52)
    · exact pF wA (oO 2 48) (oO 7 53)
  intro B5 a5 W5 (S5 : Sta w 101 [(3, (.box 25 (SF [(Vv nD D K), (Mv nL L K)]))), (7, (.box 30 zR)), (9, (.box 30 ((RN (nR (D.getD (i + 1) 0) d0) (dR (D.getD (i + 1) 0) d0)) w.heap.size)))] [(54, bF), (10, iV 0), (8, iV 1), (1, iV (i : Nat)), (2, iV j)] _ _ _)
  refine wp_cond_false (S5.bool 0 54 rfl) ?_
  refine wp_stmt_seq [.val (iV 0), kF, kF, .val ((RN (nR (D.getD (i + 1) 0) d0) (dR (D.getD (i + 1) 0) d0)) w.heap.size), .val (SF [(Vv nD D K), (Mv nL L K)]), .val (iV (i : Nat)), .val ((RN (nR (D.getD (i + 1) 0) d0) (dR (D.getD (i + 1) 0) d0)) w.heap.size), kT, kF, kF] [.inr 0, .inr 1] [.inl 9, .inr 2, .inr 3, .inr 4] follows S5 rfl (by kernel_rfl) ?_ ?_
  · repeat' refine And.intro ?_ ?_
    · trivial
    · exact mS 1 10
    · exact b_neq_errno_f wA (oO 0 63) (opnd_const _) (h := rfl)
    · exact mO 1 64
    · exact lod 2 (wI 2 65) (loads_of strct_rat (shp_pr shp_zn shp_zn))
    · exact lod 0 (wI 2 65) (loads_of strct_gso shp_sf2)
    · exact mW (wI 2 65) (oS 3 1)
    · exact ch2 (wI 2 65) (qO 4 67 rfl) (qO 5 68 rfl) (fresh_rn _ _) (fun w u0 u1 h0 h1 => by obtain rfl : u1 = _ := h1.now; have h := h0; exact rstar_m w u0 nD nL K D L h hD hL hK lD lL i d0 g hi hd hd0)
    · exact ch2 (wI 2 65) ((qO 3 66 rfl).imp rn_nmx) ((qO 6 69 rfl).imp rn_nmx) (fresh_is _) (fun w u v h h' => gsame_w w u v _ _ _ _ h h')
    · exact b_not (wI 2 65) (oO 7 70)
    · exact pF wA (oO 2 65) (oO 8 71)
  intro B6 a6 W6 (S6 : Sta w 101 [(3, (.box 25 (SF [(Vv nD D K), (Mv nL L K)]))), (7, (.box 30 zR))] [(72, bF), (8, iV 1), (1, iV (i : Nat)), (2, iV j)] _ _ _)
  refine wp_cond_false (S6.bool 0 72 rfl) ?_
  refine wp_skip ?_
  refine thenN ?_
  refine wp_seq ?_
  refine wp_stmt_seq [.val (SF [(Vv nD D K), (Mv nL L K)]), .val (iV (i : Nat)), .val (iV j), kF, kT] [.inr 0, .inr 1] [.inl 4, .inr 1, .inr 2, .inr 3] follows S6 rfl (by kernel_rfl) ?_ ?_
  · refine ⟨⟨⟨⟨⟨trivial, ?_⟩, ?_⟩, ?_⟩, ?_⟩, ?_⟩
    · exact lod 0 wA (loads_of strct_gso shp_sf2)
    · exact mS 2 1
    · exact mS 3 2
    · exact ch3 wA (qO 0 73 rfl) (qO 1 74 rfl) (qO 2 75 rfl) (fresh_is _) (fun w u0 u1 u2 h0 h1 h2 => by obtain rfl : u1 = _ := h1.now; obtain rfl : u2 = _ := h2.now; have h := h0; exact place_f w u0 nD nL K D L h hD hL hK lD lL (i : Int) j hp)
    · exact b_not wA (oO 3 76)
  intro B7 a7 W7 (S7 : Sta w 101 [(3, (.box 25 (SF [(Vv nD D K), (Mv nL L K)]))), (7, (.box 30 zR))] [(77, bT), (8, iV 1), (1, iV (i : Nat)), (2, iV j)] _ _ _)
  refine wp_cond_true (S7.bool 0 77 rfl) ?_
  refine wp_stmt_seq [.val (iV 1), kT, kT, .val zR, .val zR, kT, kT, kT, kT, kT, kT] [.inr 0] [.inl 10] follows S7 rfl (by kernel_rfl) ?_ ?_
  · repeat' refine And.intro ?_ ?_
    · trivial
    · exact mS 1 8
    · exact b_eql_errno_t wA (oO 0 78) (opnd_const _) (h := rfl)
    · exact mO 1 79
    · exact lod 1 (wI 2 80) (loads_of strct_rat shp_r0)
    · exact owe_build_rat rfl (wI 2 80) rfl rfl
    · exact ch2 (wI 2 80) ((qO 3 81 rfl).imp z_nmx) ((qO 4 82 rfl).imp z_nmx) (fresh_is _) (fun w u v h h' => gsame_w w u v _ _ _ _ h h')
    · exact pT wA (oO 2 80) (oO 5 83)
    · exact mO 6 84
    · exact owe_call0 rfl (wI 7 85) rfl  (fresh_is _) rfl (fun args w => by go_simp) (fun w => gawake_w w)
    · exact pT wA (oO 7 85) (oO 8 86)
    · exact mO 9 87
  intro B8 a8 W8 (S8 : Sta w 101 [(3, (.box 25 (SF [(Vv nD D K), (Mv nL L K)])))] [(6, bT)] _ _ _)
  refine wp_ret ?_
  refine thenR ?_
  exact end_one S8 rfl (res_tmp S8 0 6 rfl)

set_option maxHeartbeats 4000000 in
theorem parts_5 (w : World) (u : Value) (nD nL K : Nat) (D : List Int) (L : List (List Int)) (h : Hs w (SF [Vv nD D K, Mv nL L K]) u) (hD : nD ≤ 1048576) (hL : nL ≤ 1048576) (hK : K ≤ 1048576) (lD : D.length = nD) (lL : L.length = nL) (i d0 : Nat) (g : Good D L) (hi : i < nL) (hd : D.getD i 0 = (d0 : Int)) (hd0 : d0 ≠ 0) :
    Calls Tryz.prog 3 #[u, .int .i64 (i : Nat), .int .i64 (i : Nat)] w (Gives (IS (.bool true)) w) := by
  refine calls_sta (sl := [(0, (SF [(Vv nD D K), (Mv nL L K)])), (1, (iV (i : Nat))), (2, (iV (i : Nat)))]) Tryz.func3 rfl Tryz.ntmps3 (by simp) (args_cons rfl (h) (args_cons rfl (is_has _) (args_cons rfl (is_has _) args_nil))) ?_
  intro a0 S0
  refine wp_stmt_seq [.new (.box 25 (SF [(Vv nD D K), (Mv nL L K)])), kF] [.inl 0] [.inr 1, .inr 2] follows S0 rfl (by kernel_rfl) ?_ ?_
  · refine ⟨⟨trivial, ?_⟩, ?_⟩
    · exact owe_box rfl wA rfl (oS 0 0) rfl (fun ρ w h => box_gso shp_sf2 ρ _ _ w h)
    · exact mC
  intro B1 a1 W1 (S1 : Sta w 101 [(3, (.box 25 (SF [(Vv nD D K), (Mv nL L K)])))] [(1, iV (i : Nat)), (2, iV (i : Nat))] _ _ _)
  refine wp_stmt_seq [.val (SF [(Vv nD D K), (Mv nL L K)]), .val (iV (i : Nat)), .val (iV (i : Nat)), .val ((TWO (RN 1 1) (IS (.int .i64 0))) w.heap.size), .val ((TWO (RN 1 1) (IS (.int .i64 0))) w.heap.size), .val ((RN 1 1) w.heap.size), .val (iV 0), .new (.box 30 zR), .put (.inr 7) (.box 30 ((RN 1 1) w.heap.size)), .val (iV 0)] [.inr 0, .inl 7] [.inl 9, .inr 0, .inr 1] follows S1 rfl (by kernel_rfl) ?_ ?_
  · repeat' refine And.intro ?_ ?_
    · trivial
    · exact lod 0 wA (loads_of strct_gso shp_sf2)
    · exact mS 0 1
    · exact mS 1 2
    · exact ch3 wA (qO 0 12 rfl) (qO 1 13 rfl) (qO 2 14 rfl) (fresh_two (fresh_rn _ _) (fresh_is _)) (fun w u0 u1 u2 h0 h1 h2 => by obtain rfl : u1 = _ := h1.now; obtain rfl : u2 = _ := h2.now; have h := h0; exact mu_e w u0 nD nL K D L h hD hL hK lD lL i g hi)
    · exact mO 3 15
    · exact e20 wA (oO 4 11)
    · exact e21 wA (oO 4 11)
    · exact owe_new rfl wA rfl rfl (fun ρ w => alloc_rat ρ _ w)
    · exact owe_put 7 rfl wA rfl (by kernel_rfl) rfl (oO 5 16) (stores_of strct_rat shp_r0 (shp_pr shp_zn shp_zn)) rfl
    · exact mO 6 17
  intro B2 a2 W2 (S2 : Sta w 101 [(3, (.box 25 (SF [(Vv nD D K), (Mv nL L K)]))), (7, (.box 30 ((RN 1 1) w.heap.size)))] [(8, iV 0), (1, iV (i : Nat)), (2, iV (i : Nat))] _ _ _)
  refine wp_stmt_seq [.val (SF [(Vv nD D K), (Mv nL L K)]), .val (iV (i : Nat)), .val ((TWO (RN (nR (D.getD (i + 1) 0) d0) (dR (D.getD (i + 1) 0) d0)) (IS (.int .i64 0))) w.heap.size), .val ((TWO (RN (nR (D.getD (i + 1) 0) d0) (dR (D.getD (i + 1) 0) d0)) (IS (.int .i64 0))) w.heap.size), .val ((RN (nR (D.getD (i + 1) 0) d0) (dR (D.getD (i + 1) 0) d0)) w.heap.size), .val (iV 0), .new (.box 30 zR), .put (.inr 6) (.box 30 ((RN (nR (D.getD (i + 1) 0) d0) (dR (D.getD (i + 1) 0) d0)) w.heap.size)), .val (iV 0)] [.inr 0, .inr 1, .inl 6] [.inl 8, .inr 0, .inr 1, .inr 2] follows S2 rfl (by kernel_rfl) ?_ ?_
  · repeat' refine And.intro ?_ ?_
    · trivial
    · exact lod 0 wA (loads_of strct_gso shp_sf2)
    · exact mS 1 1
    · exact ch2 wA (qO 0 19 rfl) (qO 1 20 rfl) (fresh_two (fresh_rn _ _) (fresh_is _)) (fun w u0 u1 h0 h1 => by obtain rfl : u1 = _ := h1.now; have h := h0; exact star_m w u0 nD nL K D L h hD hL hK lD lL i d0 g hi hd hd0)
    · exact mO 2 21
    · exact e20 wA (oO 3 18)
    · exact e21 wA (oO 3 18)
    · exact owe_new rfl wA rfl rfl (fun ρ w => alloc_rat ρ _ w)
    · exact owe_put 6 rfl wA rfl (by kernel_rfl) rfl (oO 4 22) (stores_of strct_rat shp_r0 (shp_pr shp_zn shp_zn)) rfl
    · exact mO 5 23
  intro B3 a3 W3 (S3 : Sta w 101 [(3, (.box 25 (SF [(Vv nD D K), (Mv nL L K)]))), (7, (.box 30 ((RN 1 1) w.heap.size))), (9, (.box 30 ((RN (nR (D.getD (i + 1) 0) d0) (dR (D.getD (i + 1) 0) d0)) w.heap.size)))] [(10, iV 0), (8, iV 0), (1, iV (i : Nat)), (2, iV (i : Nat))] _ _ _)
  refine wp_seq ?_
  refine wp_stmt_seq [.val (SF [(Vv nD D K), (Mv nL L K)]), kT, kF] [.inr 0, .inr 1, .inr 2] [.inl 2, .inr 0, .inr 1, .inr 2, .inr 3] follows S3 rfl (by kernel_rfl) ?_ ?_
  · refine ⟨⟨⟨trivial, ?_⟩, ?_⟩, ?_⟩
    · exact lod 0 wA (loads_of strct_gso shp_sf2)
    · exact ch1 wA (qO 0 24 rfl) (fresh_is _) (fun w u0 h0 => by  have h := h0; exact good_t w u0 nD nL K D L h hD hL hK lD lL g)
    · exact b_not wA (oO 1 25)
  intro B4 a4 W4 (S4 : Sta w 101 [(3, (.box 25 (SF [(Vv nD D K), (Mv nL L K)]))), (7, (.box 30 ((RN 1 1) w.heap.size))), (9, (.box 30 ((RN (nR (D.getD (i + 1) 0) d0) (dR (D.getD (i + 1) 0) d0)) w.heap.size)))] [(26, bF), (10, iV 0), (8, iV 0), (1, iV (i : Nat)), (2, iV (i : Nat))] _ _ _)
  refine wp_cond_false (S4.bool 0 26 rfl) ?_
  refine wp_skip ?_
  refine thenN ?_
  refine wp_seq ?_
  refine wp_stmt_seq [.val (iV (i : Nat)), kF, kF, .val (iV (i : Nat)), .val (Part a4 3 1), .val (Mv nL L K), .val (iV (nL : Nat)), kF, kF] [.inr 0, .inr 1, .inr 2] [.inl 8, .inr 1, .inr 2, .inr 3, .inr 4] follows S4 rfl (by kernel_rfl) ?_ ?_
  · repeat' refine And.intro ?_ ?_
    · trivial
    · exact mS 3 1
    · exact b_lss_int_f wA (oO 0 46) (opnd_const _)
    · exact mO 1 47
    · exact mW (wI 2 48) (oS 3 1)
    · exact owe_part rfl (wI 2 48) rfl (k := 0) rfl (by kernel_rfl) rfl (fun ρ w b h => part_gso1 ρ _ _ w b 0 h)
    · exact owe_pload rfl (wI 2 48) rfl (oO 4 50) (k := 0) rfl (by kernel_rfl) rfl (fun ρ w b u h1 h2 h3 => ploadS rfl load1_mat ρ _ _ w b u h1 h2 h3)
    · exact owe_len rfl (wI 2 48) rfl (oO 5 51) ar_len Tryz.underlying23 rfl
    · exact b_geq_int_f (wI 2 48) (oO 3 49) (oO 6 52)
    · exact pF wA (oO 2 48) (oO 7 53)
  intro B5 a5 W5 (S5 : Sta w 101 [(3, (.box 25 (SF [(Vv nD D K), (Mv nL L K)]))), (7, (.box 30 ((RN 1 1) w.heap.size))), (9, (.box 30 ((RN (nR (D.getD (i + 1) 0) d0) (dR (D.getD (i + 1) 0) d0)) w.heap.size)))] [(54, bF), (10, iV 0), (8, iV 0), (1, iV (i : Nat)), (2, iV (i : Nat))] _ _ _)
  refine wp_cond_false (S5.bool 0 54 rfl) ?_
  refine wp_stmt_seq [.val (iV 0), kF, kF, .val ((RN (nR (D.getD (i + 1) 0) d0) (dR (D.getD (i + 1) 0) d0)) w.heap.size), .val (SF [(Vv nD D K), (Mv nL L K)]), .val (iV (i : Nat)), .val ((RN (nR (D.getD (i + 1) 0) d0) (dR (D.getD (i + 1) 0) d0)) w.heap.size), kT, kF, kF] [.inr 0, .inr 1] [.inl 9, .inr 2, .inr 3, .inr 4] follows S5 rfl (by kernel_rfl) ?_ ?_
  · repeat' refine And.intro ?_ ?_
    · trivial
    · exact mS 1 10
    · exact b_neq_errno_f wA (oO 0 63) (opnd_const _) (h := rfl)
    · exact mO 1 64
    · exact lod 2 (wI 2 65) (loads_of strct_rat (shp_pr shp_zn shp_zn))
    · exact lod 0 (wI 2 65) (loads_of strct_gso shp_sf2)
    · exact mW (wI 2 65) (oS 3 1)
    · exact ch2 (wI 2 65) (qO 4 67 rfl) (qO 5 68 rfl) (fresh_rn _ _) (fun w u0 u1 h0 h1 => by obtain rfl : u1 = _ := h1.now; have h := h0; exact rstar_m w u0 nD nL K D L h hD hL hK lD lL i d0 g hi hd hd0)
    · exact ch2 (wI 2 65) ((qO 3 66 rfl).imp rn_nmx) ((qO 6 69 rfl).imp rn_nmx) (fresh_is _) (fun w u v h h' => gsame_w w u v _ _ _ _ h h')
    · exact b_not (wI 2 65) (oO 7 70)
    · exact pF wA (oO 2 65) (oO 8 71)
  intro B6 a6 W6 (S6 : Sta w 101 [(3, (.box 25 (SF [(Vv nD D K), (Mv nL L K)]))), (7, (.box 30 ((RN 1 1) w.heap.size)))] [(72, bF), (8, iV 0), (1, iV (i : Nat)), (2, iV (i : Nat))] _ _ _)
  refine wp_cond_false (S6.bool 0 72 rfl) ?_
  refine wp_skip ?_
  refine thenN ?_
  refine wp_seq ?_
  refine wp_stmt_seq [.val (SF [(Vv nD D K), (Mv nL L K)]), .val (iV (i : Nat)), .val (iV (i : Nat)), kT, kF] [.inr 0, .inr 1] [.inl 4, .inr 1, .inr 2, .inr 3] follows S6 rfl (by kernel_rfl) ?_ ?_
  · refine ⟨⟨⟨⟨⟨trivial, ?_⟩, ?_⟩, ?_⟩, ?_⟩, ?_⟩
    · exact lod 0 wA (loads_of strct_gso shp_sf2)
    · exact mS 2 1
    · exact mS 3 2
    · exact ch3 wA (qO 0 73 rfl) (qO 1 74 rfl) (qO 2 75 rfl) (fresh_is _) (fun w u0 u1 u2 h0 h1 h2 => by obtain rfl : u1 = _ := h1.now; obtain rfl : u2 = _ := h2.now; have h := h0; exact place_t w u0 nD nL K D L h hD hL hK lD lL i i hi (Nat.le_refl _))
    · exact b_not wA (oO 3 76)
  intro B7 a7 W7 (S7 : Sta w 101 [(3, (.box 25 (SF [(Vv nD D K), (Mv nL L K)]))), (7, (.box 30 ((RN 1 1) w.heap.size)))] [(77, bF), (8, iV 0), (1, iV (i : Nat)), (2, iV (i : Nat))] _ _ _)
  refine wp_cond_false (S7.bool 0 77 rfl) ?_
  refine wp_skip ?_
  refine thenN ?_
  refine wp_stmt_seq [.val (iV 0), kT, kT, .val ((RN 1 1) w.heap.size), .val (SF [(Vv nD D K), (Mv nL L K)]), .val (iV (i : Nat)), .val (iV (i : Nat)), .val ((RN 1 1) w.heap.size), kT, kT, kT, kT, kT, kT] [.inr 0] [.inl 13] follows S7 rfl (by kernel_rfl) ?_ ?_
  · repeat' refine And.intro ?_ ?_
    · trivial
    · exact mS 1 8
    · exact b_eql_errno_t wA (oO 0 88) (opnd_const _) (h := rfl)
    · exact mO 1 89
    · exact lod 1 (wI 2 90) (loads_of strct_rat (shp_pr shp_zn shp_zn))
    · exact lod 0 (wI 2 90) (loads_of strct_gso shp_sf2)
    · exact mW (wI 2 90) (oS 2 1)
    · exact mW (wI 2 90) (oS 3 2)
    · exact ch3 (wI 2 90) (qO 4 92 rfl) (qO 5 93 rfl) (qO 6 94 rfl) (fresh_rn _ _) (fun w u0 u1 u2 h0 h1 h2 => by obtain rfl : u1 = _ := h1.now; obtain rfl : u2 = _ := h2.now; have h := h0; exact rmu_e w u0 nD nL K D L h hD hL hK lD lL i)
    · exact ch2 (wI 2 90) ((qO 3 91 rfl).imp rn_nmx) ((qO 7 95 rfl).imp rn_nmx) (fresh_is _) (fun w u v h h' => gsame_w w u v _ _ _ _ h h')
    · exact pT wA (oO 2 90) (oO 8 96)
    · exact mO 9 97
    · exact owe_call0 rfl (wI 10 98) rfl  (fresh_is _) rfl (fun args w => by go_simp) (fun w => gawake_w w)
    · exact pT wA (oO 10 98) (oO 11 99)
    · exact mO 12 100
  intro B8 a8 W8 (S8 : Sta w 101 [(3, (.box 25 (SF [(Vv nD D K), (Mv nL L K)])))] [(6, bT)] _ _ _)
  refine wp_ret ?_
  exact end_one S8 rfl (res_tmp S8 0 6 rfl)

set_option maxHeartbeats 4000000 in
theorem parts_6 (w : World) (u : Value) (nD nL K : Nat) (D : List Int) (L : List (List Int)) (h : Hs w (SF [Vv nD D K, Mv nL L K]) u) (hD : nD ≤ 1048576) (hL : nL ≤ 1048576) (hK : K ≤ 1048576) (lD : D.length = nD) (lL : L.length = nL) (i j d0 d1 : Nat) (g : Good D L) (hi : i < nL) (hd : D.getD i 0 = (d0 : Int)) (hd0 : d0 ≠ 0) (hj : j < i) (hd1 : D.getD (j + 1) 0 = (d1 : Int)) (hd10 : d1 ≠ 0) :
    Calls Tryz.prog 3 #[u, .int .i64 (i : Nat), .int .i64 (j : Nat)] w (Gives (IS (.bool true)) w) := by
  refine calls_sta (sl := [(0, (SF [(Vv nD D K), (Mv nL L K)])), (1, (iV (i : Nat))), (2, (iV (j : Nat)))]) Tryz.func3 rfl Tryz.ntmps3 (by simp) (args_cons rfl (h) (args_cons rfl (is_has _) (args_cons rfl (is_has _) args_nil))) ?_
  intro a0 S0
  refine wp_stmt_seq [.new (.box 25 (SF [(Vv nD D K), (Mv nL L K)])), kF] [.inl 0] [.inr 1, .inr 2] follows S0 rfl (by kernel_rfl) ?_ ?_
  · refine ⟨⟨trivial, ?_⟩, ?_⟩
    · exact owe_box rfl wA rfl (oS 0 0) rfl (fun ρ w h => box_gso shp_sf2 ρ _ _ w h)
    · exact mC
  intro B1 a1 W1 (S1 : Sta w 101 [(3, (.box 25 (SF [(Vv nD D K), (Mv nL L K)])))] [(1, iV (i : Nat)), (2, iV (j : Nat))] _ _ _)
  refine wp_stmt_seq [.val (SF [(Vv nD D K), (Mv nL L K)]), .val (iV (i : Nat)), .val (iV (j : Nat)), .val ((TWO (RN (nR ((L.getD i []).getD j 0) d1) (dR ((L.getD i []).getD j 0) d1)) (IS (.int .i64 0))) w.heap.size), .val ((TWO (RN (nR ((L.getD i []).getD j 0) d1) (dR ((L.getD i []).getD j 0) d1)) (IS (.int .i64 0))) w.heap.size), .val ((RN (nR ((L.getD i []).getD j 0) d1) (dR ((L.getD i []).getD j 0) d1)) w.heap.size), .val (iV 0), .new (.box 30 zR), .put (.inr 7) (.box 30 ((RN (nR ((L.getD i []).getD j 0) d1) (dR ((L.getD i []).getD j 0) d1)) w.heap.size)), .val (iV 0)] [.inr 0, .inl 7] [.inl 9, .inr 0, .inr 1] follows S1 rfl (by kernel_rfl) ?_ ?_
  · repeat' refine And.intro ?_ ?_
    · trivial
    · exact lod 0 wA (loads_of strct_gso shp_sf2)
    · exact mS 0 1
    · exact mS 1 2
    · exact ch3 wA (qO 0 12 rfl) (qO 1 13 rfl) (qO 2 14 rfl) (fresh_two (fresh_rn _ _) (fresh_is _)) (fun w u0 u1 u2 h0 h1 h2 => by obtain rfl : u1 = _ := h1.now; obtain rfl : u2 = _ := h2.now; have h := h0; exact mu_m w u0 nD nL K D L h hD hL hK lD lL i j d1 g hi hj hd1 hd10)
    · exact mO 3 15
    · exact e20 wA (oO 4 11)
    · exact e21 wA (oO 4 11)
    · exact owe_new rfl wA rfl rfl (fun ρ w => alloc_rat ρ _ w)
    · exact owe_put 7 rfl wA rfl (by kernel_rfl) rfl (oO 5 16) (stores_of strct_rat shp_r0 (shp_pr shp_zn shp_zn)) rfl
    · exact mO 6 17
  intro B2 a2 W2 (S2 : Sta w 101 [(3, (.box 25 (SF [(Vv nD D K), (Mv nL L K)]))), (7, (.box 30 ((RN (nR ((L.getD i []).getD j 0) d1) (dR ((L.getD i []).getD j 0) d1)) w.heap.size)))] [(8, iV 0), (1, iV (i : Nat)), (2, iV (j : Nat))] _ _ _)
  refine wp_stmt_seq [.val (SF [(Vv nD D K), (Mv nL L K)]), .val (iV (i : Nat)), .val ((TWO (RN (nR (D.getD (i + 1) 0) d0) (dR (D.getD (i + 1) 0) d0)) (IS (.int .i64 0))) w.heap.size), .val ((TWO (RN (nR (D.getD (i + 1) 0) d0) (dR (D.getD (i + 1) 0) d0)) (IS (.int .i64 0))) w.heap.size), .val ((RN (nR (D.getD (i + 1) 0) d0) (dR (D.getD (i + 1) 0) d0)) w.heap.size), .val (iV 0), .new (.box 30 zR), .put (.inr 6) (.box 30 ((RN (nR (D.getD (i + 1) 0) d0) (dR (D.getD (i + 1) 0) d0)) w.heap.size)), .val (iV 0)] [.inr 0, .inr 1, .inl 6] [.inl 8, .inr 0, .inr 1, .inr 2] follows S2 rfl (by kernel_rfl) ?_ ?_
  · repeat' refine And.intro ?_ ?_
    · trivial
    · exact lod 0 wA (loads_of strct_gso shp_sf2)
    · exact mS 1 1
    · exact ch2 wA (qO 0 19 rfl) (qO 1 20 rfl) (fresh_two (fresh_rn _ _) (fresh_is _)) (fun w u0 u1 h0 h1 => by obtain rfl : u1 = _ := h1.now; have h := h0; exact star_m w u0 nD nL K D L h hD hL hK lD lL i d0 g hi hd hd0)
    · exact mO 2 21
    · exact e20 wA (oO 3 18)
    · exact e21 wA (oO 3 18)
    · exact owe_new rfl wA rfl rfl (fun ρ w => alloc_rat ρ _ w)
    · exact owe_put 6 rfl wA rfl (by kernel_rfl) rfl (oO 4 22) (stores_of strct_rat shp_r0 (shp_pr shp_zn shp_zn)) rfl
    · exact mO 5 23
  intro B3 a3 W3 (S3 : Sta w 101 [(3, (.box 25 (SF [(Vv nD D K), (Mv nL L K)]))), (7, (.box 30 ((RN (nR ((L.getD i []).getD j 0) d1) (dR ((L.getD i []).getD j 0) d1)) w.heap.size))), (9, (.box 30 ((RN (nR (D.getD (i + 1) 0) d0) (dR (D.getD (i + 1) 0) d0)) w.heap.size)))] [(10, iV 0), (8, iV 0), (1, iV (i : Nat)), (2, iV (j : Nat))] _ _ _)
  refine wp_seq ?_
  refine wp_stmt_seq [.val (SF [(Vv nD D K), (Mv nL L K)]), kT, kF] [.inr 0, .inr 1, .inr 2] [.inl 2, .inr 0, .inr 1, .inr 2, .inr 3] follows S3 rfl (by kernel_rfl) ?_ ?_
  · refine ⟨⟨⟨trivial, ?_⟩, ?_⟩, ?_⟩
    · exact lod 0 wA (loads_of strct_gso shp_sf2)
    · exact ch1 wA (qO 0 24 rfl) (fresh_is _) (fun w u0 h0 => by  have h := h0; exact good_t w u0 nD nL K D L h hD hL hK lD lL g)
    · exact b_not wA (oO 1 25)
  intro B4 a4 W4 (S4 : Sta w 101 [(3, (.box 25 (SF [(Vv nD D K), (Mv nL L K)]))), (7, (.box 30 ((RN (nR ((L.getD i []).getD j 0) d1) (dR ((L.getD i []).getD j 0) d1)) w.heap.size))), (9, (.box 30 ((RN (nR (D.getD (i + 1) 0) d0) (dR (D.getD (i + 1) 0) d0)) w.heap.size)))] [(26, bF), (10, iV 0), (8, iV 0), (1, iV (i : Nat)), (2, iV (j : Nat))] _ _ _)
  refine wp_cond_false (S4.bool 0 26 rfl) ?_
  refine wp_skip ?_
  refine thenN ?_
  refine wp_seq ?_
  refine wp_stmt_seq [.val (iV (i : Nat)), kF, kF, .val (iV (i : Nat)), .val (Part a4 3 1), .val (Mv nL L K), .val (iV (nL : Nat)), kF, kF] [.inr 0, .inr 1, .inr 2] [.inl 8, .inr 1, .inr 2, .inr 3, .inr 4] follows S4 rfl (by kernel_rfl) ?_ ?_
  · repeat' refine And.intro ?_ ?_
    · trivial
    · exact mS 3 1
    · exact b_lss_int_f wA (oO 0 46) (opnd_const _)
    · exact mO 1 47
    · exact mW (wI 2 48) (oS 3 1)
    · exact owe_part rfl (wI 2 48) rfl (k := 0) rfl (by kernel_rfl) rfl (fun ρ w b h => part_gso1 ρ _ _ w b 0 h)
    · exact owe_pload rfl (wI 2 48) rfl (oO 4 50) (k := 0) rfl (by kernel_rfl) rfl (fun ρ w b u h1 h2 h3 => ploadS rfl load1_mat ρ _ _ w b u h1 h2 h3)
    · exact owe_len rfl (wI 2 48) rfl (oO 5 51) ar_len Tryz.underlying23 rfl
    · exact b_geq_int_f (wI 2 48) (oO 3 49) (oO 6 52)
    · exact pF wA (oO 2 48) (oO 7 53)
  intro B5 a5 W5 (S5 : Sta w 101 [(3, (.box 25 (SF [(Vv nD D K), (Mv nL L K)]))), (7, (.box 30 ((RN (nR ((L.getD i []).getD j 0) d1) (dR ((L.getD i []).getD j 0) d1)) w.heap.size))), (9, (.box 30 ((RN (nR (D.getD (i + 1) 0) d0) (dR (D.getD (i + 1) 0) d0)) w.heap.size)))] [(54, bF), (10, iV 0), (8, iV 0), (1, iV (i : Nat)), (2, iV (j : Nat))] _ _ _)
  refine wp_cond_false (S5.bool 0 54 rfl) ?_
  refine wp_stmt_seq [.val (iV 0), kF, kF, .val ((RN (nR (D.getD (i + 1) 0) d0) (dR (D.getD (i + 1) 0) d0)) w.heap.size), .val (SF [(Vv nD D K), (Mv nL L K)]), .val (iV (i : Nat)), .val ((RN (nR (D.getD (i + 1) 0) d0) (dR (D.getD (i + 1) 0) d0)) w.heap.size), kT, kF, kF] [.inr 0, .inr 1] [.inl 9, .inr 2, .inr 3, .inr 4] follows S5 rfl (by kernel_rfl) ?_ ?_
  · repeat' refine And.intro ?_ ?_
    · trivial
    · exact mS 1 10
    · exact b_neq_errno_f wA (oO 0 63) (opnd_const _) (h := rfl)
    · exact mO 1 64
    · exact lod 2 (wI 2 65) (loads_of strct_rat (shp_pr shp_zn shp_zn))
    · exact lod 0 (wI 2 65) (loads_of strct_gso shp_sf2)
    · exact mW (wI 2 65) (oS 3 1)
    · exact ch2 (wI 2 65) (qO 4 67 rfl) (qO 5 68 rfl) (fresh_rn _ _) (fun w u0 u1 h0 h1 => by obtain rfl : u1 = _ := h1.now; have h := h0; exact rstar_m w u0 nD nL K D L h hD hL hK lD lL i d0 g hi hd hd0)
    · exact ch2 (wI 2 65) ((qO 3 66 rfl).imp rn_nmx) ((qO 6 69 rfl).imp rn_nmx) (fresh_is _) (fun w u v h h' => gsame_w w u v _ _ _ _ h h')
    · exact b_not (wI 2 65) (oO 7 70)
    · exact pF wA (oO 2 65) (oO 8 71)
  intro B6 a6 W6 (S6 : Sta w 101 [(3, (.box 25 (SF [(Vv nD D K), (Mv nL L K)]))), (7, (.box 30 ((RN (nR ((L.getD i []).getD j 0) d1) (dR ((L.getD i []).getD j 0) d1)) w.heap.size)))] [(72, bF), (8, iV 0), (1, iV (i : Nat)), (2, iV (j : Nat))] _ _ _)
  refine wp_cond_false (S6.bool 0 72 rfl) ?_
  refine wp_skip ?_
  refine thenN ?_
  refine wp_seq ?_
  refine wp_stmt_seq [.val (SF [(Vv nD D K), (Mv nL L K)]), .val (iV (i : Nat)), .val (iV (j : Nat)), kT, kF] [.inr 0, .inr 1] [.inl 4, .inr 1, .inr 2, .inr 3] follows S6 rfl (by kernel_rfl) ?_ ?_
  · refine ⟨⟨⟨⟨⟨trivial, ?_⟩, ?_⟩, ?_⟩, ?_⟩, ?_⟩
    · exact lod 0 wA (loads_of strct_gso shp_sf2)
    · exact mS 2 1
    · exact mS 3 2
    · exact ch3 wA (qO 0 73 rfl) (qO 1 74 rfl) (qO 2 75 rfl) (fresh_is _) (fun w u0 u1 u2 h0 h1 h2 => by obtain rfl : u1 = _ := h1.now; obtain rfl : u2 = _ := h2.now; have h := h0; exact place_t w u0 nD nL K D L h hD hL hK lD lL i j hi (by omega))
    · exact b_not wA (oO 3 76)
  intro B7 a7 W7 (S7 : Sta w 101 [(3, (.box 25 (SF [(Vv nD D K), (Mv nL L K)]))), (7, (.box 30 ((RN (nR ((L.getD i []).getD j 0) d1) (dR ((L.getD i []).getD j 0) d1)) w.heap.size)))] [(77, bF), (8, iV 0), (1, iV (i : Nat)), (2, iV (j : Nat))] _ _ _)
  refine wp_cond_false (S7.bool 0 77 rfl) ?_
  refine wp_skip ?_
  refine thenN ?_
  refine wp_stmt_seq [.val (iV 0), kT, kT, .val ((RN (nR ((L.getD i []).getD j 0) d1) (dR ((L.getD i []).getD j 0) d1)) w.heap.size), .val (SF [(Vv nD D K), (Mv nL L K)]), .val (iV (i : Nat)), .val (iV (j : Nat)), .val ((RN (nR ((L.getD i []).getD j 0) d1) (dR ((L.getD i []).getD j 0) d1)) w.heap.size), kT, kT, kT, kT, kT, kT] [.inr 0] [.inl 13] follows S7 rfl (by kernel_rfl) ?_ ?_
  · repeat' refine And.intro ?_ ?_
    · trivial
    · exact mS 1 8
    · exact b_eql_errno_t wA (oO 0 88) (opnd_const _) (h := rfl)
    · exact mO 1 89
    · exact lod 1 (wI 2 90) (loads_of strct_rat (shp_pr shp_zn shp_zn))
    · exact lod 0 (wI 2 90) (loads_of strct_gso shp_sf2)
    · exact mW (wI 2 90) (oS 2 1)
    · exact mW (wI 2 90) (oS 3 2)
    · exact ch3 (wI 2 90) (qO 4 92 rfl) (qO 5 93 rfl) (qO 6 94 rfl) (fresh_rn _ _) (fun w u0 u1 u2 h0 h1 h2 => by obtain rfl : u1 = _ := h1.now; obtain rfl : u2 = _ := h2.now; have h := h0; exact rmu_m w u0 nD nL K D L h hD hL hK lD lL i j d1 g hi hj hd1 hd10)
    · exact ch2 (wI 2 90) ((qO 3 91 rfl).imp rn_nmx) ((qO 7 95 rfl).imp rn_nmx) (fresh_is _) (fun w u v h h' => gsame_w w u v _ _ _ _ h h')
    · exact pT wA (oO 2 90) (oO 8 96)
    · exact mO 9 97
    · exact owe_call0 rfl (wI 10 98) rfl  (fresh_is _) rfl (fun args w => by go_simp) (fun w => gawake_w w)
    · exact pT wA (oO 10 98) (oO 11 99)
    · exact mO 12 100
  intro B8 a8 W8 (S8 : Sta w 101 [(3, (.box 25 (SF [(Vv nD D K), (Mv nL L K)])))] [(6, bT)] _ _ _)
  refine wp_ret ?_
  exact end_one S8 rfl (res_tmp S8 0 6 rfl)


theorem pos_nat {z : Int} (h : 0 < z) : ∃ d : Nat, z = (d : Int) ∧ d ≠ 0 := ⟨z.toNat, by omega, by omega⟩
theorem gsoparts_w (w : World) (u : Value) (nD nL K : Nat) (D : List Int) (L : List (List Int)) (h : Hs w (SF [Vv nD D K, Mv nL L K]) u) (hD : nD ≤ 1048576) (hL : nL ≤ 1048576) (hK : K ≤ 1048576) (lD : D.length = nD) (lL : L.length = nL) (i j : Int) : Calls Tryz.prog 3 #[u, .int .i64 i, .int .i64 j] w (Gives (IS (.bool true)) w) := by
  rcases good_or D L with g | g
  · by_cases h1 : i < 0
    · exact parts_2 w u nD nL K D L h hD hL hK lD lL i j g h1 (by omega)
    by_cases h2 : (nL : Int) ≤ i
    · exact parts_3 w u nD nL K D L h hD hL hK lD lL i j g (by omega) h2 (by omega)
    obtain ⟨i', rfl⟩ : ∃ i' : Nat, i = (i' : Int) := ⟨i.toNat, by omega⟩
    have hl := g.len
    obtain ⟨d0, hd, hd0⟩ := pos_nat (g.d i' (by omega))
    by_cases h3 : j < 0 ∨ (i' : Int) < j
    · exact parts_4 w u nD nL K D L h hD hL hK lD lL i' d0 j g (by omega) hd hd0 (by omega)
    obtain ⟨j', rfl⟩ : ∃ j' : Nat, j = (j' : Int) := ⟨j.toNat, by omega⟩
    by_cases h4 : i' = j'
    · subst h4
      exact parts_5 w u nD nL K D L h hD hL hK lD lL i' d0 g (by omega) hd hd0
    · obtain ⟨d1, hd1, hd10⟩ := pos_nat (g.d (j' + 1) (by omega))
      exact parts_6 w u nD nL K D L h hD hL hK lD lL i' j' d0 d1 g (by omega) hd hd0 (by omega) hd1 hd10
  · exact parts_1 w u nD nL K D L h hD hL hK lD lL i j g
theorem gsoparts_walk (w : World) (a : Option Addr) (n c : Nat) (es : List El) (b : Option Addr) (m d : Nat) (rs : List Rw) (i j : Int) (s1 : Ls w a n c es) (s2 : Ms w b m d rs) (b0 : c ≤ 1048576) (b0' : ∀ (i : Nat) (e : El), es[i]? = some e → e.c ≤ 1048576) (b1 : d ≤ 1048576) (b1' : ∀ (i : Nat) (r : Rw), rs[i]? = some r → r.c ≤ 1048576 ∧ ∀ (j : Nat) (e : El), r.es[j]? = some e → e.c ≤ 1048576) (hi : -9223372036854775808 ≤ i ∧ i ≤ 9223372036854775807) (hj : -9223372036854775808 ≤ j ∧ j ≤ 9223372036854775807) :
    Calls Tryz.prog 3 #[.agg #[.slice a n c, .slice b m d], .int .i64 i, .int .i64 j] w fun e w' => e = .returned (.bool true) ∧ Below w.heap.size w w' := by
  have q0 := s1.cap
  have q1 := s2.cap
  refine (gsoparts_w w _ n m 1048576 _ _ (gso_hs s1 s2 b0' b1') (by omega) (by omega) (Nat.le_refl _) (by simp [s1.len]) (by simp [zz, s2.len]) i j).mono ?_
  rintro e w' ⟨v, rfl, hb, hv⟩
  obtain rfl : v = _ := hv
  exact ⟨rfl, hb⟩
end Go.Proofs.YtkiholgfamfgeaaGreat
