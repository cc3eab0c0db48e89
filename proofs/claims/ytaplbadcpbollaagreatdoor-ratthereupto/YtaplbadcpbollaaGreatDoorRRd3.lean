/-
  The document's digits, number and Read of rationals.
-/
import Derived.Test.YtaplbadcpbollaaGreatDoorTxF
namespace Go.Proofs.YtaplbadcpbollaaGreatDoor
open Go Go.RowKit Nt
set_option linter.unusedSimpArgs false
set_option linter.unusedVariables false
set_option maxRecDepth 20000


theorem ne_run {l : List UInt8} {fa e : Nat} (h : NE l fa true e) (ha : fa ≤ l.length) : (fa + 1 < e → bt l fa ≠ 48) ∧ (e = l.length ∨ (e < l.length ∧ bt l e < 48) ∨ (e < l.length ∧ 48 ≤ bt l e ∧ 57 < bt l e) ∨ (e < l.length ∧ 48 ≤ bt l e ∧ bt l e ≤ 57 ∧ e = fa + 1 ∧ bt l fa = 48)) := by
  rcases h with ⟨h1, h2, h3⟩ | ⟨h1, h2, h3, h4, h5⟩
  · simp at h3
    refine ⟨fun h => by omega, ?_⟩
    omega
  · refine ⟨fun h h48 => h1 ⟨by omega, h48⟩, ?_⟩
    rcases Nat.lt_or_ge e l.length with h6 | h6
    · have := dgB_no.1 (h5 h6)
      omega
    · exact Or.inl (by omega)

set_option maxHeartbeats 4000000 in
theorem dgt_t (w : World) (l : List UInt8) (fa e : Nat) (hl : l.length ≤ 131072) (ha : fa ≤ l.length) (h : NE l fa true e) (hlt0 : fa < e) :
    Calls Tryz.prog 27 #[str l, .int .i64 (fa : Nat)] w (Gives (TWO (IS (.int .i64 (e : Nat))) (IS (.bool true))) w) := by
  obtain ⟨g1, g2, g3⟩ := ne_le h
  have g2 := g2 ha
  obtain ⟨g5, g6⟩ := ne_run h ha
  refine calls_sta (sl := [(0, (sV l)), (1, (iV (fa : Nat)))]) Tryz.func27 rfl Tryz.ntmps27 (by simp) (args_cons rfl (is_has _) (args_cons rfl (is_has _) args_nil)) ?_
  intro a0 S0
  refine wp_stmt_seq [.val (iV 0), kF] [] [.inr 0, .inr 1] follows S0 rfl (by kernel_rfl) ?_ ?_
  · refine ⟨⟨trivial, ?_⟩, ?_⟩
    · exact mC
    · exact mC
  intro B1 a1 W1 (S1 : Sta w 43 [] [(0, sV l), (1, iV (fa : Nat))] _ _ _)
  refine wp_stmt_seq [.val (iV (fa : Nat)), .val (iV (fa : Nat))] [] [.inl 1, .inr 0, .inr 1] follows S1 rfl (by kernel_rfl) ?_ ?_
  · refine ⟨⟨trivial, ?_⟩, ?_⟩
    · exact mS 1 1
    · exact mO 0 7
  intro B2 a2 W2 (S2 : Sta w 43 [] [(6, iV (fa : Nat)), (0, sV l), (1, iV (fa : Nat))] _ _ _)
  refine wp_seq ?_
  refine wp_block ?_
  refine wp_loop_ghost (fun (k0 : Nat) a W => (fa ≤ k0 ∧ k0 ≤ e) ∧ ∃ Bq, Sta w 43 [] [(6, iV k0), (0, sV l), (1, iV (fa : Nat))] Bq a W) (fun (k0 : Nat) => e - k0) ?_ fa ⟨⟨Nat.le_refl _, g1⟩, B2, S2.sub [] [0, 1, 2]⟩
  rintro k0 a3 W3 ⟨hcond, B3, S3⟩
  by_cases hlt : k0 < e
  · have hb := dgB_iff.1 (g3 k0 (by omega) hlt)
    have hbl := bt_lt l k0
    by_cases hk1 : k0 = fa + 1
    · skip
      have h48 := g5 (by omega)
      refine wp_seq ?_
      refine wp_stmt_seq [.val (iV k0), .val (sV l), .val (iV ((l).length : Nat)), kT, kT, .val (sV l), .val (iV k0), .val (Is (.int .u8 ((bt l k0 : Nat) : Int))), kT, kT, kT, .val (sV l), .val (iV k0), .val (Is (.int .u8 ((bt l k0 : Nat) : Int))), kT, kT, kT, .val (iV k0), .val (iV (fa : Nat)), .val (iV ((fa + 1 : Nat) : Int)), kT, kT, .val (sV l), .val (iV (fa : Nat)), .val (Is (.int .u8 ((bt l fa : Nat) : Int))), kF, kF, kT, kT] [] [.inl 28, .inr 0, .inr 1, .inr 2] follows S3 rfl (by kernel_rfl) ?_ ?_
      · repeat' refine And.intro ?_ ?_
        · trivial
        · exact mS 0 6
        · exact mS 1 0
        · exact b_lens wA (oO 1 9)
        · exact b_lss_int_t wA (oO 0 8) (oO 2 10)
        · exact mO 3 11
        · exact mW (wI 4 12) (oS 1 0)
        · exact mW (wI 4 12) (oS 0 6)
        · exact b_idx (wI 4 12) (oO 5 13) (oO 6 14)
        · exact b_geq_u8_t (wI 4 12) (oO 7 15) (opnd_const _)
        · exact pT wA (oO 4 12) (oO 8 16)
        · exact mO 9 17
        · exact mW (wI 10 18) (oS 1 0)
        · exact mW (wI 10 18) (oS 0 6)
        · exact b_idx (wI 10 18) (oO 11 19) (oO 12 20)
        · exact b_leq_u8_t (wI 10 18) (oO 13 21) (opnd_const _)
        · exact pT wA (oO 10 18) (oO 14 22)
        · exact mO 15 23
        · exact mW (wI 16 24) (oS 0 6)
        · exact mW (wI 16 24) (oS 2 1)
        · exact b_add_int (wI 16 24) (oO 18 26) (opnd_const _)
        · exact b_eql_int_t (wI 16 24) (oO 17 25) (oO 19 27)
        · exact mW (wI 16 24) (oO 20 28)
        · exact mW (wI 21 29) (oS 1 0)
        · exact mW (wI 21 29) (oS 2 1)
        · exact b_idx (wI 21 29) (oO 22 30) (oO 23 31)
        · exact b_eql_u8_f (wI 21 29) (oO 24 32) (opnd_const _)
        · exact pT (wI 16 24) (oO 21 29) (oO 25 33)
        · exact b_not (wI 16 24) (oO 26 34)
        · exact pT wA (oO 16 24) (oO 27 35)
      intro B4 a4 W4 (S4 : Sta w 43 [] [(36, bT), (6, iV k0), (0, sV l), (1, iV (fa : Nat))] _ _ _)
      refine wp_cond_true (S4.bool 0 36 rfl) ?_
      refine wp_skip ?_
      refine thenN ?_
      refine wp_block ?_
      refine wp_stmt [.val (iV k0), .val (iV (k0 + 1 : Nat)), .val (iV (k0 + 1 : Nat))] [] [.inl 2, .inr 2, .inr 3] follows S4 rfl (by kernel_rfl) ?_ ?_
      · refine ⟨⟨⟨trivial, ?_⟩, ?_⟩, ?_⟩
        · exact mS 1 6
        · exact b_add_int wA (oO 0 37) (opnd_const _)
        · exact mO 1 38
      intro B5 a5 W5 (S5 : Sta w 43 [] [(6, iV (k0 + 1 : Nat)), (0, sV l), (1, iV (fa : Nat))] _ _ _)
      refine inBlkN ?_
      refine thenN ?_
      exact ⟨k0 + 1, ⟨by omega, B5, S5.sub [] [0, 1, 2]⟩, by omega⟩
    · skip
      refine wp_seq ?_
      refine wp_stmt_seq [.val (iV k0), .val (sV l), .val (iV ((l).length : Nat)), kT, kT, .val (sV l), .val (iV k0), .val (Is (.int .u8 ((bt l k0 : Nat) : Int))), kT, kT, kT, .val (sV l), .val (iV k0), .val (Is (.int .u8 ((bt l k0 : Nat) : Int))), kT, kT, kT, .val (iV k0), .val (iV (fa : Nat)), .val (iV ((fa + 1 : Nat) : Int)), kF, kF, .off, .off, .off, .off, kF, kT, kT] [] [.inl 28, .inr 0, .inr 1, .inr 2] follows S3 rfl (by kernel_rfl) ?_ ?_
      · repeat' refine And.intro ?_ ?_
        · trivial
        · exact mS 0 6
        · exact mS 1 0
        · exact b_lens wA (oO 1 9)
        · exact b_lss_int_t wA (oO 0 8) (oO 2 10)
        · exact mO 3 11
        · exact mW (wI 4 12) (oS 1 0)
        · exact mW (wI 4 12) (oS 0 6)
        · exact b_idx (wI 4 12) (oO 5 13) (oO 6 14)
        · exact b_geq_u8_t (wI 4 12) (oO 7 15) (opnd_const _)
        · exact pT wA (oO 4 12) (oO 8 16)
        · exact mO 9 17
        · exact mW (wI 10 18) (oS 1 0)
        · exact mW (wI 10 18) (oS 0 6)
        · exact b_idx (wI 10 18) (oO 11 19) (oO 12 20)
        · exact b_leq_u8_t (wI 10 18) (oO 13 21) (opnd_const _)
        · exact pT wA (oO 10 18) (oO 14 22)
        · exact mO 15 23
        · exact mW (wI 16 24) (oS 0 6)
        · exact mW (wI 16 24) (oS 2 1)
        · exact b_add_int (wI 16 24) (oO 18 26) (opnd_const _)
        · exact b_eql_int_f (wI 16 24) (oO 17 25) (oO 19 27)
        · exact mW (wI 16 24) (oO 20 28)
        · exact oF 21 29
        · exact oF 21 29
        · exact oF 21 29
        · exact oF 21 29
        · exact pF (wI 16 24) (oO 21 29) (opnd_const _)
        · exact b_not (wI 16 24) (oO 26 34)
        · exact pT wA (oO 16 24) (oO 27 35)
      intro B4 a4 W4 (S4 : Sta w 43 [] [(36, bT), (6, iV k0), (0, sV l), (1, iV (fa : Nat))] _ _ _)
      refine wp_cond_true (S4.bool 0 36 rfl) ?_
      refine wp_skip ?_
      refine thenN ?_
      refine wp_block ?_
      refine wp_stmt [.val (iV k0), .val (iV (k0 + 1 : Nat)), .val (iV (k0 + 1 : Nat))] [] [.inl 2, .inr 2, .inr 3] follows S4 rfl (by kernel_rfl) ?_ ?_
      · refine ⟨⟨⟨trivial, ?_⟩, ?_⟩, ?_⟩
        · exact mS 1 6
        · exact b_add_int wA (oO 0 37) (opnd_const _)
        · exact mO 1 38
      intro B5 a5 W5 (S5 : Sta w 43 [] [(6, iV (k0 + 1 : Nat)), (0, sV l), (1, iV (fa : Nat))] _ _ _)
      refine inBlkN ?_
      refine thenN ?_
      exact ⟨k0 + 1, ⟨by omega, B5, S5.sub [] [0, 1, 2]⟩, by omega⟩
  · have ek : k0 = e := by omega
    rw [ek] at S3
    rcases g6 with hq | ⟨hq, hq2⟩ | ⟨hq, hq2, hq3⟩ | ⟨hq, hq2, hq3, hq4, hq5⟩
    · skip
      refine wp_seq ?_
      refine wp_stmt_seq [.val (iV (e : Nat)), .val (sV l), .val (iV ((l).length : Nat)), kF, kF, .off, .off, .off, .off, kF, kF, .off, .off, .off, .off, kF, kF, .off, .off, .off, .off, .val (Is (undef)), .off, .off, .off, .off, .off, .off, kF] [] [.inl 28, .inr 0, .inr 1, .inr 2] follows S3 rfl (by kernel_rfl) ?_ ?_
      · repeat' refine And.intro ?_ ?_
        · trivial
        · exact mS 0 6
        · exact mS 1 0
        · exact b_lens wA (oO 1 9)
        · exact b_lss_int_f wA (oO 0 8) (oO 2 10)
        · exact mO 3 11
        · exact oF 4 12
        · exact oF 4 12
        · exact oF 4 12
        · exact oF 4 12
        · exact pF wA (oO 4 12) (opnd_const _)
        · exact mO 9 17
        · exact oF 10 18
        · exact oF 10 18
        · exact oF 10 18
        · exact oF 10 18
        · exact pF wA (oO 10 18) (opnd_const _)
        · exact mO 15 23
        · exact oF 16 24
        · exact oF 16 24
        · exact oF 16 24
        · exact oF 16 24
        · exact owe_offv 16 24 rfl rfl rfl (by kernel_rfl) rfl (by decide)
        · exact owe_offu 21 29 rfl rfl rfl (by kernel_rfl) rfl
        · exact owe_offu 21 29 rfl rfl rfl (by kernel_rfl) rfl
        · exact owe_offu 21 29 rfl rfl rfl (by kernel_rfl) rfl
        · exact owe_offu 21 29 rfl rfl rfl (by kernel_rfl) rfl
        · exact oF 16 24
        · exact oF 16 24
        · exact pF wA (oO 16 24) (opnd_const _)
      intro B4 a4 W4 (S4 : Sta w 43 [] [(36, bF), (6, iV (e : Nat)), (0, sV l), (1, iV (fa : Nat))] _ _ _)
      refine wp_cond_false (S4.bool 0 36 rfl) ?_
      refine wp_exit ?_
      refine thenX ?_
      refine thenX ?_
      refine inBlkE ?_
      refine thenN ?_
      refine wp_stmt_seq [.val (iV (e : Nat)), .val (iV (e : Nat)), .val (iV (fa : Nat)), kT, .val (iV (e : Nat)), kT] [] [.inl 4, .inl 5, .inr 1, .inr 2, .inr 3] follows S4 rfl (by kernel_rfl) ?_ ?_
      · refine ⟨⟨⟨⟨⟨⟨trivial, ?_⟩, ?_⟩, ?_⟩, ?_⟩, ?_⟩, ?_⟩
        · exact mS 1 6
        · exact mS 1 6
        · exact mS 3 1
        · exact b_gtr_int_t wA (oO 1 40) (oO 2 41)
        · exact mO 0 39
        · exact mO 3 42
      intro B5 a5 W5 (S5 : Sta w 43 [] [(4, iV (e : Nat)), (5, bT), (6, iV (e : Nat)), (0, sV l), (1, iV (fa : Nat))] _ _ _)
      refine wp_ret ?_
      exact end_two S5 rfl (res_tmp S5 0 4 rfl) (res_tmp S5 1 5 rfl)
    · skip
      refine wp_seq ?_
      refine wp_stmt_seq [.val (iV (e : Nat)), .val (sV l), .val (iV ((l).length : Nat)), kT, kT, .val (sV l), .val (iV (e : Nat)), .val (Is (.int .u8 ((bt l e : Nat) : Int))), kF, kF, kF, .off, .off, .off, .off, kF, kF, .off, .off, .off, .off, .val (Is (undef)), .off, .off, .off, .off, .off, .off, kF] [] [.inl 28, .inr 0, .inr 1, .inr 2] follows S3 rfl (by kernel_rfl) ?_ ?_
      · repeat' refine And.intro ?_ ?_
        · trivial
        · exact mS 0 6
        · exact mS 1 0
        · exact b_lens wA (oO 1 9)
        · exact b_lss_int_t wA (oO 0 8) (oO 2 10)
        · exact mO 3 11
        · exact mW (wI 4 12) (oS 1 0)
        · exact mW (wI 4 12) (oS 0 6)
        · exact b_idx (wI 4 12) (oO 5 13) (oO 6 14)
        · exact b_geq_u8_f (wI 4 12) (oO 7 15) (opnd_const _)
        · exact pT wA (oO 4 12) (oO 8 16)
        · exact mO 9 17
        · exact oF 10 18
        · exact oF 10 18
        · exact oF 10 18
        · exact oF 10 18
        · exact pF wA (oO 10 18) (opnd_const _)
        · exact mO 15 23
        · exact oF 16 24
        · exact oF 16 24
        · exact oF 16 24
        · exact oF 16 24
        · exact owe_offv 16 24 rfl rfl rfl (by kernel_rfl) rfl (by decide)
        · exact owe_offu 21 29 rfl rfl rfl (by kernel_rfl) rfl
        · exact owe_offu 21 29 rfl rfl rfl (by kernel_rfl) rfl
        · exact owe_offu 21 29 rfl rfl rfl (by kernel_rfl) rfl
        · exact owe_offu 21 29 rfl rfl rfl (by kernel_rfl) rfl
        · exact oF 16 24
        · exact oF 16 24
        · exact pF wA (oO 16 24) (opnd_const _)
      intro B4 a4 W4 (S4 : Sta w 43 [] [(36, bF), (6, iV (e : Nat)), (0, sV l), (1, iV (fa : Nat))] _ _ _)
      refine wp_cond_false (S4.bool 0 36 rfl) ?_
      refine wp_exit ?_
      refine thenX ?_
      refine thenX ?_
      refine inBlkE ?_
      refine thenN ?_
      refine wp_stmt_seq [.val (iV (e : Nat)), .val (iV (e : Nat)), .val (iV (fa : Nat)), kT, .val (iV (e : Nat)), kT] [] [.inl 4, .inl 5, .inr 1, .inr 2, .inr 3] follows S4 rfl (by kernel_rfl) ?_ ?_
      · refine ⟨⟨⟨⟨⟨⟨trivial, ?_⟩, ?_⟩, ?_⟩, ?_⟩, ?_⟩, ?_⟩
        · exact mS 1 6
        · exact mS 1 6
        · exact mS 3 1
        · exact b_gtr_int_t wA (oO 1 40) (oO 2 41)
        · exact mO 0 39
        · exact mO 3 42
      intro B5 a5 W5 (S5 : Sta w 43 [] [(4, iV (e : Nat)), (5, bT), (6, iV (e : Nat)), (0, sV l), (1, iV (fa : Nat))] _ _ _)
      refine wp_ret ?_
      exact end_two S5 rfl (res_tmp S5 0 4 rfl) (res_tmp S5 1 5 rfl)
    · skip
      refine wp_seq ?_
      refine wp_stmt_seq [.val (iV (e : Nat)), .val (sV l), .val (iV ((l).length : Nat)), kT, kT, .val (sV l), .val (iV (e : Nat)), .val (Is (.int .u8 ((bt l e : Nat) : Int))), kT, kT, kT, .val (sV l), .val (iV (e : Nat)), .val (Is (.int .u8 ((bt l e : Nat) : Int))), kF, kF, kF, .off, .off, .off, .off, .val (Is (undef)), .off, .off, .off, .off, .off, .off, kF] [] [.inl 28, .inr 0, .inr 1, .inr 2] follows S3 rfl (by kernel_rfl) ?_ ?_
      · repeat' refine And.intro ?_ ?_
        · trivial
        · exact mS 0 6
        · exact mS 1 0
        · exact b_lens wA (oO 1 9)
        · exact b_lss_int_t wA (oO 0 8) (oO 2 10)
        · exact mO 3 11
        · exact mW (wI 4 12) (oS 1 0)
        · exact mW (wI 4 12) (oS 0 6)
        · exact b_idx (wI 4 12) (oO 5 13) (oO 6 14)
        · exact b_geq_u8_t (wI 4 12) (oO 7 15) (opnd_const _)
        · exact pT wA (oO 4 12) (oO 8 16)
        · exact mO 9 17
        · exact mW (wI 10 18) (oS 1 0)
        · exact mW (wI 10 18) (oS 0 6)
        · exact b_idx (wI 10 18) (oO 11 19) (oO 12 20)
        · exact b_leq_u8_f (wI 10 18) (oO 13 21) (opnd_const _)
        · exact pT wA (oO 10 18) (oO 14 22)
        · exact mO 15 23
        · exact oF 16 24
        · exact oF 16 24
        · exact oF 16 24
        · exact oF 16 24
        · exact owe_offv 16 24 rfl rfl rfl (by kernel_rfl) rfl (by decide)
        · exact owe_offu 21 29 rfl rfl rfl (by kernel_rfl) rfl
        · exact owe_offu 21 29 rfl rfl rfl (by kernel_rfl) rfl
        · exact owe_offu 21 29 rfl rfl rfl (by kernel_rfl) rfl
        · exact owe_offu 21 29 rfl rfl rfl (by kernel_rfl) rfl
        · exact oF 16 24
        · exact oF 16 24
        · exact pF wA (oO 16 24) (opnd_const _)
      intro B4 a4 W4 (S4 : Sta w 43 [] [(36, bF), (6, iV (e : Nat)), (0, sV l), (1, iV (fa : Nat))] _ _ _)
      refine wp_cond_false (S4.bool 0 36 rfl) ?_
      refine wp_exit ?_
      refine thenX ?_
      refine thenX ?_
      refine inBlkE ?_
      refine thenN ?_
      refine wp_stmt_seq [.val (iV (e : Nat)), .val (iV (e : Nat)), .val (iV (fa : Nat)), kT, .val (iV (e : Nat)), kT] [] [.inl 4, .inl 5, .inr 1, .inr 2, .inr 3] follows S4 rfl (by kernel_rfl) ?_ ?_
      · refine ⟨⟨⟨⟨⟨⟨trivial, ?_⟩, ?_⟩, ?_⟩, ?_⟩, ?_⟩, ?_⟩
        · exact mS 1 6
        · exact mS 1 6
        · exact mS 3 1
        · exact b_gtr_int_t wA (oO 1 40) (oO 2 41)
        · exact mO 0 39
        · exact mO 3 42
      intro B5 a5 W5 (S5 : Sta w 43 [] [(4, iV (e : Nat)), (5, bT), (6, iV (e : Nat)), (0, sV l), (1, iV (fa : Nat))] _ _ _)
      refine wp_ret ?_
      exact end_two S5 rfl (res_tmp S5 0 4 rfl) (res_tmp S5 1 5 rfl)
    · skip
      refine wp_seq ?_
      refine wp_stmt_seq [.val (iV (e : Nat)), .val (sV l), .val (iV ((l).length : Nat)), kT, kT, .val (sV l), .val (iV (e : Nat)), .val (Is (.int .u8 ((bt l e : Nat) : Int))), kT, kT, kT, .val (sV l), .val (iV (e : Nat)), .val (Is (.int .u8 ((bt l e : Nat) : Int))), kT, kT, kT, .val (iV (e : Nat)), .val (iV (fa : Nat)), .val (iV ((fa + 1 : Nat) : Int)), kT, kT, .val (sV l), .val (iV (fa : Nat)), .val (Is (.int .u8 ((bt l fa : Nat) : Int))), kT, kT, kF, kF] [] [.inl 28, .inr 0, .inr 1, .inr 2] follows S3 rfl (by kernel_rfl) ?_ ?_
      · repeat' refine And.intro ?_ ?_
        · trivial
        · exact mS 0 6
        · exact mS 1 0
        · exact b_lens wA (oO 1 9)
        · exact b_lss_int_t wA (oO 0 8) (oO 2 10)
        · exact mO 3 11
        · exact mW (wI 4 12) (oS 1 0)
        · exact mW (wI 4 12) (oS 0 6)
        · exact b_idx (wI 4 12) (oO 5 13) (oO 6 14)
        · exact b_geq_u8_t (wI 4 12) (oO 7 15) (opnd_const _)
        · exact pT wA (oO 4 12) (oO 8 16)
        · exact mO 9 17
        · exact mW (wI 10 18) (oS 1 0)
        · exact mW (wI 10 18) (oS 0 6)
        · exact b_idx (wI 10 18) (oO 11 19) (oO 12 20)
        · exact b_leq_u8_t (wI 10 18) (oO 13 21) (opnd_const _)
        · exact pT wA (oO 10 18) (oO 14 22)
        · exact mO 15 23
        · exact mW (wI 16 24) (oS 0 6)
        · exact mW (wI 16 24) (oS 2 1)
        · exact b_add_int (wI 16 24) (oO 18 26) (opnd_const _)
        · exact b_eql_int_t (wI 16 24) (oO 17 25) (oO 19 27)
        · exact mW (wI 16 24) (oO 20 28)
        · exact mW (wI 21 29) (oS 1 0)
        · exact mW (wI 21 29) (oS 2 1)
        · exact b_idx (wI 21 29) (oO 22 30) (oO 23 31)
        · exact b_eql_u8_t (wI 21 29) (oO 24 32) (opnd_const _)
        · exact pT (wI 16 24) (oO 21 29) (oO 25 33)
        · exact b_not (wI 16 24) (oO 26 34)
        · exact pT wA (oO 16 24) (oO 27 35)
      intro B4 a4 W4 (S4 : Sta w 43 [] [(36, bF), (6, iV (e : Nat)), (0, sV l), (1, iV (fa : Nat))] _ _ _)
      refine wp_cond_false (S4.bool 0 36 rfl) ?_
      refine wp_exit ?_
      refine thenX ?_
      refine thenX ?_
      refine inBlkE ?_
      refine thenN ?_
      refine wp_stmt_seq [.val (iV (e : Nat)), .val (iV (e : Nat)), .val (iV (fa : Nat)), kT, .val (iV (e : Nat)), kT] [] [.inl 4, .inl 5, .inr 1, .inr 2, .inr 3] follows S4 rfl (by kernel_rfl) ?_ ?_
      · refine ⟨⟨⟨⟨⟨⟨trivial, ?_⟩, ?_⟩, ?_⟩, ?_⟩, ?_⟩, ?_⟩
        · exact mS 1 6
        · exact mS 1 6
        · exact mS 3 1
        · exact b_gtr_int_t wA (oO 1 40) (oO 2 41)
        · exact mO 0 39
        · exact mO 3 42
      intro B5 a5 W5 (S5 : Sta w 43 [] [(4, iV (e : Nat)), (5, bT), (6, iV (e : Nat)), (0, sV l), (1, iV (fa : Nat))] _ _ _)
      refine wp_ret ?_
      exact end_two S5 rfl (res_tmp S5 0 4 rfl) (res_tmp S5 1 5 rfl)

set_option maxHeartbeats 4000000 in
theorem dgt_f (w : World) (l : List UInt8) (fa e : Nat) (hl : l.length ≤ 131072) (ha : fa ≤ l.length) (h : NE l fa true e) (hlt0 : e = fa) :
    Calls Tryz.prog 27 #[str l, .int .i64 (fa : Nat)] w (Gives (TWO (IS (.int .i64 (e : Nat))) (IS (.bool false))) w) := by
  obtain ⟨g1, g2, g3⟩ := ne_le h
  have g2 := g2 ha
  obtain ⟨g5, g6⟩ := ne_run h ha
  refine calls_sta (sl := [(0, (sV l)), (1, (iV (fa : Nat)))]) Tryz.func27 rfl Tryz.ntmps27 (by simp) (args_cons rfl (is_has _) (args_cons rfl (is_has _) args_nil)) ?_
  intro a0 S0
  refine wp_stmt_seq [.val (iV 0), kF] [] [.inr 0, .inr 1] follows S0 rfl (by kernel_rfl) ?_ ?_
  · refine ⟨⟨trivial, ?_⟩, ?_⟩
    · exact mC
    · exact mC
  intro B1 a1 W1 (S1 : Sta w 43 [] [(0, sV l), (1, iV (fa : Nat))] _ _ _)
  refine wp_stmt_seq [.val (iV (fa : Nat)), .val (iV (fa : Nat))] [] [.inl 1, .inr 0, .inr 1] follows S1 rfl (by kernel_rfl) ?_ ?_
  · refine ⟨⟨trivial, ?_⟩, ?_⟩
    · exact mS 1 1
    · exact mO 0 7
  intro B2 a2 W2 (S2 : Sta w 43 [] [(6, iV (fa : Nat)), (0, sV l), (1, iV (fa : Nat))] _ _ _)
  refine wp_seq ?_
  refine wp_block ?_
  refine wp_loop_ghost (fun (k0 : Nat) a W => (fa ≤ k0 ∧ k0 ≤ e) ∧ ∃ Bq, Sta w 43 [] [(6, iV k0), (0, sV l), (1, iV (fa : Nat))] Bq a W) (fun (k0 : Nat) => e - k0) ?_ fa ⟨⟨Nat.le_refl _, g1⟩, B2, S2.sub [] [0, 1, 2]⟩
  rintro k0 a3 W3 ⟨hcond, B3, S3⟩
  by_cases hlt : k0 < e
  · have hb := dgB_iff.1 (g3 k0 (by omega) hlt)
    have hbl := bt_lt l k0
    by_cases hk1 : k0 = fa + 1
    · skip
      have h48 := g5 (by omega)
      refine wp_seq ?_
      refine wp_stmt_seq [.val (iV k0), .val (sV l), .val (iV ((l).length : Nat)), kT, kT, .val (sV l), .val (iV k0), .val (Is (.int .u8 ((bt l k0 : Nat) : Int))), kT, kT, kT, .val (sV l), .val (iV k0), .val (Is (.int .u8 ((bt l k0 : Nat) : Int))), kT, kT, kT, .val (iV k0), .val (iV (fa : Nat)), .val (iV ((fa + 1 : Nat) : Int)), kT, kT, .val (sV l), .val (iV (fa : Nat)), .val (Is (.int .u8 ((bt l fa : Nat) : Int))), kF, kF, kT, kT] [] [.inl 28, .inr 0, .inr 1, .inr 2] follows S3 rfl (by kernel_rfl) ?_ ?_
      · repeat' refine And.intro ?_ ?_
        · trivial
        · exact mS 0 6
        · exact mS 1 0
        · exact b_lens wA (oO 1 9)
        · exact b_lss_int_t wA (oO 0 8) (oO 2 10)
        · exact mO 3 11
        · exact mW (wI 4 12) (oS 1 0)
        · exact mW (wI 4 12) (oS 0 6)
        · exact b_idx (wI 4 12) (oO 5 13) (oO 6 14)
        · exact b_geq_u8_t (wI 4 12) (oO 7 15) (opnd_const _)
        · exact pT wA (oO 4 12) (oO 8 16)
        · exact mO 9 17
        · exact mW (wI 10 18) (oS 1 0)
        · exact mW (wI 10 18) (oS 0 6)
        · exact b_idx (wI 10 18) (oO 11 19) (oO 12 20)
        · exact b_leq_u8_t (wI 10 18) (oO 13 21) (opnd_const _)
        · exact pT wA (oO 10 18) (oO 14 22)
        · exact mO 15 23
        · exact mW (wI 16 24) (oS 0 6)
        · exact mW (wI 16 24) (oS 2 1)
        · exact b_add_int (wI 16 24) (oO 18 26) (opnd_const _)
        · exact b_eql_int_t (wI 16 24) (oO 17 25) (oO 19 27)
        · exact mW (wI 16 24) (oO 20 28)
        · exact mW (wI 21 29) (oS 1 0)
        · exact mW (wI 21 29) (oS 2 1)
        · exact b_idx (wI 21 29) (oO 22 30) (oO 23 31)
        · exact b_eql_u8_f (wI 21 29) (oO 24 32) (opnd_const _)
        · exact pT (wI 16 24) (oO 21 29) (oO 25 33)
        · exact b_not (wI 16 24) (oO 26 34)
        · exact pT wA (oO 16 24) (oO 27 35)
      intro B4 a4 W4 (S4 : Sta w 43 [] [(36, bT), (6, iV k0), (0, sV l), (1, iV (fa : Nat))] _ _ _)
      refine wp_cond_true (S4.bool 0 36 rfl) ?_
      refine wp_skip ?_
      refine thenN ?_
      refine wp_block ?_
      refine wp_stmt [.val (iV k0), .val (iV (k0 + 1 : Nat)), .val (iV (k0 + 1 : Nat))] [] [.inl 2, .inr 2, .inr 3] follows S4 rfl (by kernel_rfl) ?_ ?_
      · refine ⟨⟨⟨trivial, ?_⟩, ?_⟩, ?_⟩
        · exact mS 1 6
        · exact b_add_int wA (oO 0 37) (opnd_const _)
        · exact mO 1 38
      intro B5 a5 W5 (S5 : Sta w 43 [] [(6, iV (k0 + 1 : Nat)), (0, sV l), (1, iV (fa : Nat))] _ _ _)
      refine inBlkN ?_
      refine thenN ?_
      exact ⟨k0 + 1, ⟨by omega, B5, S5.sub [] [0, 1, 2]⟩, by omega⟩
    · skip
      refine wp_seq ?_
      refine wp_stmt_seq [.val (iV k0), .val (sV l), .val (iV ((l).length : Nat)), kT, kT, .val (sV l), .val (iV k0), .val (Is (.int .u8 ((bt l k0 : Nat) : Int))), kT, kT, kT, .val (sV l), .val (iV k0), .val (Is (.int .u8 ((bt l k0 : Nat) : Int))), kT, kT, kT, .val (iV k0), .val (iV (fa : Nat)), .val (iV ((fa + 1 : Nat) : Int)), kF, kF, .off, .off, .off, .off, kF, kT, kT] [] [.inl 28, .inr 0, .inr 1, .inr 2] follows S3 rfl (by kernel_rfl) ?_ ?_
      · repeat' refine And.intro ?_ ?_
        · trivial
        · exact mS 0 6
        · exact mS 1 0
        · exact b_lens wA (oO 1 9)
        · exact b_lss_int_t wA (oO 0 8) (oO 2 10)
        · exact mO 3 11
        · exact mW (wI 4 12) (oS 1 0)
        · exact mW (wI 4 12) (oS 0 6)
        · exact b_idx (wI 4 12) (oO 5 13) (oO 6 14)
        · exact b_geq_u8_t (wI 4 12) (oO 7 15) (opnd_const _)
        · exact pT wA (oO 4 12) (oO 8 16)
        · exact mO 9 17
        · exact mW (wI 10 18) (oS 1 0)
        · exact mW (wI 10 18) (oS 0 6)
        · exact b_idx (wI 10 18) (oO 11 19) (oO 12 20)
        · exact b_leq_u8_t (wI 10 18) (oO 13 21) (opnd_const _)
        · exact pT wA (oO 10 18) (oO 14 22)
        · exact mO 15 23
        · exact mW (wI 16 24) (oS 0 6)
        · exact mW (wI 16 24) (oS 2 1)
        · exact b_add_int (wI 16 24) (oO 18 26) (opnd_const _)
        · exact b_eql_int_f (wI 16 24) (oO 17 25) (oO 19 27)
        · exact mW (wI 16 24) (oO 20 28)
        · exact oF 21 29
        · exact oF 21 29
        · exact oF 21 29
        · exact oF 21 29
        · exact pF (wI 16 24) (oO 21 29) (opnd_const _)
        · exact b_not (wI 16 24) (oO 26 34)
        · exact pT wA (oO 16 24) (oO 27 35)
      intro B4 a4 W4 (S4 : Sta w 43 [] [(36, bT), (6, iV k0), (0, sV l), (1, iV (fa : Nat))] _ _ _)
      refine wp_cond_true (S4.bool 0 36 rfl) ?_
      refine wp_skip ?_
      refine thenN ?_
      refine wp_block ?_
      refine wp_stmt [.val (iV k0), .val (iV (k0 + 1 : Nat)), .val (iV (k0 + 1 : Nat))] [] [.inl 2, .inr 2, .inr 3] follows S4 rfl (by kernel_rfl) ?_ ?_
      · refine ⟨⟨⟨trivial, ?_⟩, ?_⟩, ?_⟩
        · exact mS 1 6
        · exact b_add_int wA (oO 0 37) (opnd_const _)
        · exact mO 1 38
      intro B5 a5 W5 (S5 : Sta w 43 [] [(6, iV (k0 + 1 : Nat)), (0, sV l), (1, iV (fa : Nat))] _ _ _)
      refine inBlkN ?_
      refine thenN ?_
      exact ⟨k0 + 1, ⟨by omega, B5, S5.sub [] [0, 1, 2]⟩, by omega⟩
  · have ek : k0 = e := by omega
    rw [ek] at S3
    rcases g6 with hq | ⟨hq, hq2⟩ | ⟨hq, hq2, hq3⟩ | ⟨hq, hq2, hq3, hq4, hq5⟩
    · skip
      refine wp_seq ?_
      refine wp_stmt_seq [.val (iV (e : Nat)), .val (sV l), .val (iV ((l).length : Nat)), kF, kF, .off, .off, .off, .off, kF, kF, .off, .off, .off, .off, kF, kF, .off, .off, .off, .off, .val (Is (undef)), .off, .off, .off, .off, .off, .off, kF] [] [.inl 28, .inr 0, .inr 1, .inr 2] follows S3 rfl (by kernel_rfl) ?_ ?_
      · repeat' refine And.intro ?_ ?_
        · trivial
        · exact mS 0 6
        · exact mS 1 0
        · exact b_lens wA (oO 1 9)
        · exact b_lss_int_f wA (oO 0 8) (oO 2 10)
        · exact mO 3 11
        · exact oF 4 12
        · exact oF 4 12
        · exact oF 4 12
        · exact oF 4 12
        · exact pF wA (oO 4 12) (opnd_const _)
        · exact mO 9 17
        · exact oF 10 18
        · exact oF 10 18
        · exact oF 10 18
        · exact oF 10 18
        · exact pF wA (oO 10 18) (opnd_const _)
        · exact mO 15 23
        · exact oF 16 24
        · exact oF 16 24
        · exact oF 16 24
        · exact oF 16 24
        · exact owe_offv 16 24 rfl rfl rfl (by kernel_rfl) rfl (by decide)
        · exact owe_offu 21 29 rfl rfl rfl (by kernel_rfl) rfl
        · exact owe_offu 21 29 rfl rfl rfl (by kernel_rfl) rfl
        · exact owe_offu 21 29 rfl rfl rfl (by kernel_rfl) rfl
        · exact owe_offu 21 29 rfl rfl rfl (by kernel_rfl) rfl
        · exact oF 16 24
        · exact oF 16 24
        · exact pF wA (oO 16 24) (opnd_const _)
      intro B4 a4 W4 (S4 : Sta w 43 [] [(36, bF), (6, iV (e : Nat)), (0, sV l), (1, iV (fa : Nat))] _ _ _)
      refine wp_cond_false (S4.bool 0 36 rfl) ?_
      refine wp_exit ?_
      refine thenX ?_
      refine thenX ?_
      refine inBlkE ?_
      refine thenN ?_
      refine wp_stmt_seq [.val (iV (e : Nat)), .val (iV (e : Nat)), .val (iV (fa : Nat)), kF, .val (iV (e : Nat)), kF] [] [.inl 4, .inl 5, .inr 1, .inr 2, .inr 3] follows S4 rfl (by kernel_rfl) ?_ ?_
      · refine ⟨⟨⟨⟨⟨⟨trivial, ?_⟩, ?_⟩, ?_⟩, ?_⟩, ?_⟩, ?_⟩
        · exact mS 1 6
        · exact mS 1 6
        · exact mS 3 1
        · exact b_gtr_int_f wA (oO 1 40) (oO 2 41)
        · exact mO 0 39
        · exact mO 3 42
      intro B5 a5 W5 (S5 : Sta w 43 [] [(4, iV (e : Nat)), (5, bF), (6, iV (e : Nat)), (0, sV l), (1, iV (fa : Nat))] _ _ _)
      refine wp_ret ?_
      exact end_two S5 rfl (res_tmp S5 0 4 rfl) (res_tmp S5 1 5 rfl)
    · skip
      refine wp_seq ?_
      refine wp_stmt_seq [.val (iV (e : Nat)), .val (sV l), .val (iV ((l).length : Nat)), kT, kT, .val (sV l), .val (iV (e : Nat)), .val (Is (.int .u8 ((bt l e : Nat) : Int))), kF, kF, kF, .off, .off, .off, .off, kF, kF, .off, .off, .off, .off, .val (Is (undef)), .off, .off, .off, .off, .off, .off, kF] [] [.inl 28, .inr 0, .inr 1, .inr 2] follows S3 rfl (by kernel_rfl) ?_ ?_
      · repeat' refine And.intro ?_ ?_
        · trivial
        · exact mS 0 6
        · exact mS 1 0
        · exact b_lens wA (oO 1 9)
        · exact b_lss_int_t wA (oO 0 8) (oO 2 10)
        · exact mO 3 11
        · exact mW (wI 4 12) (oS 1 0)
        · exact mW (wI 4 12) (oS 0 6)
        · exact b_idx (wI 4 12) (oO 5 13) (oO 6 14)
        · exact b_geq_u8_f (wI 4 12) (oO 7 15) (opnd_const _)
        · exact pT wA (oO 4 12) (oO 8 16)
        · exact mO 9 17
        · exact oF 10 18
        · exact oF 10 18
        · exact oF 10 18
        · exact oF 10 18
        · exact pF wA (oO 10 18) (opnd_const _)
        · exact mO 15 23
        · exact oF 16 24
        · exact oF 16 24
        · exact oF 16 24
        · exact oF 16 24
        · exact owe_offv 16 24 rfl rfl rfl (by kernel_rfl) rfl (by decide)
        · exact owe_offu 21 29 rfl rfl rfl (by kernel_rfl) rfl
        · exact owe_offu 21 29 rfl rfl rfl (by kernel_rfl) rfl
        · exact owe_offu 21 29 rfl rfl rfl (by kernel_rfl) rfl
        · exact owe_offu 21 29 rfl rfl rfl (by kernel_rfl) rfl
        · exact oF 16 24
        · exact oF 16 24
        · exact pF wA (oO 16 24) (opnd_const _)
      intro B4 a4 W4 (S4 : Sta w 43 [] [(36, bF), (6, iV (e : Nat)), (0, sV l), (1, iV (fa : Nat))] _ _ _)
      refine wp_cond_false (S4.bool 0 36 rfl) ?_
      refine wp_exit ?_
      refine thenX ?_
      refine thenX ?_
      refine inBlkE ?_
      refine thenN ?_
      refine wp_stmt_seq [.val (iV (e : Nat)), .val (iV (e : Nat)), .val (iV (fa : Nat)), kF, .val (iV (e : Nat)), kF] [] [.inl 4, .inl 5, .inr 1, .inr 2, .inr 3] follows S4 rfl (by kernel_rfl) ?_ ?_
      · refine ⟨⟨⟨⟨⟨⟨trivial, ?_⟩, ?_⟩, ?_⟩, ?_⟩, ?_⟩, ?_⟩
        · exact mS 1 6
        · exact mS 1 6
        · exact mS 3 1
        · exact b_gtr_int_f wA (oO 1 40) (oO 2 41)
        · exact mO 0 39
        · exact mO 3 42
      intro B5 a5 W5 (S5 : Sta w 43 [] [(4, iV (e : Nat)), (5, bF), (6, iV (e : Nat)), (0, sV l), (1, iV (fa : Nat))] _ _ _)
      refine wp_ret ?_
      exact end_two S5 rfl (res_tmp S5 0 4 rfl) (res_tmp S5 1 5 rfl)
    · skip
      refine wp_seq ?_
      refine wp_stmt_seq [.val (iV (e : Nat)), .val (sV l), .val (iV ((l).length : Nat)), kT, kT, .val (sV l), .val (iV (e : Nat)), .val (Is (.int .u8 ((bt l e : Nat) : Int))), kT, kT, kT, .val (sV l), .val (iV (e : Nat)), .val (Is (.int .u8 ((bt l e : Nat) : Int))), kF, kF, kF, .off, .off, .off, .off, .val (Is (undef)), .off, .off, .off, .off, .off, .off, kF] [] [.inl 28, .inr 0, .inr 1, .inr 2] follows S3 rfl (by kernel_rfl) ?_ ?_
      · repeat' refine And.intro ?_ ?_
        · trivial
        · exact mS 0 6
        · exact mS 1 0
        · exact b_lens wA (oO 1 9)
        · exact b_lss_int_t wA (oO 0 8) (oO 2 10)
        · exact mO 3 11
        · exact mW (wI 4 12) (oS 1 0)
        · exact mW (wI 4 12) (oS 0 6)
        · exact b_idx (wI 4 12) (oO 5 13) (oO 6 14)
        · exact b_geq_u8_t (wI 4 12) (oO 7 15) (opnd_const _)
        · exact pT wA (oO 4 12) (oO 8 16)
        · exact mO 9 17
        · exact mW (wI 10 18) (oS 1 0)
        · exact mW (wI 10 18) (oS 0 6)
        · exact b_idx (wI 10 18) (oO 11 19) (oO 12 20)
        · exact b_leq_u8_f (wI 10 18) (oO 13 21) (opnd_const _)
        · exact pT wA (oO 10 18) (oO 14 22)
        · exact mO 15 23
        · exact oF 16 24
        · exact oF 16 24
        · exact oF 16 24
        · exact oF 16 24
        · exact owe_offv 16 24 rfl rfl rfl (by kernel_rfl) rfl (by decide)
        · exact owe_offu 21 29 rfl rfl rfl (by kernel_rfl) rfl
        · exact owe_offu 21 29 rfl rfl rfl (by kernel_rfl) rfl
        · exact owe_offu 21 29 rfl rfl rfl (by kernel_rfl) rfl
        · exact owe_offu 21 29 rfl rfl rfl (by kernel_rfl) rfl
        · exact oF 16 24
        · exact oF 16 24
        · exact pF wA (oO 16 24) (opnd_const _)
      intro B4 a4 W4 (S4 : Sta w 43 [] [(36, bF), (6, iV (e : Nat)), (0, sV l), (1, iV (fa : Nat))] _ _ _)
      refine wp_cond_false (S4.bool 0 36 rfl) ?_
      refine wp_exit ?_
      refine thenX ?_
      refine thenX ?_
      refine inBlkE ?_
      refine thenN ?_
      refine wp_stmt_seq [.val (iV (e : Nat)), .val (iV (e : Nat)), .val (iV (fa : Nat)), kF, .val (iV (e : Nat)), kF] [] [.inl 4, .inl 5, .inr 1, .inr 2, .inr 3] follows S4 rfl (by kernel_rfl) ?_ ?_
      · refine ⟨⟨⟨⟨⟨⟨trivial, ?_⟩, ?_⟩, ?_⟩, ?_⟩, ?_⟩, ?_⟩
        · exact mS 1 6
        · exact mS 1 6
        · exact mS 3 1
        · exact b_gtr_int_f wA (oO 1 40) (oO 2 41)
        · exact mO 0 39
        · exact mO 3 42
      intro B5 a5 W5 (S5 : Sta w 43 [] [(4, iV (e : Nat)), (5, bF), (6, iV (e : Nat)), (0, sV l), (1, iV (fa : Nat))] _ _ _)
      refine wp_ret ?_
      exact end_two S5 rfl (res_tmp S5 0 4 rfl) (res_tmp S5 1 5 rfl)
    · skip
      refine wp_seq ?_
      refine wp_stmt_seq [.val (iV (e : Nat)), .val (sV l), .val (iV ((l).length : Nat)), kT, kT, .val (sV l), .val (iV (e : Nat)), .val (Is (.int .u8 ((bt l e : Nat) : Int))), kT, kT, kT, .val (sV l), .val (iV (e : Nat)), .val (Is (.int .u8 ((bt l e : Nat) : Int))), kT, kT, kT, .val (iV (e : Nat)), .val (iV (fa : Nat)), .val (iV ((fa + 1 : Nat) : Int)), kT, kT, .val (sV l), .val (iV (fa : Nat)), .val (Is (.int .u8 ((bt l fa : Nat) : Int))), kT, kT, kF, kF] [] [.inl 28, .inr 0, .inr 1, .inr 2] follows S3 rfl (by kernel_rfl) ?_ ?_
      · repeat' refine And.intro ?_ ?_
        · trivial
        · exact mS 0 6
        · exact mS 1 0
        · exact b_lens wA (oO 1 9)
        · exact b_lss_int_t wA (oO 0 8) (oO 2 10)
        · exact mO 3 11
        · exact mW (wI 4 12) (oS 1 0)
        · exact mW (wI 4 12) (oS 0 6)
        · exact b_idx (wI 4 12) (oO 5 13) (oO 6 14)
        · exact b_geq_u8_t (wI 4 12) (oO 7 15) (opnd_const _)
        · exact pT wA (oO 4 12) (oO 8 16)
        · exact mO 9 17
        · exact mW (wI 10 18) (oS 1 0)
        · exact mW (wI 10 18) (oS 0 6)
        · exact b_idx (wI 10 18) (oO 11 19) (oO 12 20)
        · exact b_leq_u8_t (wI 10 18) (oO 13 21) (opnd_const _)
        · exact pT wA (oO 10 18) (oO 14 22)
        · exact mO 15 23
        · exact mW (wI 16 24) (oS 0 6)
        · exact mW (wI 16 24) (oS 2 1)
        · exact b_add_int (wI 16 24) (oO 18 26) (opnd_const _)
        · exact b_eql_int_t (wI 16 24) (oO 17 25) (oO 19 27)
        · exact mW (wI 16 24) (oO 20 28)
        · exact mW (wI 21 29) (oS 1 0)
        · exact mW (wI 21 29) (oS 2 1)
        · exact b_idx (wI 21 29) (oO 22 30) (oO 23 31)
        · exact b_eql_u8_t (wI 21 29) (oO 24 32) (opnd_const _)
        · exact pT (wI 16 24) (oO 21 29) (oO 25 33)
        · exact b_not (wI 16 24) (oO 26 34)
        · exact pT wA (oO 16 24) (oO 27 35)
      intro B4 a4 W4 (S4 : Sta w 43 [] [(36, bF), (6, iV (e : Nat)), (0, sV l), (1, iV (fa : Nat))] _ _ _)
      refine wp_cond_false (S4.bool 0 36 rfl) ?_
      refine wp_exit ?_
      refine thenX ?_
      refine thenX ?_
      refine inBlkE ?_
      refine thenN ?_
      refine wp_stmt_seq [.val (iV (e : Nat)), .val (iV (e : Nat)), .val (iV (fa : Nat)), kF, .val (iV (e : Nat)), kF] [] [.inl 4, .inl 5, .inr 1, .inr 2, .inr 3] follows S4 rfl (by kernel_rfl) ?_ ?_
      · refine ⟨⟨⟨⟨⟨⟨trivial, ?_⟩, ?_⟩, ?_⟩, ?_⟩, ?_⟩, ?_⟩
        · exact mS 1 6
        · exact mS 1 6
        · exact mS 3 1
        · exact b_gtr_int_f wA (oO 1 40) (oO 2 41)
        · exact mO 0 39
        · exact mO 3 42
      intro B5 a5 W5 (S5 : Sta w 43 [] [(4, iV (e : Nat)), (5, bF), (6, iV (e : Nat)), (0, sV l), (1, iV (fa : Nat))] _ _ _)
      refine wp_ret ?_
      exact end_two S5 rfl (res_tmp S5 0 4 rfl) (res_tmp S5 1 5 rfl)

set_option maxHeartbeats 2000000 in
theorem rnum_w (w : World) (t : List UInt8) (hl : t.length ≤ 131072) (hd : ∀ j, j < t.length → dgB (bt t j) = true) :
    Calls Tryz.prog 28 #[str t] w (Gives (NN (decV t)) w) := by
  refine calls_sta (sl := [(0, (sV t))]) Tryz.func28 rfl Tryz.ntmps28 (by simp) (args_cons rfl (is_has _) args_nil) ?_
  intro a0 S0
  refine wp_stmt_seq [.val (Is (.slice none 0 0))] [] [.inr 0] follows S0 rfl (by kernel_rfl) ?_ ?_
  · refine ⟨trivial, ?_⟩
    · exact mC
  intro B1 a1 W1 (S1 : Sta w 22 [] [(0, sV t)] _ _ _)
  refine wp_stmt_seq [.val (Is (.slice none 0 0))] [] [.inl 0, .inr 0] follows S1 rfl (by kernel_rfl) ?_ ?_
  · refine ⟨trivial, ?_⟩
    · exact mC
  intro B2 a2 W2 (S2 : Sta w 22 [] [(3, Is (.slice none 0 0)), (0, sV t)] _ _ _)
  refine wp_seq ?_
  refine wp_stmt_seq [.val (iV 0)] [] [.inl 0, .inr 0, .inr 1] follows S2 rfl (by kernel_rfl) ?_ ?_
  · refine ⟨trivial, ?_⟩
    · exact mC
  intro B3 a3 W3 (S3 : Sta w 22 [] [(4, iV 0), (3, Is (.slice none 0 0)), (0, sV t)] _ _ _)
  refine wp_block ?_
  replace S3 : Sta w 22 [] [(4, iV 0), (3, ((NN (decV (t.take 0))) w.heap.size)), (0, sV t)] B3 a3 W3 := S3.change 1 rfl (fun v w h => zero_nn v w h)
  refine wp_loop_ghost (fun (k0 : Nat) a W => (k0 ≤ t.length) ∧ ∃ Bq, Sta w 22 [] [(4, iV k0), (3, ((NN (decV (t.take k0))) w.heap.size)), (0, sV t)] Bq a W) (fun (k0 : Nat) => t.length - k0) ?_ 0 ⟨Nat.zero_le _, B3, S3.sub [] [0, 1, 2]⟩
  rintro k0 a4 W4 ⟨hcond, B4, S4⟩
  by_cases hlt : k0 < t.length
  · have hb := dgB_iff.1 (hd k0 (by omega))
    have hst : (decV (t.take k0)) * 10 + (bt t k0 - 48 : Nat) = decV (t.take (k0 + 1)) := by rw [decV_step (by omega) (hd k0 (by omega)), Nat.mul_comm]
    have hq1 : (digs (decV (t.take k0))).length ≤ 131072 := decV_dl (dig_take hd k0) (by simp; omega)
    have hq2 : (digs ((decV (t.take k0)) * 10)).length ≤ 131073 := Nat.le_trans (digs_mul_len hq1 (digs_length_le (k := 1) (by omega))) (by omega)
    have hbl := bt_lt t k0
    refine wp_seq ?_
    refine wp_stmt_seq [.val (iV k0), .val (sV t), .val (iV ((t).length : Nat)), kT] [] [.inl 3, .inr 0, .inr 1, .inr 2] follows S4 rfl (by kernel_rfl) ?_ ?_
    · refine ⟨⟨⟨⟨trivial, ?_⟩, ?_⟩, ?_⟩, ?_⟩
      · exact mS 0 4
      · exact mS 2 0
      · exact b_lens wA (oO 1 6)
      · exact b_lss_int_t wA (oO 0 5) (oO 2 7)
    intro B5 a5 W5 (S5 : Sta w 22 [] [(8, bT), (4, iV k0), (3, ((NN (decV (t.take k0))) w.heap.size)), (0, sV t)] _ _ _)
    refine wp_cond_true (S5.bool 0 8 rfl) ?_
    refine wp_skip ?_
    refine thenN ?_
    refine wp_seq ?_
    refine wp_block ?_
    refine wp_stmt [.val ((NN (decV (t.take k0))) w.heap.size), .val ((BS 10) w.heap.size), .val ((NN ((decV (t.take k0)) * 10)) w.heap.size), .val (sV t), .val (iV k0), .val (Is (.int .u8 ((bt t k0 : Nat) : Int))), .val (Is (.int .u8 ((bt t k0 - 48 : Nat) : Int))), .val (Is (.int .u32 (bt t k0 - 48 : Nat))), .val ((BS (bt t k0 - 48 : Nat)) w.heap.size), .val ((NN (decV (t.take (k0 + 1)))) w.heap.size), .val ((NN (decV (t.take (k0 + 1)))) w.heap.size)] [] [.inl 10, .inr 1, .inr 3] follows S5 rfl (by kernel_rfl) ?_ ?_
    · repeat' refine And.intro ?_ ?_
      · trivial
      · exact mS 2 3
      · exact owe_bs rfl wA rfl (opnd_const _) (by decide) rfl
      · exact cc2 wA (qO 0 11 rfl) (qO 1 12 rfl) (fresh_nn _) (fun w u v h1 h2 => g_rmul1 (by omega) w u v ((nn_nv hq1) _ _ h1) (bs_nv _ _ h2))
      · exact mS 3 0
      · exact mS 1 4
      · exact b_idx wA (oO 3 14) (oO 4 15)
      · exact owe_bin rfl wA rfl (oO 5 16) (opnd_const _) rfl (fun ρ w h1 h2 => by exact run_sub_u8 ρ _ _ _ w _ _ _ ⟨by omega, by omega, by omega⟩ h1 h2)
      · exact owe_un (x := .tmp 17) rfl wA rfl (oO 6 17) rfl (fun ρ w h1 => by exact run_conv_8_32 ρ _ _ w _ ⟨by omega, by omega⟩ h1)
      · exact owe_bs rfl wA rfl (oO 7 18) (by omega) rfl
      · exact cc2 wA (qO 2 13 rfl) (qO 8 19 rfl) (fresh_nn _) (fun w u0 u1 h0 h1 => Gives.cast ((fun w u v h1 h2 => g_radd1 (by omega) (by omega) w u v ((nn_nv hq2) _ _ h1) (bs_nv _ _ h2)) w u0 u1 h0 h1) (by rw [hst]))
      · exact mO 9 20
    intro B6 a6 W6 (S6 : Sta w 22 [] [(3, ((NN (decV (t.take (k0 + 1)))) w.heap.size)), (4, iV k0), (0, sV t)] _ _ _)
    refine inBlkN ?_
    refine thenN ?_
    refine wp_stmt [.val (iV k0), .val (iV (k0 + 1 : Nat)), .val (iV (k0 + 1 : Nat))] [] [.inl 2, .inr 0, .inr 2] follows S6 rfl (by kernel_rfl) ?_ ?_
    · refine ⟨⟨⟨trivial, ?_⟩, ?_⟩, ?_⟩
      · exact mS 1 4
      · exact b_add_int wA (oO 0 9) (opnd_const _)
      · exact mO 1 10
    intro B7 a7 W7 (S7 : Sta w 22 [] [(4, iV (k0 + 1 : Nat)), (3, ((NN (decV (t.take (k0 + 1)))) w.heap.size)), (0, sV t)] _ _ _)
    refine thenN ?_
    exact ⟨k0 + 1, ⟨by omega, B7, S7.sub [] [0, 1, 2]⟩, by omega⟩
  · have hend : t.take k0 = t := List.take_of_length_le (by omega)
    rw [hend] at S4
    refine wp_seq ?_
    refine wp_stmt_seq [.val (iV k0), .val (sV t), .val (iV ((t).length : Nat)), kF] [] [.inl 3, .inr 0, .inr 1, .inr 2] follows S4 rfl (by kernel_rfl) ?_ ?_
    · refine ⟨⟨⟨⟨trivial, ?_⟩, ?_⟩, ?_⟩, ?_⟩
      · exact mS 0 4
      · exact mS 2 0
      · exact b_lens wA (oO 1 6)
      · exact b_lss_int_f wA (oO 0 5) (oO 2 7)
    intro B5 a5 W5 (S5 : Sta w 22 [] [(8, bF), (4, iV k0), (3, ((NN (decV t)) w.heap.size)), (0, sV t)] _ _ _)
    refine wp_cond_false (S5.bool 0 8 rfl) ?_
    refine wp_exit ?_
    refine thenX ?_
    refine thenX ?_
    refine inBlkE ?_
    refine thenN ?_
    refine wp_stmt_seq [.val ((NN (decV t)) w.heap.size), .val ((NN (decV t)) w.heap.size)] [] [.inl 1, .inr 1, .inr 2, .inr 3] follows S5 rfl (by kernel_rfl) ?_ ?_
    · refine ⟨⟨trivial, ?_⟩, ?_⟩
      · exact mS 2 3
      · exact mO 0 21
    intro B6 a6 W6 (S6 : Sta w 22 [] [(2, ((NN (decV t)) w.heap.size)), (4, iV k0), (3, ((NN (decV t)) w.heap.size)), (0, sV t)] _ _ _)
    refine wp_ret ?_
    exact end_one S6 rfl (res_tmp S6 0 2 rfl)

set_option maxHeartbeats 2000000 in
theorem rf_long (w : World) (l : List UInt8) (h : 131072 < l.length) :
    Calls Tryz.prog 9 #[str l] w (Gives (THREE (IS (.agg #[.bool false, .slice none 0 0, .bool false, .slice none 0 0])) (IS (.int .i64 0)) (IS (.int .i64 2))) w) := by
  refine calls_sta (sl := [(0, (sV l))]) Tryz.func9 rfl Tryz.ntmps9 (by simp) (args_cons rfl (is_has _) args_nil) ?_
  intro a0 S0
  refine wp_stmt_seq [.new (.box 26 zR), .val (iV 0), .val (iV 0)] [.inl 0] [.inr 0] follows S0 rfl (by kernel_rfl) ?_ ?_
  · refine ⟨⟨⟨trivial, ?_⟩, ?_⟩, ?_⟩
    · exact owe_new rfl wA rfl rfl (fun ρ w => alloc_rat ρ _ w)
    · exact mC
    · exact mC
  intro B1 a1 W1 (S1 : Sta w 95 [(2, (.box 26 zR))] [(0, sV l)] _ _ _)
  refine wp_seq ?_
  refine wp_stmt_seq [.val (sV l), .val (iV ((l).length : Nat)), kT] [.inr 0] [.inl 2, .inr 0] follows S1 rfl (by kernel_rfl) ?_ ?_
  · refine ⟨⟨⟨trivial, ?_⟩, ?_⟩, ?_⟩
    · exact mS 0 0
    · exact b_lens wA (oO 0 10)
    · exact b_gtr_int_t wA (oO 1 11) (opnd_const _)
  intro B2 a2 W2 (S2 : Sta w 95 [(2, (.box 26 zR))] [(12, bT), (0, sV l)] _ _ _)
  refine wp_cond_true (S2.bool 0 12 rfl) ?_
  refine wp_stmt_seq [.val zR, .put (.inl 2) (.box 26 zR), .val (iV 0), .val (iV 2)] [.inr 0] [.inl 2, .inl 3] follows S2 rfl (by kernel_rfl) ?_ ?_
  · refine ⟨⟨⟨⟨trivial, ?_⟩, ?_⟩, ?_⟩, ?_⟩
    · exact owe_build_rat rfl wA rfl rfl
    · exact owe_set rfl wA rfl (k := 0) rfl (by kernel_rfl) (oO 0 13) (stores_of strct_rat shp_r0 shp_r0) rfl
    · exact mC
    · exact mC
  intro B3 a3 W3 (S3 : Sta w 95 [(2, (.box 26 zR))] [(3, iV 0), (4, iV 2)] _ _ _)
  refine wp_ret ?_
  refine thenR ?_
  exact end_three S3 rfl (res_cell S3 0 2 rfl strct_rat shp_r0) (res_tmp S3 0 3 rfl) (res_tmp S3 1 4 rfl)

set_option maxHeartbeats 2000000 in
theorem rf_no0 (w : World) (l : List UInt8) (hl : l.length ≤ 131072) (hN : isN l = true) (h1 : 1 < l.length) (h48 : bt l 1 = 48) :
    Calls Tryz.prog 9 #[str l] w (Gives (THREE (IS (.agg #[.bool false, .slice none 0 0, .bool false, .slice none 0 0])) (IS (.int .i64 1)) (IS (.int .i64 4))) w) := by
  obtain ⟨hp0, hp1⟩ := isN_t hN
  refine calls_sta (sl := [(0, (sV l))]) Tryz.func9 rfl Tryz.ntmps9 (by simp) (args_cons rfl (is_has _) args_nil) ?_
  intro a0 S0
  refine wp_stmt_seq [.new (.box 26 zR), .val (iV 0), .val (iV 0)] [.inl 0] [.inr 0] follows S0 rfl (by kernel_rfl) ?_ ?_
  · refine ⟨⟨⟨trivial, ?_⟩, ?_⟩, ?_⟩
    · exact owe_new rfl wA rfl rfl (fun ρ w => alloc_rat ρ _ w)
    · exact mC
    · exact mC
  intro B1 a1 W1 (S1 : Sta w 95 [(2, (.box 26 zR))] [(0, sV l)] _ _ _)
  refine wp_seq ?_
  refine wp_stmt_seq [.val (sV l), .val (iV ((l).length : Nat)), kF] [.inr 0] [.inl 2, .inr 0] follows S1 rfl (by kernel_rfl) ?_ ?_
  · refine ⟨⟨⟨trivial, ?_⟩, ?_⟩, ?_⟩
    · exact mS 0 0
    · exact b_lens wA (oO 0 10)
    · exact b_gtr_int_f wA (oO 1 11) (opnd_const _)
  intro B2 a2 W2 (S2 : Sta w 95 [(2, (.box 26 zR))] [(12, bF), (0, sV l)] _ _ _)
  refine wp_cond_false (S2.bool 0 12 rfl) ?_
  refine wp_skip ?_
  refine thenN ?_
  refine wp_stmt_seq [.val (iV 0)] [.inr 0] [.inl 0, .inr 1] follows S2 rfl (by kernel_rfl) ?_ ?_
  · refine ⟨trivial, ?_⟩
    · exact mC
  intro B3 a3 W3 (S3 : Sta w 95 [(2, (.box 26 zR))] [(5, iV 0), (0, sV l)] _ _ _)
  refine wp_seq ?_
  refine wp_stmt_seq [.val (sV l), .val (iV ((l).length : Nat)), kT, kT, .val (sV l), .val (Is (.int .u8 ((bt l 0 : Nat) : Int))), kT, kT] [.inr 0] [.inl 7, .inr 0, .inr 1] follows S3 rfl (by kernel_rfl) ?_ ?_
  · repeat' refine And.intro ?_ ?_
    · trivial
    · exact mS 1 0
    · exact b_lens wA (oO 0 14)
    · exact b_gtr_int_t wA (oO 1 15) (opnd_const _)
    · exact mO 2 16
    · exact mW (wI 3 17) (oS 1 0)
    · exact b_idx (k := 0) (wI 3 17) (oO 4 18) (opnd_const _)
    · exact b_eql_u8_t (wI 3 17) (oO 5 19) (opnd_const _)
    · exact pT wA (oO 3 17) (oO 6 20)
  intro B4 a4 W4 (S4 : Sta w 95 [(2, (.box 26 zR))] [(21, bT), (5, iV 0), (0, sV l)] _ _ _)
  refine wp_cond_true (S4.bool 0 21 rfl) ?_
  refine wp_stmt [.val (iV 1)] [.inr 0] [.inl 0, .inr 2] follows S4 rfl (by kernel_rfl) ?_ ?_
  · refine ⟨trivial, ?_⟩
    · exact mC
  intro B5 a5 W5 (S5 : Sta w 95 [(2, (.box 26 zR))] [(5, iV 1), (0, sV l)] _ _ _)
  refine thenN ?_
  refine wp_stmt_seq [.val (sV l), .val (iV 1), .val ((TWO (IS (.int .i64 (2 : Nat))) (IS (.bool true))) w.heap.size), .val ((TWO (IS (.int .i64 (2 : Nat))) (IS (.bool true))) w.heap.size), .val (iV (2 : Nat)), kT, .val (iV (2 : Nat)), kT] [.inr 0] [.inl 6, .inl 7, .inr 0, .inr 1] follows S5 rfl (by kernel_rfl) ?_ ?_
  · repeat' refine And.intro ?_ ?_
    · trivial
    · exact mS 1 0
    · exact mS 0 5
    · exact ch2 wA (qO 0 23 rfl) (qO 1 24 rfl) (fresh_two (fresh_is _) (fresh_is _)) (fun w u0 u1 hx0 hx1 => by obtain rfl : u0 = _ := hx0.now; obtain rfl : u1 = _ := hx1.now; exact dgt_t w l 1 2 hl (by omega) (Or.inl ⟨h1, h48, rfl⟩) (by omega))
    · exact mO 2 25
    · exact e20 wA (oO 3 22)
    · exact e21 wA (oO 3 22)
    · exact mO 4 26
    · exact mO 5 27
  intro B6 a6 W6 (S6 : Sta w 95 [(2, (.box 26 zR))] [(6, iV (2 : Nat)), (7, bT), (5, iV 1), (0, sV l)] _ _ _)
  refine wp_seq ?_
  refine wp_stmt_seq [kT, kF, kF, .val (iV 1), kT, kT, .val (sV l), .val (Is (.int .u8 ((bt l 1 : Nat) : Int))), kT, kT, kT] [.inr 0] [.inl 10, .inr 0, .inr 2, .inr 3] follows S6 rfl (by kernel_rfl) ?_ ?_
  · repeat' refine And.intro ?_ ?_
    · trivial
    · exact mS 1 7
    · exact b_not wA (oO 0 28)
    · exact mO 1 29
    · exact mW (wI 2 30) (oS 2 5)
    · exact b_eql_int_t (wI 2 30) (oO 3 31) (opnd_const _) (h := rfl)
    · exact mW (wI 2 30) (oO 4 32)
    · exact mW (wI 5 33) (oS 3 0)
    · exact b_idx (k := 1) (wI 5 33) (oO 6 34) (opnd_const _)
    · exact b_eql_u8_t (wI 5 33) (oO 7 35) (opnd_const _)
    · exact pT (wI 2 30) (oO 5 33) (oO 8 36)
    · exact pF wA (oO 2 30) (oO 9 37)
  intro B7 a7 W7 (S7 : Sta w 95 [(2, (.box 26 zR))] [(38, bT), (6, iV (2 : Nat)), (5, iV 1), (0, sV l)] _ _ _)
  refine wp_cond_true (S7.bool 0 38 rfl) ?_
  refine wp_stmt_seq [.val zR, .val (iV 1), .put (.inl 2) (.box 26 zR), .val (iV 1), .val (iV 4)] [.inr 0] [.inl 3, .inl 4] follows S7 rfl (by kernel_rfl) ?_ ?_
  · refine ⟨⟨⟨⟨⟨trivial, ?_⟩, ?_⟩, ?_⟩, ?_⟩, ?_⟩
    · exact owe_build_rat rfl wA rfl rfl
    · exact mS 2 5
    · exact owe_set rfl wA rfl (k := 0) rfl (by kernel_rfl) (oO 0 39) (stores_of strct_rat shp_r0 shp_r0) rfl
    · exact mO 1 40
    · exact mC
  intro B8 a8 W8 (S8 : Sta w 95 [(2, (.box 26 zR))] [(3, iV 1), (4, iV 4)] _ _ _)
  refine wp_ret ?_
  refine thenR ?_
  exact end_three S8 rfl (res_cell S8 0 2 rfl strct_rat shp_r0) (res_tmp S8 0 3 rfl) (res_tmp S8 1 4 rfl)

set_option maxHeartbeats 2000000 in
theorem rf_no_n (w : World) (l : List UInt8) (hl : l.length ≤ 131072) (hN : isN l = true) (h : NE l 1 true 1)  :
    Calls Tryz.prog 9 #[str l] w (Gives (THREE (IS (.agg #[.bool false, .slice none 0 0, .bool false, .slice none 0 0])) (IS (.int .i64 ((1 : Nat) : Int))) (IS (.int .i64 4))) w) := by
  obtain ⟨hp0, hp1⟩ := isN_t hN
  refine calls_sta (sl := [(0, (sV l))]) Tryz.func9 rfl Tryz.ntmps9 (by simp) (args_cons rfl (is_has _) args_nil) ?_
  intro a0 S0
  refine wp_stmt_seq [.new (.box 26 zR), .val (iV 0), .val (iV 0)] [.inl 0] [.inr 0] follows S0 rfl (by kernel_rfl) ?_ ?_
  · refine ⟨⟨⟨trivial, ?_⟩, ?_⟩, ?_⟩
    · exact owe_new rfl wA rfl rfl (fun ρ w => alloc_rat ρ _ w)
    · exact mC
    · exact mC
  intro B1 a1 W1 (S1 : Sta w 95 [(2, (.box 26 zR))] [(0, sV l)] _ _ _)
  refine wp_seq ?_
  refine wp_stmt_seq [.val (sV l), .val (iV ((l).length : Nat)), kF] [.inr 0] [.inl 2, .inr 0] follows S1 rfl (by kernel_rfl) ?_ ?_
  · refine ⟨⟨⟨trivial, ?_⟩, ?_⟩, ?_⟩
    · exact mS 0 0
    · exact b_lens wA (oO 0 10)
    · exact b_gtr_int_f wA (oO 1 11) (opnd_const _)
  intro B2 a2 W2 (S2 : Sta w 95 [(2, (.box 26 zR))] [(12, bF), (0, sV l)] _ _ _)
  refine wp_cond_false (S2.bool 0 12 rfl) ?_
  refine wp_skip ?_
  refine thenN ?_
  refine wp_stmt_seq [.val (iV 0)] [.inr 0] [.inl 0, .inr 1] follows S2 rfl (by kernel_rfl) ?_ ?_
  · refine ⟨trivial, ?_⟩
    · exact mC
  intro B3 a3 W3 (S3 : Sta w 95 [(2, (.box 26 zR))] [(5, iV 0), (0, sV l)] _ _ _)
  refine wp_seq ?_
  refine wp_stmt_seq [.val (sV l), .val (iV ((l).length : Nat)), kT, kT, .val (sV l), .val (Is (.int .u8 ((bt l 0 : Nat) : Int))), kT, kT] [.inr 0] [.inl 7, .inr 0, .inr 1] follows S3 rfl (by kernel_rfl) ?_ ?_
  · repeat' refine And.intro ?_ ?_
    · trivial
    · exact mS 1 0
    · exact b_lens wA (oO 0 14)
    · exact b_gtr_int_t wA (oO 1 15) (opnd_const _)
    · exact mO 2 16
    · exact mW (wI 3 17) (oS 1 0)
    · exact b_idx (k := 0) (wI 3 17) (oO 4 18) (opnd_const _)
    · exact b_eql_u8_t (wI 3 17) (oO 5 19) (opnd_const _)
    · exact pT wA (oO 3 17) (oO 6 20)
  intro B4 a4 W4 (S4 : Sta w 95 [(2, (.box 26 zR))] [(21, bT), (5, iV 0), (0, sV l)] _ _ _)
  refine wp_cond_true (S4.bool 0 21 rfl) ?_
  refine wp_stmt [.val (iV 1)] [.inr 0] [.inl 0, .inr 2] follows S4 rfl (by kernel_rfl) ?_ ?_
  · refine ⟨trivial, ?_⟩
    · exact mC
  intro B5 a5 W5 (S5 : Sta w 95 [(2, (.box 26 zR))] [(5, iV 1), (0, sV l)] _ _ _)
  refine thenN ?_
  refine wp_stmt_seq [.val (sV l), .val (iV 1), .val ((TWO (IS (.int .i64 (1 : Nat))) (IS (.bool false))) w.heap.size), .val ((TWO (IS (.int .i64 (1 : Nat))) (IS (.bool false))) w.heap.size), .val (iV (1 : Nat)), kF, .val (iV (1 : Nat)), kF] [.inr 0] [.inl 6, .inl 7, .inr 0, .inr 1] follows S5 rfl (by kernel_rfl) ?_ ?_
  · repeat' refine And.intro ?_ ?_
    · trivial
    · exact mS 1 0
    · exact mS 0 5
    · exact ch2 wA (qO 0 23 rfl) (qO 1 24 rfl) (fresh_two (fresh_is _) (fresh_is _)) (fun w u0 u1 hx0 hx1 => by obtain rfl : u0 = _ := hx0.now; obtain rfl : u1 = _ := hx1.now; exact dgt_f w l 1 1 hl (by omega) h rfl)
    · exact mO 2 25
    · exact e20 wA (oO 3 22)
    · exact e21 wA (oO 3 22)
    · exact mO 4 26
    · exact mO 5 27
  intro B6 a6 W6 (S6 : Sta w 95 [(2, (.box 26 zR))] [(6, iV (1 : Nat)), (7, bF), (5, iV 1), (0, sV l)] _ _ _)
  refine wp_seq ?_
  refine wp_stmt_seq [kF, kT, kT, .off, .off, .val (Is (undef)), .off, .off, .off, .off, kT] [.inr 0] [.inl 10, .inr 0, .inr 2, .inr 3] follows S6 rfl (by kernel_rfl) ?_ ?_
  · repeat' refine And.intro ?_ ?_
    · trivial
    · exact mS 1 7
    · exact b_not wA (oO 0 28)
    · exact mO 1 29
    · exact oF 2 30
    · exact oF 2 30
    · exact owe_offv 2 30 rfl rfl rfl (by kernel_rfl) rfl (by decide)
    · exact owe_offu 5 33 rfl rfl rfl (by kernel_rfl) rfl
    · exact owe_offu 5 33 rfl rfl rfl (by kernel_rfl) rfl
    · exact owe_offu 5 33 rfl rfl rfl (by kernel_rfl) rfl
    · exact oF 2 30
    · exact pT wA (oO 2 30) (opnd_const _)
  intro B7 a7 W7 (S7 : Sta w 95 [(2, (.box 26 zR))] [(38, bT), (6, iV (1 : Nat)), (5, iV 1), (0, sV l)] _ _ _)
  refine wp_cond_true (S7.bool 0 38 rfl) ?_
  refine wp_stmt_seq [.val zR, .val (iV 1), .put (.inl 2) (.box 26 zR), .val (iV 1), .val (iV 4)] [.inr 0] [.inl 3, .inl 4] follows S7 rfl (by kernel_rfl) ?_ ?_
  · refine ⟨⟨⟨⟨⟨trivial, ?_⟩, ?_⟩, ?_⟩, ?_⟩, ?_⟩
    · exact owe_build_rat rfl wA rfl rfl
    · exact mS 2 5
    · exact owe_set rfl wA rfl (k := 0) rfl (by kernel_rfl) (oO 0 39) (stores_of strct_rat shp_r0 shp_r0) rfl
    · exact mO 1 40
    · exact mC
  intro B8 a8 W8 (S8 : Sta w 95 [(2, (.box 26 zR))] [(3, iV 1), (4, iV 4)] _ _ _)
  refine wp_ret ?_
  refine thenR ?_
  exact end_three S8 rfl (res_cell S8 0 2 rfl strct_rat shp_r0) (res_tmp S8 0 3 rfl) (res_tmp S8 1 4 rfl)

set_option maxHeartbeats 2000000 in
theorem rf_whole_n (w : World) (l : List UInt8) (hl : l.length ≤ 131072) (hN : isN l = true) (h : NE l 1 true l.length) (h1 : 1 < l.length) (h48 : bt l 1 ≠ 48)  :
    Calls Tryz.prog 9 #[str l] w (Gives (THREE (RN (sg true (decV ((l.drop 1).take (l.length - 1)))) 1) (IS (.int .i64 0)) (IS (.int .i64 0))) w) := by
  obtain ⟨hp0, hp1⟩ := isN_t hN
  have hqa : (digs (decV ((l.drop 1).take (l.length - 1)))).length ≤ 131072 := decV_dl (dig_seg (ne_le h).2.2 (by omega)) (by simp; omega)
  refine calls_sta (sl := [(0, (sV l))]) Tryz.func9 rfl Tryz.ntmps9 (by simp) (args_cons rfl (is_has _) args_nil) ?_
  intro a0 S0
  refine wp_stmt_seq [.new (.box 26 zR), .val (iV 0), .val (iV 0)] [.inl 0] [.inr 0] follows S0 rfl (by kernel_rfl) ?_ ?_
  · refine ⟨⟨⟨trivial, ?_⟩, ?_⟩, ?_⟩
    · exact owe_new rfl wA rfl rfl (fun ρ w => alloc_rat ρ _ w)
    · exact mC
    · exact mC
  intro B1 a1 W1 (S1 : Sta w 95 [(2, (.box 26 zR))] [(0, sV l)] _ _ _)
  refine wp_seq ?_
  refine wp_stmt_seq [.val (sV l), .val (iV ((l).length : Nat)), kF] [.inr 0] [.inl 2, .inr 0] follows S1 rfl (by kernel_rfl) ?_ ?_
  · refine ⟨⟨⟨trivial, ?_⟩, ?_⟩, ?_⟩
    · exact mS 0 0
    · exact b_lens wA (oO 0 10)
    · exact b_gtr_int_f wA (oO 1 11) (opnd_const _)
  intro B2 a2 W2 (S2 : Sta w 95 [(2, (.box 26 zR))] [(12, bF), (0, sV l)] _ _ _)
  refine wp_cond_false (S2.bool 0 12 rfl) ?_
  refine wp_skip ?_
  refine thenN ?_
  refine wp_stmt_seq [.val (iV 0)] [.inr 0] [.inl 0, .inr 1] follows S2 rfl (by kernel_rfl) ?_ ?_
  · refine ⟨trivial, ?_⟩
    · exact mC
  intro B3 a3 W3 (S3 : Sta w 95 [(2, (.box 26 zR))] [(5, iV 0), (0, sV l)] _ _ _)
  refine wp_seq ?_
  refine wp_stmt_seq [.val (sV l), .val (iV ((l).length : Nat)), kT, kT, .val (sV l), .val (Is (.int .u8 ((bt l 0 : Nat) : Int))), kT, kT] [.inr 0] [.inl 7, .inr 0, .inr 1] follows S3 rfl (by kernel_rfl) ?_ ?_
  · repeat' refine And.intro ?_ ?_
    · trivial
    · exact mS 1 0
    · exact b_lens wA (oO 0 14)
    · exact b_gtr_int_t wA (oO 1 15) (opnd_const _)
    · exact mO 2 16
    · exact mW (wI 3 17) (oS 1 0)
    · exact b_idx (k := 0) (wI 3 17) (oO 4 18) (opnd_const _)
    · exact b_eql_u8_t (wI 3 17) (oO 5 19) (opnd_const _)
    · exact pT wA (oO 3 17) (oO 6 20)
  intro B4 a4 W4 (S4 : Sta w 95 [(2, (.box 26 zR))] [(21, bT), (5, iV 0), (0, sV l)] _ _ _)
  refine wp_cond_true (S4.bool 0 21 rfl) ?_
  refine wp_stmt [.val (iV 1)] [.inr 0] [.inl 0, .inr 2] follows S4 rfl (by kernel_rfl) ?_ ?_
  · refine ⟨trivial, ?_⟩
    · exact mC
  intro B5 a5 W5 (S5 : Sta w 95 [(2, (.box 26 zR))] [(5, iV 1), (0, sV l)] _ _ _)
  refine thenN ?_
  refine wp_stmt_seq [.val (sV l), .val (iV 1), .val ((TWO (IS (.int .i64 (l.length : Nat))) (IS (.bool true))) w.heap.size), .val ((TWO (IS (.int .i64 (l.length : Nat))) (IS (.bool true))) w.heap.size), .val (iV (l.length : Nat)), kT, .val (iV (l.length : Nat)), kT] [.inr 0] [.inl 6, .inl 7, .inr 0, .inr 1] follows S5 rfl (by kernel_rfl) ?_ ?_
  · repeat' refine And.intro ?_ ?_
    · trivial
    · exact mS 1 0
    · exact mS 0 5
    · exact ch2 wA (qO 0 23 rfl) (qO 1 24 rfl) (fresh_two (fresh_is _) (fresh_is _)) (fun w u0 u1 hx0 hx1 => by obtain rfl : u0 = _ := hx0.now; obtain rfl : u1 = _ := hx1.now; exact dgt_t w l 1 (l.length) hl (by omega) h h1)
    · exact mO 2 25
    · exact e20 wA (oO 3 22)
    · exact e21 wA (oO 3 22)
    · exact mO 4 26
    · exact mO 5 27
  intro B6 a6 W6 (S6 : Sta w 95 [(2, (.box 26 zR))] [(6, iV (l.length : Nat)), (7, bT), (5, iV 1), (0, sV l)] _ _ _)
  refine wp_seq ?_
  refine wp_stmt_seq [kT, kF, kF, .val (iV 1), kT, kT, .val (sV l), .val (Is (.int .u8 ((bt l 1 : Nat) : Int))), kF, kF, kF] [.inr 0] [.inl 10, .inr 0, .inr 2, .inr 3] follows S6 rfl (by kernel_rfl) ?_ ?_
  · repeat' refine And.intro ?_ ?_
    · trivial
    · exact mS 1 7
    · exact b_not wA (oO 0 28)
    · exact mO 1 29
    · exact mW (wI 2 30) (oS 2 5)
    · exact b_eql_int_t (wI 2 30) (oO 3 31) (opnd_const _) (h := rfl)
    · exact mW (wI 2 30) (oO 4 32)
    · exact mW (wI 5 33) (oS 3 0)
    · exact b_idx (k := 1) (wI 5 33) (oO 6 34) (opnd_const _)
    · exact b_eql_u8_f (wI 5 33) (oO 7 35) (opnd_const _)
    · exact pT (wI 2 30) (oO 5 33) (oO 8 36)
    · exact pF wA (oO 2 30) (oO 9 37)
  intro B7 a7 W7 (S7 : Sta w 95 [(2, (.box 26 zR))] [(38, bF), (6, iV (l.length : Nat)), (5, iV 1), (0, sV l)] _ _ _)
  refine wp_cond_false (S7.bool 0 38 rfl) ?_
  refine wp_skip ?_
  refine thenN ?_
  refine wp_stmt_seq [.val (iV 1), kT, .val (sV l), .val (iV 1), .val (iV (l.length : Nat)), .val (Is (str ((l.drop 1).take ((l.length) - 1)))), .val ((NN (decV ((l.drop 1).take ((l.length) - 1)))) w.heap.size), .val (Zv (sg true (decV ((l.drop 1).take ((l.length) - 1)))) ((digs (decV ((l.drop 1).take ((l.length) - 1)))).length)), .new (.box 24 zI), .put (.inr 8) (.box 24 (Zv (sg true (decV ((l.drop 1).take ((l.length) - 1)))) ((digs (decV ((l.drop 1).take ((l.length) - 1)))).length)))] [.inr 0, .inl 8] [.inr 1, .inr 3] follows S7 rfl (by kernel_rfl) ?_ ?_
  · repeat' refine And.intro ?_ ?_
    · trivial
    · exact mS 2 5
    · exact b_eql_int_t wA (oO 0 41) (opnd_const _) (h := rfl)
    · exact mS 3 0
    · exact mS 2 5
    · exact mS 1 6
    · exact owe_three3 rfl wA rfl (oO 2 43) (oO 3 44) (oO 4 45) rfl (fun ρ w h1 h2 h3 => run_slb ρ _ _ _ _ w _ 1 (l.length) ⟨by omega, by omega⟩ h1 h2 h3)
    · exact ch1 wA (qO 5 46 rfl) (fresh_nn _) (fun w u hx => by obtain rfl : u = _ := hx.now; exact rnum_w w _ (by simp; omega) (dig_seg (ne_le h).2.2 (by omega)))
    · exact owe_bint2 rfl wA rfl (oO 1 42) ((oO 6 47).imp (nn_nv (Nat.le_refl _))) rfl
    · exact owe_new rfl wA rfl rfl (fun ρ w => alloc_int ρ _ w)
    · exact owe_put 8 rfl wA rfl (by kernel_rfl) rfl (oO 7 48) (stores_of strct_int shp_z0 shp_zv) rfl
  intro B8 a8 W8 (S8 : Sta w 95 [(2, (.box 26 zR)), (8, (.box 24 (Zv (sg true (decV ((l.drop 1).take ((l.length) - 1)))) ((digs (decV ((l.drop 1).take ((l.length) - 1)))).length))))] [(6, iV (l.length : Nat)), (0, sV l)] _ _ _)
  refine wp_seq ?_
  refine wp_stmt_seq [.val (iV (l.length : Nat)), .val (sV l), .val (iV ((l).length : Nat)), kT] [.inr 0, .inr 1] [.inl 3, .inr 0, .inr 1] follows S8 rfl (by kernel_rfl) ?_ ?_
  · refine ⟨⟨⟨⟨trivial, ?_⟩, ?_⟩, ?_⟩, ?_⟩
    · exact mS 0 6
    · exact mS 1 0
    · exact b_lens wA (oO 1 50)
    · exact b_eql_int_t wA (oO 0 49) (oO 2 51)
  intro B9 a9 W9 (S9 : Sta w 95 [(2, (.box 26 zR)), (8, (.box 24 (Zv (sg true (decV ((l.drop 1).take ((l.length) - 1)))) ((digs (decV ((l.drop 1).take ((l.length) - 1)))).length))))] [(52, bT), (6, iV (l.length : Nat)), (0, sV l)] _ _ _)
  refine wp_cond_true (S9.bool 0 52 rfl) ?_
  refine wp_stmt_seq [.val (Zv (sg true (decV ((l.drop 1).take ((l.length) - 1)))) ((digs (decV ((l.drop 1).take ((l.length) - 1)))).length)), .val ((RN (sg true (decV ((l.drop 1).take (l.length - 1)))) 1) w.heap.size), .put (.inl 2) (.box 26 ((RN (sg true (decV ((l.drop 1).take (l.length - 1)))) 1) w.heap.size)), .val (iV 0), .val (iV 0)] [.inr 0] [.inl 3, .inl 4] follows S9 rfl (by kernel_rfl) ?_ ?_
  · refine ⟨⟨⟨⟨⟨trivial, ?_⟩, ?_⟩, ?_⟩, ?_⟩, ?_⟩
    · exact lod 1 wA (loads_of strct_int shp_zv)
    · exact cc1 wA (qO 0 53 rfl) (fresh_rn _ _) (fun w u h1 => g_rofr (by omega) w u h1)
    · exact owe_set rfl wA rfl (k := 0) rfl (by kernel_rfl) (oO 1 54) (stores_of strct_rat shp_r0 (shp_pr shp_zn shp_zn)) rfl
    · exact mC
    · exact mC
  intro B10 a10 W10 (S10 : Sta w 95 [(2, (.box 26 ((RN (sg true (decV ((l.drop 1).take (l.length - 1)))) 1) w.heap.size)))] [(3, iV 0), (4, iV 0)] _ _ _)
  refine wp_ret ?_
  refine thenR ?_
  exact end_three S10 rfl (res_cell S10 0 2 rfl strct_rat (shp_pr shp_zn shp_zn)) (res_tmp S10 0 3 rfl) (res_tmp S10 1 4 rfl)

set_option maxHeartbeats 2000000 in
theorem rf_tail_n (w : World) (l : List UInt8) (hl : l.length ≤ 131072) (hN : isN l = true) (e : Nat) (h : NE l 1 true e) (h1 : 1 < e) (h2 : e < l.length) (h48 : bt l 1 ≠ 48) (h3 : bt l e ≠ 47) :
    Calls Tryz.prog 9 #[str l] w (Gives (THREE (IS (.agg #[.bool false, .slice none 0 0, .bool false, .slice none 0 0])) (IS (.int .i64 (e : Nat))) (IS (.int .i64 4))) w) := by
  obtain ⟨hp0, hp1⟩ := isN_t hN
  have hqa : (digs (decV ((l.drop 1).take (e - 1)))).length ≤ 131072 := decV_dl (dig_seg (ne_le h).2.2 (by omega)) (by simp; omega)
  refine calls_sta (sl := [(0, (sV l))]) Tryz.func9 rfl Tryz.ntmps9 (by simp) (args_cons rfl (is_has _) args_nil) ?_
  intro a0 S0
  refine wp_stmt_seq [.new (.box 26 zR), .val (iV 0), .val (iV 0)] [.inl 0] [.inr 0] follows S0 rfl (by kernel_rfl) ?_ ?_
  · refine ⟨⟨⟨trivial, ?_⟩, ?_⟩, ?_⟩
    · exact owe_new rfl wA rfl rfl (fun ρ w => alloc_rat ρ _ w)
    · exact mC
    · exact mC
  intro B1 a1 W1 (S1 : Sta w 95 [(2, (.box 26 zR))] [(0, sV l)] _ _ _)
  refine wp_seq ?_
  refine wp_stmt_seq [.val (sV l), .val (iV ((l).length : Nat)), kF] [.inr 0] [.inl 2, .inr 0] follows S1 rfl (by kernel_rfl) ?_ ?_
  · refine ⟨⟨⟨trivial, ?_⟩, ?_⟩, ?_⟩
    · exact mS 0 0
    · exact b_lens wA (oO 0 10)
    · exact b_gtr_int_f wA (oO 1 11) (opnd_const _)
  intro B2 a2 W2 (S2 : Sta w 95 [(2, (.box 26 zR))] [(12, bF), (0, sV l)] _ _ _)
  refine wp_cond_false (S2.bool 0 12 rfl) ?_
  refine wp_skip ?_
  refine thenN ?_
  refine wp_stmt_seq [.val (iV 0)] [.inr 0] [.inl 0, .inr 1] follows S2 rfl (by kernel_rfl) ?_ ?_
  · refine ⟨trivial, ?_⟩
    · exact mC
  intro B3 a3 W3 (S3 : Sta w 95 [(2, (.box 26 zR))] [(5, iV 0), (0, sV l)] _ _ _)
  refine wp_seq ?_
  refine wp_stmt_seq [.val (sV l), .val (iV ((l).length : Nat)), kT, kT, .val (sV l), .val (Is (.int .u8 ((bt l 0 : Nat) : Int))), kT, kT] [.inr 0] [.inl 7, .inr 0, .inr 1] follows S3 rfl (by kernel_rfl) ?_ ?_
  · repeat' refine And.intro ?_ ?_
    · trivial
    · exact mS 1 0
    · exact b_lens wA (oO 0 14)
    · exact b_gtr_int_t wA (oO 1 15) (opnd_const _)
    · exact mO 2 16
    · exact mW (wI 3 17) (oS 1 0)
    · exact b_idx (k := 0) (wI 3 17) (oO 4 18) (opnd_const _)
    · exact b_eql_u8_t (wI 3 17) (oO 5 19) (opnd_const _)
    · exact pT wA (oO 3 17) (oO 6 20)
  intro B4 a4 W4 (S4 : Sta w 95 [(2, (.box 26 zR))] [(21, bT), (5, iV 0), (0, sV l)] _ _ _)
  refine wp_cond_true (S4.bool 0 21 rfl) ?_
  refine wp_stmt [.val (iV 1)] [.inr 0] [.inl 0, .inr 2] follows S4 rfl (by kernel_rfl) ?_ ?_
  · refine ⟨trivial, ?_⟩
    · exact mC
  intro B5 a5 W5 (S5 : Sta w 95 [(2, (.box 26 zR))] [(5, iV 1), (0, sV l)] _ _ _)
  refine thenN ?_
  refine wp_stmt_seq [.val (sV l), .val (iV 1), .val ((TWO (IS (.int .i64 (e : Nat))) (IS (.bool true))) w.heap.size), .val ((TWO (IS (.int .i64 (e : Nat))) (IS (.bool true))) w.heap.size), .val (iV (e : Nat)), kT, .val (iV (e : Nat)), kT] [.inr 0] [.inl 6, .inl 7, .inr 0, .inr 1] follows S5 rfl (by kernel_rfl) ?_ ?_
  · repeat' refine And.intro ?_ ?_
    · trivial
    · exact mS 1 0
    · exact mS 0 5
    · exact ch2 wA (qO 0 23 rfl) (qO 1 24 rfl) (fresh_two (fresh_is _) (fresh_is _)) (fun w u0 u1 hx0 hx1 => by obtain rfl : u0 = _ := hx0.now; obtain rfl : u1 = _ := hx1.now; exact dgt_t w l 1 (e) hl (by omega) h h1)
    · exact mO 2 25
    · exact e20 wA (oO 3 22)
    · exact e21 wA (oO 3 22)
    · exact mO 4 26
    · exact mO 5 27
  intro B6 a6 W6 (S6 : Sta w 95 [(2, (.box 26 zR))] [(6, iV (e : Nat)), (7, bT), (5, iV 1), (0, sV l)] _ _ _)
  refine wp_seq ?_
  refine wp_stmt_seq [kT, kF, kF, .val (iV 1), kT, kT, .val (sV l), .val (Is (.int .u8 ((bt l 1 : Nat) : Int))), kF, kF, kF] [.inr 0] [.inl 10, .inr 0, .inr 2, .inr 3] follows S6 rfl (by kernel_rfl) ?_ ?_
  · repeat' refine And.intro ?_ ?_
    · trivial
    · exact mS 1 7
    · exact b_not wA (oO 0 28)
    · exact mO 1 29
    · exact mW (wI 2 30) (oS 2 5)
    · exact b_eql_int_t (wI 2 30) (oO 3 31) (opnd_const _) (h := rfl)
    · exact mW (wI 2 30) (oO 4 32)
    · exact mW (wI 5 33) (oS 3 0)
    · exact b_idx (k := 1) (wI 5 33) (oO 6 34) (opnd_const _)
    · exact b_eql_u8_f (wI 5 33) (oO 7 35) (opnd_const _)
    · exact pT (wI 2 30) (oO 5 33) (oO 8 36)
    · exact pF wA (oO 2 30) (oO 9 37)
  intro B7 a7 W7 (S7 : Sta w 95 [(2, (.box 26 zR))] [(38, bF), (6, iV (e : Nat)), (5, iV 1), (0, sV l)] _ _ _)
  refine wp_cond_false (S7.bool 0 38 rfl) ?_
  refine wp_skip ?_
  refine thenN ?_
  refine wp_stmt_seq [.val (iV 1), kT, .val (sV l), .val (iV 1), .val (iV (e : Nat)), .val (sV ((l.drop 1).take (e - 1))), .val ((NN (decV ((l.drop 1).take (e - 1)))) w.heap.size), .val (Zv (sg true (decV ((l.drop 1).take (e - 1)))) ((digs (decV ((l.drop 1).take (e - 1)))).length)), .new (.box 24 zI), .put (.inr 8) (.box 24 (Zv (sg true (decV ((l.drop 1).take (e - 1)))) ((digs (decV ((l.drop 1).take (e - 1)))).length)))] [.inr 0, .inl 8] [.inr 1, .inr 3] follows S7 rfl (by kernel_rfl) ?_ ?_
  · repeat' refine And.intro ?_ ?_
    · trivial
    · exact mS 2 5
    · exact b_eql_int_t wA (oO 0 41) (opnd_const _) (h := rfl)
    · exact mS 3 0
    · exact mS 2 5
    · exact mS 1 6
    · exact owe_three3 rfl wA rfl (oO 2 43) (oO 3 44) (oO 4 45) rfl (fun ρ w h1 h2 h3 => run_slb ρ _ _ _ _ w _ 1 e ⟨by omega, by omega⟩ h1 h2 h3)
    · exact ch1 wA (qO 5 46 rfl) (fresh_nn _) (fun w u hx => by obtain rfl : u = _ := hx.now; exact rnum_w w _ (by simp; omega) (dig_seg (ne_le h).2.2 (by omega)))
    · exact owe_bint2 rfl wA rfl (oO 1 42) ((oO 6 47).imp (nn_nv (Nat.le_refl _))) rfl
    · exact owe_new rfl wA rfl rfl (fun ρ w => alloc_int ρ _ w)
    · exact owe_put 8 rfl wA rfl (by kernel_rfl) rfl (oO 7 48) (stores_of strct_int shp_z0 shp_zv) rfl
  intro B8 a8 W8 (S8 : Sta w 95 [(2, (.box 26 zR)), (8, (.box 24 (Zv (sg true (decV ((l.drop 1).take (e - 1)))) ((digs (decV ((l.drop 1).take (e - 1)))).length))))] [(6, iV (e : Nat)), (0, sV l)] _ _ _)
  refine wp_seq ?_
  refine wp_stmt_seq [.val (iV (e : Nat)), .val (sV l), .val (iV ((l).length : Nat)), kF] [.inr 0, .inr 1] [.inl 3, .inr 0, .inr 1] follows S8 rfl (by kernel_rfl) ?_ ?_
  · refine ⟨⟨⟨⟨trivial, ?_⟩, ?_⟩, ?_⟩, ?_⟩
    · exact mS 0 6
    · exact mS 1 0
    · exact b_lens wA (oO 1 50)
    · exact b_eql_int_f wA (oO 0 49) (oO 2 51)
  intro B9 a9 W9 (S9 : Sta w 95 [(2, (.box 26 zR)), (8, (.box 24 (Zv (sg true (decV ((l.drop 1).take (e - 1)))) ((digs (decV ((l.drop 1).take (e - 1)))).length))))] [(52, bF), (6, iV (e : Nat)), (0, sV l)] _ _ _)
  refine wp_cond_false (S9.bool 0 52 rfl) ?_
  refine wp_skip ?_
  refine thenN ?_
  refine wp_seq ?_
  refine wp_stmt_seq [.val (sV l), .val (iV (e : Nat)), .val (Is (.int .u8 ((bt l e : Nat) : Int))), kT] [.inr 0, .inr 1] [.inl 3, .inr 1, .inr 2] follows S9 rfl (by kernel_rfl) ?_ ?_
  · refine ⟨⟨⟨⟨trivial, ?_⟩, ?_⟩, ?_⟩, ?_⟩
    · exact mS 2 0
    · exact mS 1 6
    · exact b_idx wA (oO 0 55) (oO 1 56)
    · exact b_neq_u8_t wA (oO 2 57) (opnd_const _)
  intro B10 a10 W10 (S10 : Sta w 95 [(2, (.box 26 zR)), (8, (.box 24 (Zv (sg true (decV ((l.drop 1).take (e - 1)))) ((digs (decV ((l.drop 1).take (e - 1)))).length))))] [(58, bT), (6, iV (e : Nat)), (0, sV l)] _ _ _)
  refine wp_cond_true (S10.bool 0 58 rfl) ?_
  refine wp_stmt_seq [.val zR, .val (iV (e : Nat)), .put (.inl 2) (.box 26 zR), .val (iV (e : Nat)), .val (iV 4)] [.inr 0] [.inl 3, .inl 4] follows S10 rfl (by kernel_rfl) ?_ ?_
  · refine ⟨⟨⟨⟨⟨trivial, ?_⟩, ?_⟩, ?_⟩, ?_⟩, ?_⟩
    · exact owe_build_rat rfl wA rfl rfl
    · exact mS 1 6
    · exact owe_set rfl wA rfl (k := 0) rfl (by kernel_rfl) (oO 0 59) (stores_of strct_rat shp_r0 shp_r0) rfl
    · exact mO 1 60
    · exact mC
  intro B11 a11 W11 (S11 : Sta w 95 [(2, (.box 26 zR))] [(3, iV (e : Nat)), (4, iV 4)] _ _ _)
  refine wp_ret ?_
  refine thenR ?_
  exact end_three S11 rfl (res_cell S11 0 2 rfl strct_rat shp_r0) (res_tmp S11 0 3 rfl) (res_tmp S11 1 4 rfl)

set_option maxHeartbeats 2000000 in
theorem rf_noden0_n (w : World) (l : List UInt8) (hl : l.length ≤ 131072) (hN : isN l = true) (e : Nat) (h : NE l 1 true e) (h1 : 1 < e) (h2 : e < l.length) (h48 : bt l 1 ≠ 48) (h3 : bt l e = 47) (h4 : e + 1 < l.length) (h5 : bt l (e + 1) = 48) :
    Calls Tryz.prog 9 #[str l] w (Gives (THREE (IS (.agg #[.bool false, .slice none 0 0, .bool false, .slice none 0 0])) (IS (.int .i64 ((e + 1 : Nat) : Int))) (IS (.int .i64 4))) w) := by
  obtain ⟨hp0, hp1⟩ := isN_t hN
  have hqa : (digs (decV ((l.drop 1).take (e - 1)))).length ≤ 131072 := decV_dl (dig_seg (ne_le h).2.2 (by omega)) (by simp; omega)
  refine calls_sta (sl := [(0, (sV l))]) Tryz.func9 rfl Tryz.ntmps9 (by simp) (args_cons rfl (is_has _) args_nil) ?_
  intro a0 S0
  refine wp_stmt_seq [.new (.box 26 zR), .val (iV 0), .val (iV 0)] [.inl 0] [.inr 0] follows S0 rfl (by kernel_rfl) ?_ ?_
  · refine ⟨⟨⟨trivial, ?_⟩, ?_⟩, ?_⟩
    · exact owe_new rfl wA rfl rfl (fun ρ w => alloc_rat ρ _ w)
    · exact mC
    · exact mC
  intro B1 a1 W1 (S1 : Sta w 95 [(2, (.box 26 zR))] [(0, sV l)] _ _ _)
  refine wp_seq ?_
  refine wp_stmt_seq [.val (sV l), .val (iV ((l).length : Nat)), kF] [.inr 0] [.inl 2, .inr 0] follows S1 rfl (by kernel_rfl) ?_ ?_
  · refine ⟨⟨⟨trivial, ?_⟩, ?_⟩, ?_⟩
    · exact mS 0 0
    · exact b_lens wA (oO 0 10)
    · exact b_gtr_int_f wA (oO 1 11) (opnd_const _)
  intro B2 a2 W2 (S2 : Sta w 95 [(2, (.box 26 zR))] [(12, bF), (0, sV l)] _ _ _)
  refine wp_cond_false (S2.bool 0 12 rfl) ?_
  refine wp_skip ?_
  refine thenN ?_
  refine wp_stmt_seq [.val (iV 0)] [.inr 0] [.inl 0, .inr 1] follows S2 rfl (by kernel_rfl) ?_ ?_
  · refine ⟨trivial, ?_⟩
    · exact mC
  intro B3 a3 W3 (S3 : Sta w 95 [(2, (.box 26 zR))] [(5, iV 0), (0, sV l)] _ _ _)
  refine wp_seq ?_
  refine wp_stmt_seq [.val (sV l), .val (iV ((l).length : Nat)), kT, kT, .val (sV l), .val (Is (.int .u8 ((bt l 0 : Nat) : Int))), kT, kT] [.inr 0] [.inl 7, .inr 0, .inr 1] follows S3 rfl (by kernel_rfl) ?_ ?_
  · repeat' refine And.intro ?_ ?_
    · trivial
    · exact mS 1 0
    · exact b_lens wA (oO 0 14)
    · exact b_gtr_int_t wA (oO 1 15) (opnd_const _)
    · exact mO 2 16
    · exact mW (wI 3 17) (oS 1 0)
    · exact b_idx (k := 0) (wI 3 17) (oO 4 18) (opnd_const _)
    · exact b_eql_u8_t (wI 3 17) (oO 5 19) (opnd_const _)
    · exact pT wA (oO 3 17) (oO 6 20)
  intro B4 a4 W4 (S4 : Sta w 95 [(2, (.box 26 zR))] [(21, bT), (5, iV 0), (0, sV l)] _ _ _)
  refine wp_cond_true (S4.bool 0 21 rfl) ?_
  refine wp_stmt [.val (iV 1)] [.inr 0] [.inl 0, .inr 2] follows S4 rfl (by kernel_rfl) ?_ ?_
  · refine ⟨trivial, ?_⟩
    · exact mC
  intro B5 a5 W5 (S5 : Sta w 95 [(2, (.box 26 zR))] [(5, iV 1), (0, sV l)] _ _ _)
  refine thenN ?_
  refine wp_stmt_seq [.val (sV l), .val (iV 1), .val ((TWO (IS (.int .i64 (e : Nat))) (IS (.bool true))) w.heap.size), .val ((TWO (IS (.int .i64 (e : Nat))) (IS (.bool true))) w.heap.size), .val (iV (e : Nat)), kT, .val (iV (e : Nat)), kT] [.inr 0] [.inl 6, .inl 7, .inr 0, .inr 1] follows S5 rfl (by kernel_rfl) ?_ ?_
  · repeat' refine And.intro ?_ ?_
    · trivial
    · exact mS 1 0
    · exact mS 0 5
    · exact ch2 wA (qO 0 23 rfl) (qO 1 24 rfl) (fresh_two (fresh_is _) (fresh_is _)) (fun w u0 u1 hx0 hx1 => by obtain rfl : u0 = _ := hx0.now; obtain rfl : u1 = _ := hx1.now; exact dgt_t w l 1 (e) hl (by omega) h h1)
    · exact mO 2 25
    · exact e20 wA (oO 3 22)
    · exact e21 wA (oO 3 22)
    · exact mO 4 26
    · exact mO 5 27
  intro B6 a6 W6 (S6 : Sta w 95 [(2, (.box 26 zR))] [(6, iV (e : Nat)), (7, bT), (5, iV 1), (0, sV l)] _ _ _)
  refine wp_seq ?_
  refine wp_stmt_seq [kT, kF, kF, .val (iV 1), kT, kT, .val (sV l), .val (Is (.int .u8 ((bt l 1 : Nat) : Int))), kF, kF, kF] [.inr 0] [.inl 10, .inr 0, .inr 2, .inr 3] follows S6 rfl (by kernel_rfl) ?_ ?_
  · repeat' refine And.intro ?_ ?_
    · trivial
    · exact mS 1 7
    · exact b_not wA (oO 0 28)
    · exact mO 1 29
    · exact mW (wI 2 30) (oS 2 5)
    · exact b_eql_int_t (wI 2 30) (oO 3 31) (opnd_const _) (h := rfl)
    · exact mW (wI 2 30) (oO 4 32)
    · exact mW (wI 5 33) (oS 3 0)
    · exact b_idx (k := 1) (wI 5 33) (oO 6 34) (opnd_const _)
    · exact b_eql_u8_f (wI 5 33) (oO 7 35) (opnd_const _)
    · exact pT (wI 2 30) (oO 5 33) (oO 8 36)
    · exact pF wA (oO 2 30) (oO 9 37)
  intro B7 a7 W7 (S7 : Sta w 95 [(2, (.box 26 zR))] [(38, bF), (6, iV (e : Nat)), (5, iV 1), (0, sV l)] _ _ _)
  refine wp_cond_false (S7.bool 0 38 rfl) ?_
  refine wp_skip ?_
  refine thenN ?_
  refine wp_stmt_seq [.val (iV 1), kT, .val (sV l), .val (iV 1), .val (iV (e : Nat)), .val (sV ((l.drop 1).take (e - 1))), .val ((NN (decV ((l.drop 1).take (e - 1)))) w.heap.size), .val (Zv (sg true (decV ((l.drop 1).take (e - 1)))) ((digs (decV ((l.drop 1).take (e - 1)))).length)), .new (.box 24 zI), .put (.inr 8) (.box 24 (Zv (sg true (decV ((l.drop 1).take (e - 1)))) ((digs (decV ((l.drop 1).take (e - 1)))).length)))] [.inr 0, .inl 8] [.inr 1, .inr 3] follows S7 rfl (by kernel_rfl) ?_ ?_
  · repeat' refine And.intro ?_ ?_
    · trivial
    · exact mS 2 5
    · exact b_eql_int_t wA (oO 0 41) (opnd_const _) (h := rfl)
    · exact mS 3 0
    · exact mS 2 5
    · exact mS 1 6
    · exact owe_three3 rfl wA rfl (oO 2 43) (oO 3 44) (oO 4 45) rfl (fun ρ w h1 h2 h3 => run_slb ρ _ _ _ _ w _ 1 e ⟨by omega, by omega⟩ h1 h2 h3)
    · exact ch1 wA (qO 5 46 rfl) (fresh_nn _) (fun w u hx => by obtain rfl : u = _ := hx.now; exact rnum_w w _ (by simp; omega) (dig_seg (ne_le h).2.2 (by omega)))
    · exact owe_bint2 rfl wA rfl (oO 1 42) ((oO 6 47).imp (nn_nv (Nat.le_refl _))) rfl
    · exact owe_new rfl wA rfl rfl (fun ρ w => alloc_int ρ _ w)
    · exact owe_put 8 rfl wA rfl (by kernel_rfl) rfl (oO 7 48) (stores_of strct_int shp_z0 shp_zv) rfl
  intro B8 a8 W8 (S8 : Sta w 95 [(2, (.box 26 zR)), (8, (.box 24 (Zv (sg true (decV ((l.drop 1).take (e - 1)))) ((digs (decV ((l.drop 1).take (e - 1)))).length))))] [(6, iV (e : Nat)), (0, sV l)] _ _ _)
  refine wp_seq ?_
  refine wp_stmt_seq [.val (iV (e : Nat)), .val (sV l), .val (iV ((l).length : Nat)), kF] [.inr 0, .inr 1] [.inl 3, .inr 0, .inr 1] follows S8 rfl (by kernel_rfl) ?_ ?_
  · refine ⟨⟨⟨⟨trivial, ?_⟩, ?_⟩, ?_⟩, ?_⟩
    · exact mS 0 6
    · exact mS 1 0
    · exact b_lens wA (oO 1 50)
    · exact b_eql_int_f wA (oO 0 49) (oO 2 51)
  intro B9 a9 W9 (S9 : Sta w 95 [(2, (.box 26 zR)), (8, (.box 24 (Zv (sg true (decV ((l.drop 1).take (e - 1)))) ((digs (decV ((l.drop 1).take (e - 1)))).length))))] [(52, bF), (6, iV (e : Nat)), (0, sV l)] _ _ _)
  refine wp_cond_false (S9.bool 0 52 rfl) ?_
  refine wp_skip ?_
  refine thenN ?_
  refine wp_seq ?_
  refine wp_stmt_seq [.val (sV l), .val (iV (e : Nat)), .val (Is (.int .u8 ((bt l e : Nat) : Int))), kF] [.inr 0, .inr 1] [.inl 3, .inr 1, .inr 2] follows S9 rfl (by kernel_rfl) ?_ ?_
  · refine ⟨⟨⟨⟨trivial, ?_⟩, ?_⟩, ?_⟩, ?_⟩
    · exact mS 2 0
    · exact mS 1 6
    · exact b_idx wA (oO 0 55) (oO 1 56)
    · exact b_neq_u8_f wA (oO 2 57) (opnd_const _)
  intro B10 a10 W10 (S10 : Sta w 95 [(2, (.box 26 zR)), (8, (.box 24 (Zv (sg true (decV ((l.drop 1).take (e - 1)))) ((digs (decV ((l.drop 1).take (e - 1)))).length))))] [(58, bF), (6, iV (e : Nat)), (0, sV l)] _ _ _)
  refine wp_cond_false (S10.bool 0 58 rfl) ?_
  refine wp_skip ?_
  refine thenN ?_
  refine wp_stmt_seq [.val (sV l), .val (iV (e : Nat)), .val (iV ((e + 1 : Nat) : Int)), .val ((TWO (IS (.int .i64 (e + 2 : Nat))) (IS (.bool true))) w.heap.size), .val ((TWO (IS (.int .i64 (e + 2 : Nat))) (IS (.bool true))) w.heap.size), .val (iV (e + 2 : Nat)), kT, .val (iV (e + 2 : Nat)), kT] [.inr 0, .inr 1] [.inl 7, .inl 8, .inr 1, .inr 2] follows S10 rfl (by kernel_rfl) ?_ ?_
  · repeat' refine And.intro ?_ ?_
    · trivial
    · exact mS 2 0
    · exact mS 1 6
    · exact b_add_int wA (oO 1 63) (opnd_const _)
    · exact ch2 wA (qO 0 62 rfl) (qO 2 64 rfl) (fresh_two (fresh_is _) (fresh_is _)) (fun w u0 u1 hx0 hx1 => by obtain rfl : u0 = _ := hx0.now; obtain rfl : u1 = _ := hx1.now; exact dgt_t w l (e + 1) (e + 2) hl (by omega) (Or.inl ⟨h4, h5, rfl⟩) (by omega))
    · exact mO 3 65
    · exact e20 wA (oO 4 61)
    · exact e21 wA (oO 4 61)
    · exact mO 5 66
    · exact mO 6 67
  intro B11 a11 W11 (S11 : Sta w 95 [(2, (.box 26 zR)), (8, (.box 24 (Zv (sg true (decV ((l.drop 1).take (e - 1)))) ((digs (decV ((l.drop 1).take (e - 1)))).length))))] [(9, iV (e + 2 : Nat)), (7, bT), (6, iV (e : Nat)), (0, sV l)] _ _ _)
  refine wp_seq ?_
  refine wp_stmt_seq [kT, kF, kF, .val (sV l), .val (iV (e : Nat)), .val (iV ((e + 1 : Nat) : Int)), .val (Is (.int .u8 ((bt l (e + 1) : Nat) : Int))), kT, kT] [.inr 0, .inr 1] [.inl 8, .inr 0, .inr 2, .inr 3] follows S11 rfl (by kernel_rfl) ?_ ?_
  · repeat' refine And.intro ?_ ?_
    · trivial
    · exact mS 1 7
    · exact b_not wA (oO 0 68)
    · exact mO 1 69
    · exact mW (wI 2 70) (oS 3 0)
    · exact mW (wI 2 70) (oS 2 6)
    · exact b_add_int (wI 2 70) (oO 4 72) (opnd_const _)
    · exact b_idx (wI 2 70) (oO 3 71) (oO 5 73)
    · exact b_eql_u8_t (wI 2 70) (oO 6 74) (opnd_const _)
    · exact pF wA (oO 2 70) (oO 7 75)
  intro B12 a12 W12 (S12 : Sta w 95 [(2, (.box 26 zR)), (8, (.box 24 (Zv (sg true (decV ((l.drop 1).take (e - 1)))) ((digs (decV ((l.drop 1).take (e - 1)))).length))))] [(76, bT), (9, iV (e + 2 : Nat)), (6, iV (e : Nat)), (0, sV l)] _ _ _)
  refine wp_cond_true (S12.bool 0 76 rfl) ?_
  refine wp_stmt_seq [.val zR, .val (iV (e : Nat)), .val (iV ((e + 1 : Nat) : Int)), .put (.inl 2) (.box 26 zR), .val (iV ((e + 1 : Nat) : Int)), .val (iV 4)] [.inr 0] [.inl 4, .inl 5] follows S12 rfl (by kernel_rfl) ?_ ?_
  · refine ⟨⟨⟨⟨⟨⟨trivial, ?_⟩, ?_⟩, ?_⟩, ?_⟩, ?_⟩, ?_⟩
    · exact owe_build_rat rfl wA rfl rfl
    · exact mS 2 6
    · exact b_add_int wA (oO 1 78) (opnd_const _)
    · exact owe_set rfl wA rfl (k := 0) rfl (by kernel_rfl) (oO 0 77) (stores_of strct_rat shp_r0 shp_r0) rfl
    · exact mO 2 79
    · exact mC
  intro B13 a13 W13 (S13 : Sta w 95 [(2, (.box 26 zR))] [(3, iV ((e + 1 : Nat) : Int)), (4, iV 4)] _ _ _)
  refine wp_ret ?_
  refine thenR ?_
  exact end_three S13 rfl (res_cell S13 0 2 rfl strct_rat shp_r0) (res_tmp S13 0 3 rfl) (res_tmp S13 1 4 rfl)

set_option maxHeartbeats 2000000 in
theorem rf_noden_n (w : World) (l : List UInt8) (hl : l.length ≤ 131072) (hN : isN l = true) (e : Nat) (h : NE l 1 true e) (h1 : 1 < e) (h2 : e < l.length) (h48 : bt l 1 ≠ 48) (h3 : bt l e = 47) (hd : NE l (e + 1) true (e + 1)) :
    Calls Tryz.prog 9 #[str l] w (Gives (THREE (IS (.agg #[.bool false, .slice none 0 0, .bool false, .slice none 0 0])) (IS (.int .i64 ((e + 1 : Nat) : Int))) (IS (.int .i64 4))) w) := by
  obtain ⟨hp0, hp1⟩ := isN_t hN
  have hqa : (digs (decV ((l.drop 1).take (e - 1)))).length ≤ 131072 := decV_dl (dig_seg (ne_le h).2.2 (by omega)) (by simp; omega)
  refine calls_sta (sl := [(0, (sV l))]) Tryz.func9 rfl Tryz.ntmps9 (by simp) (args_cons rfl (is_has _) args_nil) ?_
  intro a0 S0
  refine wp_stmt_seq [.new (.box 26 zR), .val (iV 0), .val (iV 0)] [.inl 0] [.inr 0] follows S0 rfl (by kernel_rfl) ?_ ?_
  · refine ⟨⟨⟨trivial, ?_⟩, ?_⟩, ?_⟩
    · exact owe_new rfl wA rfl rfl (fun ρ w => alloc_rat ρ _ w)
    · exact mC
    · exact mC
  intro B1 a1 W1 (S1 : Sta w 95 [(2, (.box 26 zR))] [(0, sV l)] _ _ _)
  refine wp_seq ?_
  refine wp_stmt_seq [.val (sV l), .val (iV ((l).length : Nat)), kF] [.inr 0] [.inl 2, .inr 0] follows S1 rfl (by kernel_rfl) ?_ ?_
  · refine ⟨⟨⟨trivial, ?_⟩, ?_⟩, ?_⟩
    · exact mS 0 0
    · exact b_lens wA (oO 0 10)
    · exact b_gtr_int_f wA (oO 1 11) (opnd_const _)
  intro B2 a2 W2 (S2 : Sta w 95 [(2, (.box 26 zR))] [(12, bF), (0, sV l)] _ _ _)
  refine wp_cond_false (S2.bool 0 12 rfl) ?_
  refine wp_skip ?_
  refine thenN ?_
  refine wp_stmt_seq [.val (iV 0)] [.inr 0] [.inl 0, .inr 1] follows S2 rfl (by kernel_rfl) ?_ ?_
  · refine ⟨trivial, ?_⟩
    · exact mC
  intro B3 a3 W3 (S3 : Sta w 95 [(2, (.box 26 zR))] [(5, iV 0), (0, sV l)] _ _ _)
  refine wp_seq ?_
  refine wp_stmt_seq [.val (sV l), .val (iV ((l).length : Nat)), kT, kT, .val (sV l), .val (Is (.int .u8 ((bt l 0 : Nat) : Int))), kT, kT] [.inr 0] [.inl 7, .inr 0, .inr 1] follows S3 rfl (by kernel_rfl) ?_ ?_
  · repeat' refine And.intro ?_ ?_
    · trivial
    · exact mS 1 0
    · exact b_lens wA (oO 0 14)
    · exact b_gtr_int_t wA (oO 1 15) (opnd_const _)
    · exact mO 2 16
    · exact mW (wI 3 17) (oS 1 0)
    · exact b_idx (k := 0) (wI 3 17) (oO 4 18) (opnd_const _)
    · exact b_eql_u8_t (wI 3 17) (oO 5 19) (opnd_const _)
    · exact pT wA (oO 3 17) (oO 6 20)
  intro B4 a4 W4 (S4 : Sta w 95 [(2, (.box 26 zR))] [(21, bT), (5, iV 0), (0, sV l)] _ _ _)
  refine wp_cond_true (S4.bool 0 21 rfl) ?_
  refine wp_stmt [.val (iV 1)] [.inr 0] [.inl 0, .inr 2] follows S4 rfl (by kernel_rfl) ?_ ?_
  · refine ⟨trivial, ?_⟩
    · exact mC
  intro B5 a5 W5 (S5 : Sta w 95 [(2, (.box 26 zR))] [(5, iV 1), (0, sV l)] _ _ _)
  refine thenN ?_
  refine wp_stmt_seq [.val (sV l), .val (iV 1), .val ((TWO (IS (.int .i64 (e : Nat))) (IS (.bool true))) w.heap.size), .val ((TWO (IS (.int .i64 (e : Nat))) (IS (.bool true))) w.heap.size), .val (iV (e : Nat)), kT, .val (iV (e : Nat)), kT] [.inr 0] [.inl 6, .inl 7, .inr 0, .inr 1] follows S5 rfl (by kernel_rfl) ?_ ?_
  · repeat' refine And.intro ?_ ?_
    · trivial
    · exact mS 1 0
    · exact mS 0 5
    · exact ch2 wA (qO 0 23 rfl) (qO 1 24 rfl) (fresh_two (fresh_is _) (fresh_is _)) (fun w u0 u1 hx0 hx1 => by obtain rfl : u0 = _ := hx0.now; obtain rfl : u1 = _ := hx1.now; exact dgt_t w l 1 (e) hl (by omega) h h1)
    · exact mO 2 25
    · exact e20 wA (oO 3 22)
    · exact e21 wA (oO 3 22)
    · exact mO 4 26
    · exact mO 5 27
  intro B6 a6 W6 (S6 : Sta w 95 [(2, (.box 26 zR))] [(6, iV (e : Nat)), (7, bT), (5, iV 1), (0, sV l)] _ _ _)
  refine wp_seq ?_
  refine wp_stmt_seq [kT, kF, kF, .val (iV 1), kT, kT, .val (sV l), .val (Is (.int .u8 ((bt l 1 : Nat) : Int))), kF, kF, kF] [.inr 0] [.inl 10, .inr 0, .inr 2, .inr 3] follows S6 rfl (by kernel_rfl) ?_ ?_
  · repeat' refine And.intro ?_ ?_
    · trivial
    · exact mS 1 7
    · exact b_not wA (oO 0 28)
    · exact mO 1 29
    · exact mW (wI 2 30) (oS 2 5)
    · exact b_eql_int_t (wI 2 30) (oO 3 31) (opnd_const _) (h := rfl)
    · exact mW (wI 2 30) (oO 4 32)
    · exact mW (wI 5 33) (oS 3 0)
    · exact b_idx (k := 1) (wI 5 33) (oO 6 34) (opnd_const _)
    · exact b_eql_u8_f (wI 5 33) (oO 7 35) (opnd_const _)
    · exact pT (wI 2 30) (oO 5 33) (oO 8 36)
    · exact pF wA (oO 2 30) (oO 9 37)
  intro B7 a7 W7 (S7 : Sta w 95 [(2, (.box 26 zR))] [(38, bF), (6, iV (e : Nat)), (5, iV 1), (0, sV l)] _ _ _)
  refine wp_cond_false (S7.bool 0 38 rfl) ?_
  refine wp_skip ?_
  refine thenN ?_
  refine wp_stmt_seq [.val (iV 1), kT, .val (sV l), .val (iV 1), .val (iV (e : Nat)), .val (sV ((l.drop 1).take (e - 1))), .val ((NN (decV ((l.drop 1).take (e - 1)))) w.heap.size), .val (Zv (sg true (decV ((l.drop 1).take (e - 1)))) ((digs (decV ((l.drop 1).take (e - 1)))).length)), .new (.box 24 zI), .put (.inr 8) (.box 24 (Zv (sg true (decV ((l.drop 1).take (e - 1)))) ((digs (decV ((l.drop 1).take (e - 1)))).length)))] [.inr 0, .inl 8] [.inr 1, .inr 3] follows S7 rfl (by kernel_rfl) ?_ ?_
  · repeat' refine And.intro ?_ ?_
    · trivial
    · exact mS 2 5
    · exact b_eql_int_t wA (oO 0 41) (opnd_const _) (h := rfl)
    · exact mS 3 0
    · exact mS 2 5
    · exact mS 1 6
    · exact owe_three3 rfl wA rfl (oO 2 43) (oO 3 44) (oO 4 45) rfl (fun ρ w h1 h2 h3 => run_slb ρ _ _ _ _ w _ 1 e ⟨by omega, by omega⟩ h1 h2 h3)
    · exact ch1 wA (qO 5 46 rfl) (fresh_nn _) (fun w u hx => by obtain rfl : u = _ := hx.now; exact rnum_w w _ (by simp; omega) (dig_seg (ne_le h).2.2 (by omega)))
    · exact owe_bint2 rfl wA rfl (oO 1 42) ((oO 6 47).imp (nn_nv (Nat.le_refl _))) rfl
    · exact owe_new rfl wA rfl rfl (fun ρ w => alloc_int ρ _ w)
    · exact owe_put 8 rfl wA rfl (by kernel_rfl) rfl (oO 7 48) (stores_of strct_int shp_z0 shp_zv) rfl
  intro B8 a8 W8 (S8 : Sta w 95 [(2, (.box 26 zR)), (8, (.box 24 (Zv (sg true (decV ((l.drop 1).take (e - 1)))) ((digs (decV ((l.drop 1).take (e - 1)))).length))))] [(6, iV (e : Nat)), (0, sV l)] _ _ _)
  refine wp_seq ?_
  refine wp_stmt_seq [.val (iV (e : Nat)), .val (sV l), .val (iV ((l).length : Nat)), kF] [.inr 0, .inr 1] [.inl 3, .inr 0, .inr 1] follows S8 rfl (by kernel_rfl) ?_ ?_
  · refine ⟨⟨⟨⟨trivial, ?_⟩, ?_⟩, ?_⟩, ?_⟩
    · exact mS 0 6
    · exact mS 1 0
    · exact b_lens wA (oO 1 50)
    · exact b_eql_int_f wA (oO 0 49) (oO 2 51)
  intro B9 a9 W9 (S9 : Sta w 95 [(2, (.box 26 zR)), (8, (.box 24 (Zv (sg true (decV ((l.drop 1).take (e - 1)))) ((digs (decV ((l.drop 1).take (e - 1)))).length))))] [(52, bF), (6, iV (e : Nat)), (0, sV l)] _ _ _)
  refine wp_cond_false (S9.bool 0 52 rfl) ?_
  refine wp_skip ?_
  refine thenN ?_
  refine wp_seq ?_
  refine wp_stmt_seq [.val (sV l), .val (iV (e : Nat)), .val (Is (.int .u8 ((bt l e : Nat) : Int))), kF] [.inr 0, .inr 1] [.inl 3, .inr 1, .inr 2] follows S9 rfl (by kernel_rfl) ?_ ?_
  · refine ⟨⟨⟨⟨trivial, ?_⟩, ?_⟩, ?_⟩, ?_⟩
    · exact mS 2 0
    · exact mS 1 6
    · exact b_idx wA (oO 0 55) (oO 1 56)
    · exact b_neq_u8_f wA (oO 2 57) (opnd_const _)
  intro B10 a10 W10 (S10 : Sta w 95 [(2, (.box 26 zR)), (8, (.box 24 (Zv (sg true (decV ((l.drop 1).take (e - 1)))) ((digs (decV ((l.drop 1).take (e - 1)))).length))))] [(58, bF), (6, iV (e : Nat)), (0, sV l)] _ _ _)
  refine wp_cond_false (S10.bool 0 58 rfl) ?_
  refine wp_skip ?_
  refine thenN ?_
  refine wp_stmt_seq [.val (sV l), .val (iV (e : Nat)), .val (iV ((e + 1 : Nat) : Int)), .val ((TWO (IS (.int .i64 (e + 1 : Nat))) (IS (.bool false))) w.heap.size), .val ((TWO (IS (.int .i64 (e + 1 : Nat))) (IS (.bool false))) w.heap.size), .val (iV (e + 1 : Nat)), kF, .val (iV (e + 1 : Nat)), kF] [.inr 0, .inr 1] [.inl 7, .inl 8, .inr 1, .inr 2] follows S10 rfl (by kernel_rfl) ?_ ?_
  · repeat' refine And.intro ?_ ?_
    · trivial
    · exact mS 2 0
    · exact mS 1 6
    · exact b_add_int wA (oO 1 63) (opnd_const _)
    · exact ch2 wA (qO 0 62 rfl) (qO 2 64 rfl) (fresh_two (fresh_is _) (fresh_is _)) (fun w u0 u1 hx0 hx1 => by obtain rfl : u0 = _ := hx0.now; obtain rfl : u1 = _ := hx1.now; exact dgt_f w l (e + 1) (e + 1) hl (by omega) hd rfl)
    · exact mO 3 65
    · exact e20 wA (oO 4 61)
    · exact e21 wA (oO 4 61)
    · exact mO 5 66
    · exact mO 6 67
  intro B11 a11 W11 (S11 : Sta w 95 [(2, (.box 26 zR)), (8, (.box 24 (Zv (sg true (decV ((l.drop 1).take (e - 1)))) ((digs (decV ((l.drop 1).take (e - 1)))).length))))] [(9, iV (e + 1 : Nat)), (7, bF), (6, iV (e : Nat)), (0, sV l)] _ _ _)
  refine wp_seq ?_
  refine wp_stmt_seq [kF, kT, kT, .off, .off, .off, .off, .off, kT] [.inr 0, .inr 1] [.inl 8, .inr 0, .inr 2, .inr 3] follows S11 rfl (by kernel_rfl) ?_ ?_
  · repeat' refine And.intro ?_ ?_
    · trivial
    · exact mS 1 7
    · exact b_not wA (oO 0 68)
    · exact mO 1 69
    · exact oF 2 70
    · exact oF 2 70
    · exact oF 2 70
    · exact oF 2 70
    · exact oF 2 70
    · exact pT wA (oO 2 70) (opnd_const _)
  intro B12 a12 W12 (S12 : Sta w 95 [(2, (.box 26 zR)), (8, (.box 24 (Zv (sg true (decV ((l.drop 1).take (e - 1)))) ((digs (decV ((l.drop 1).take (e - 1)))).length))))] [(76, bT), (9, iV (e + 1 : Nat)), (6, iV (e : Nat)), (0, sV l)] _ _ _)
  refine wp_cond_true (S12.bool 0 76 rfl) ?_
  refine wp_stmt_seq [.val zR, .val (iV (e : Nat)), .val (iV ((e + 1 : Nat) : Int)), .put (.inl 2) (.box 26 zR), .val (iV ((e + 1 : Nat) : Int)), .val (iV 4)] [.inr 0] [.inl 4, .inl 5] follows S12 rfl (by kernel_rfl) ?_ ?_
  · refine ⟨⟨⟨⟨⟨⟨trivial, ?_⟩, ?_⟩, ?_⟩, ?_⟩, ?_⟩, ?_⟩
    · exact owe_build_rat rfl wA rfl rfl
    · exact mS 2 6
    · exact b_add_int wA (oO 1 78) (opnd_const _)
    · exact owe_set rfl wA rfl (k := 0) rfl (by kernel_rfl) (oO 0 77) (stores_of strct_rat shp_r0 shp_r0) rfl
    · exact mO 2 79
    · exact mC
  intro B13 a13 W13 (S13 : Sta w 95 [(2, (.box 26 zR))] [(3, iV ((e + 1 : Nat) : Int)), (4, iV 4)] _ _ _)
  refine wp_ret ?_
  refine thenR ?_
  exact end_three S13 rfl (res_cell S13 0 2 rfl strct_rat shp_r0) (res_tmp S13 0 3 rfl) (res_tmp S13 1 4 rfl)

set_option maxHeartbeats 2000000 in
theorem rf_dtail_n (w : World) (l : List UInt8) (hl : l.length ≤ 131072) (hN : isN l = true) (e : Nat) (h : NE l 1 true e) (h1 : 1 < e) (h2 : e < l.length) (h48 : bt l 1 ≠ 48) (h3 : bt l e = 47) (d : Nat) (hd : NE l (e + 1) true d) (h4 : e + 1 < d) (h5 : d < l.length) (h6 : bt l (e + 1) ≠ 48) :
    Calls Tryz.prog 9 #[str l] w (Gives (THREE (IS (.agg #[.bool false, .slice none 0 0, .bool false, .slice none 0 0])) (IS (.int .i64 (d : Nat))) (IS (.int .i64 4))) w) := by
  obtain ⟨hp0, hp1⟩ := isN_t hN
  have hqa : (digs (decV ((l.drop 1).take (e - 1)))).length ≤ 131072 := decV_dl (dig_seg (ne_le h).2.2 (by omega)) (by simp; omega)
  refine calls_sta (sl := [(0, (sV l))]) Tryz.func9 rfl Tryz.ntmps9 (by simp) (args_cons rfl (is_has _) args_nil) ?_
  intro a0 S0
  refine wp_stmt_seq [.new (.box 26 zR), .val (iV 0), .val (iV 0)] [.inl 0] [.inr 0] follows S0 rfl (by kernel_rfl) ?_ ?_
  · refine ⟨⟨⟨trivial, ?_⟩, ?_⟩, ?_⟩
    · exact owe_new rfl wA rfl rfl (fun ρ w => alloc_rat ρ _ w)
    · exact mC
    · exact mC
  intro B1 a1 W1 (S1 : Sta w 95 [(2, (.box 26 zR))] [(0, sV l)] _ _ _)
  refine wp_seq ?_
  refine wp_stmt_seq [.val (sV l), .val (iV ((l).length : Nat)), kF] [.inr 0] [.inl 2, .inr 0] follows S1 rfl (by kernel_rfl) ?_ ?_
  · refine ⟨⟨⟨trivial, ?_⟩, ?_⟩, ?_⟩
    · exact mS 0 0
    · exact b_lens wA (oO 0 10)
    · exact b_gtr_int_f wA (oO 1 11) (opnd_const _)
  intro B2 a2 W2 (S2 : Sta w 95 [(2, (.box 26 zR))] [(12, bF), (0, sV l)] _ _ _)
  refine wp_cond_false (S2.bool 0 12 rfl) ?_
  refine wp_skip ?_
  refine thenN ?_
  refine wp_stmt_seq [.val (iV 0)] [.inr 0] [.inl 0, .inr 1] follows S2 rfl (by kernel_rfl) ?_ ?_
  · refine ⟨trivial, ?_⟩
    · exact mC
  intro B3 a3 W3 (S3 : Sta w 95 [(2, (.box 26 zR))] [(5, iV 0), (0, sV l)] _ _ _)
  refine wp_seq ?_
  refine wp_stmt_seq [.val (sV l), .val (iV ((l).length : Nat)), kT, kT, .val (sV l), .val (Is (.int .u8 ((bt l 0 : Nat) : Int))), kT, kT] [.inr 0] [.inl 7, .inr 0, .inr 1] follows S3 rfl (by kernel_rfl) ?_ ?_
  · repeat' refine And.intro ?_ ?_
    · trivial
    · exact mS 1 0
    · exact b_lens wA (oO 0 14)
    · exact b_gtr_int_t wA (oO 1 15) (opnd_const _)
    · exact mO 2 16
    · exact mW (wI 3 17) (oS 1 0)
    · exact b_idx (k := 0) (wI 3 17) (oO 4 18) (opnd_const _)
    · exact b_eql_u8_t (wI 3 17) (oO 5 19) (opnd_const _)
    · exact pT wA (oO 3 17) (oO 6 20)
  intro B4 a4 W4 (S4 : Sta w 95 [(2, (.box 26 zR))] [(21, bT), (5, iV 0), (0, sV l)] _ _ _)
  refine wp_cond_true (S4.bool 0 21 rfl) ?_
  refine wp_stmt [.val (iV 1)] [.inr 0] [.inl 0, .inr 2] follows S4 rfl (by kernel_rfl) ?_ ?_
  · refine ⟨trivial, ?_⟩
    · exact mC
  intro B5 a5 W5 (S5 : Sta w 95 [(2, (.box 26 zR))] [(5, iV 1), (0, sV l)] _ _ _)
  refine thenN ?_
  refine wp_stmt_seq [.val (sV l), .val (iV 1), .val ((TWO (IS (.int .i64 (e : Nat))) (IS (.bool true))) w.heap.size), .val ((TWO (IS (.int .i64 (e : Nat))) (IS (.bool true))) w.heap.size), .val (iV (e : Nat)), kT, .val (iV (e : Nat)), kT] [.inr 0] [.inl 6, .inl 7, .inr 0, .inr 1] follows S5 rfl (by kernel_rfl) ?_ ?_
  · repeat' refine And.intro ?_ ?_
    · trivial
    · exact mS 1 0
    · exact mS 0 5
    · exact ch2 wA (qO 0 23 rfl) (qO 1 24 rfl) (fresh_two (fresh_is _) (fresh_is _)) (fun w u0 u1 hx0 hx1 => by obtain rfl : u0 = _ := hx0.now; obtain rfl : u1 = _ := hx1.now; exact dgt_t w l 1 (e) hl (by omega) h h1)
    · exact mO 2 25
    · exact e20 wA (oO 3 22)
    · exact e21 wA (oO 3 22)
    · exact mO 4 26
    · exact mO 5 27
  intro B6 a6 W6 (S6 : Sta w 95 [(2, (.box 26 zR))] [(6, iV (e : Nat)), (7, bT), (5, iV 1), (0, sV l)] _ _ _)
  refine wp_seq ?_
  refine wp_stmt_seq [kT, kF, kF, .val (iV 1), kT, kT, .val (sV l), .val (Is (.int .u8 ((bt l 1 : Nat) : Int))), kF, kF, kF] [.inr 0] [.inl 10, .inr 0, .inr 2, .inr 3] follows S6 rfl (by kernel_rfl) ?_ ?_
  · repeat' refine And.intro ?_ ?_
    · trivial
    · exact mS 1 7
    · exact b_not wA (oO 0 28)
    · exact mO 1 29
    · exact mW (wI 2 30) (oS 2 5)
    · exact b_eql_int_t (wI 2 30) (oO 3 31) (opnd_const _) (h := rfl)
    · exact mW (wI 2 30) (oO 4 32)
    · exact mW (wI 5 33) (oS 3 0)
    · exact b_idx (k := 1) (wI 5 33) (oO 6 34) (opnd_const _)
    · exact b_eql_u8_f (wI 5 33) (oO 7 35) (opnd_const _)
    · exact pT (wI 2 30) (oO 5 33) (oO 8 36)
    · exact pF wA (oO 2 30) (oO 9 37)
  intro B7 a7 W7 (S7 : Sta w 95 [(2, (.box 26 zR))] [(38, bF), (6, iV (e : Nat)), (5, iV 1), (0, sV l)] _ _ _)
  refine wp_cond_false (S7.bool 0 38 rfl) ?_
  refine wp_skip ?_
  refine thenN ?_
  refine wp_stmt_seq [.val (iV 1), kT, .val (sV l), .val (iV 1), .val (iV (e : Nat)), .val (sV ((l.drop 1).take (e - 1))), .val ((NN (decV ((l.drop 1).take (e - 1)))) w.heap.size), .val (Zv (sg true (decV ((l.drop 1).take (e - 1)))) ((digs (decV ((l.drop 1).take (e - 1)))).length)), .new (.box 24 zI), .put (.inr 8) (.box 24 (Zv (sg true (decV ((l.drop 1).take (e - 1)))) ((digs (decV ((l.drop 1).take (e - 1)))).length)))] [.inr 0, .inl 8] [.inr 1, .inr 3] follows S7 rfl (by kernel_rfl) ?_ ?_
  · repeat' refine And.intro ?_ ?_
    · trivial
    · exact mS 2 5
    · exact b_eql_int_t wA (oO 0 41) (opnd_const _) (h := rfl)
    · exact mS 3 0
    · exact mS 2 5
    · exact mS 1 6
    · exact owe_three3 rfl wA rfl (oO 2 43) (oO 3 44) (oO 4 45) rfl (fun ρ w h1 h2 h3 => run_slb ρ _ _ _ _ w _ 1 e ⟨by omega, by omega⟩ h1 h2 h3)
    · exact ch1 wA (qO 5 46 rfl) (fresh_nn _) (fun w u hx => by obtain rfl : u = _ := hx.now; exact rnum_w w _ (by simp; omega) (dig_seg (ne_le h).2.2 (by omega)))
    · exact owe_bint2 rfl wA rfl (oO 1 42) ((oO 6 47).imp (nn_nv (Nat.le_refl _))) rfl
    · exact owe_new rfl wA rfl rfl (fun ρ w => alloc_int ρ _ w)
    · exact owe_put 8 rfl wA rfl (by kernel_rfl) rfl (oO 7 48) (stores_of strct_int shp_z0 shp_zv) rfl
  intro B8 a8 W8 (S8 : Sta w 95 [(2, (.box 26 zR)), (8, (.box 24 (Zv (sg true (decV ((l.drop 1).take (e - 1)))) ((digs (decV ((l.drop 1).take (e - 1)))).length))))] [(6, iV (e : Nat)), (0, sV l)] _ _ _)
  refine wp_seq ?_
  refine wp_stmt_seq [.val (iV (e : Nat)), .val (sV l), .val (iV ((l).length : Nat)), kF] [.inr 0, .inr 1] [.inl 3, .inr 0, .inr 1] follows S8 rfl (by kernel_rfl) ?_ ?_
  · refine ⟨⟨⟨⟨trivial, ?_⟩, ?_⟩, ?_⟩, ?_⟩
    · exact mS 0 6
    · exact mS 1 0
    · exact b_lens wA (oO 1 50)
    · exact b_eql_int_f wA (oO 0 49) (oO 2 51)
  intro B9 a9 W9 (S9 : Sta w 95 [(2, (.box 26 zR)), (8, (.box 24 (Zv (sg true (decV ((l.drop 1).take (e - 1)))) ((digs (decV ((l.drop 1).take (e - 1)))).length))))] [(52, bF), (6, iV (e : Nat)), (0, sV l)] _ _ _)
  refine wp_cond_false (S9.bool 0 52 rfl) ?_
  refine wp_skip ?_
  refine thenN ?_
  refine wp_seq ?_
  refine wp_stmt_seq [.val (sV l), .val (iV (e : Nat)), .val (Is (.int .u8 ((bt l e : Nat) : Int))), kF] [.inr 0, .inr 1] [.inl 3, .inr 1, .inr 2] follows S9 rfl (by kernel_rfl) ?_ ?_
  · refine ⟨⟨⟨⟨trivial, ?_⟩, ?_⟩, ?_⟩, ?_⟩
    · exact mS 2 0
    · exact mS 1 6
    · exact b_idx wA (oO 0 55) (oO 1 56)
    · exact b_neq_u8_f wA (oO 2 57) (opnd_const _)
  intro B10 a10 W10 (S10 : Sta w 95 [(2, (.box 26 zR)), (8, (.box 24 (Zv (sg true (decV ((l.drop 1).take (e - 1)))) ((digs (decV ((l.drop 1).take (e - 1)))).length))))] [(58, bF), (6, iV (e : Nat)), (0, sV l)] _ _ _)
  refine wp_cond_false (S10.bool 0 58 rfl) ?_
  refine wp_skip ?_
  refine thenN ?_
  refine wp_stmt_seq [.val (sV l), .val (iV (e : Nat)), .val (iV ((e + 1 : Nat) : Int)), .val ((TWO (IS (.int .i64 (d : Nat))) (IS (.bool true))) w.heap.size), .val ((TWO (IS (.int .i64 (d : Nat))) (IS (.bool true))) w.heap.size), .val (iV (d : Nat)), kT, .val (iV (d : Nat)), kT] [.inr 0, .inr 1] [.inl 7, .inl 8, .inr 1, .inr 2] follows S10 rfl (by kernel_rfl) ?_ ?_
  · repeat' refine And.intro ?_ ?_
    · trivial
    · exact mS 2 0
    · exact mS 1 6
    · exact b_add_int wA (oO 1 63) (opnd_const _)
    · exact ch2 wA (qO 0 62 rfl) (qO 2 64 rfl) (fresh_two (fresh_is _) (fresh_is _)) (fun w u0 u1 hx0 hx1 => by obtain rfl : u0 = _ := hx0.now; obtain rfl : u1 = _ := hx1.now; exact dgt_t w l (e + 1) d hl (by omega) hd h4)
    · exact mO 3 65
    · exact e20 wA (oO 4 61)
    · exact e21 wA (oO 4 61)
    · exact mO 5 66
    · exact mO 6 67
  intro B11 a11 W11 (S11 : Sta w 95 [(2, (.box 26 zR)), (8, (.box 24 (Zv (sg true (decV ((l.drop 1).take (e - 1)))) ((digs (decV ((l.drop 1).take (e - 1)))).length))))] [(9, iV (d : Nat)), (7, bT), (6, iV (e : Nat)), (0, sV l)] _ _ _)
  refine wp_seq ?_
  refine wp_stmt_seq [kT, kF, kF, .val (sV l), .val (iV (e : Nat)), .val (iV ((e + 1 : Nat) : Int)), .val (Is (.int .u8 ((bt l (e + 1) : Nat) : Int))), kF, kF] [.inr 0, .inr 1] [.inl 8, .inr 0, .inr 2, .inr 3] follows S11 rfl (by kernel_rfl) ?_ ?_
  · repeat' refine And.intro ?_ ?_
    · trivial
    · exact mS 1 7
    · exact b_not wA (oO 0 68)
    · exact mO 1 69
    · exact mW (wI 2 70) (oS 3 0)
    · exact mW (wI 2 70) (oS 2 6)
    · exact b_add_int (wI 2 70) (oO 4 72) (opnd_const _)
    · exact b_idx (wI 2 70) (oO 3 71) (oO 5 73)
    · exact b_eql_u8_f (wI 2 70) (oO 6 74) (opnd_const _)
    · exact pF wA (oO 2 70) (oO 7 75)
  intro B12 a12 W12 (S12 : Sta w 95 [(2, (.box 26 zR)), (8, (.box 24 (Zv (sg true (decV ((l.drop 1).take (e - 1)))) ((digs (decV ((l.drop 1).take (e - 1)))).length))))] [(76, bF), (9, iV (d : Nat)), (6, iV (e : Nat)), (0, sV l)] _ _ _)
  refine wp_cond_false (S12.bool 0 76 rfl) ?_
  refine wp_skip ?_
  refine thenN ?_
  refine wp_seq ?_
  refine wp_stmt_seq [.val (iV (d : Nat)), .val (sV l), .val (iV ((l).length : Nat)), kT] [.inr 0, .inr 1] [.inl 3, .inr 1, .inr 2, .inr 3] follows S12 rfl (by kernel_rfl) ?_ ?_
  · refine ⟨⟨⟨⟨trivial, ?_⟩, ?_⟩, ?_⟩, ?_⟩
    · exact mS 1 9
    · exact mS 3 0
    · exact b_lens wA (oO 1 81)
    · exact b_lss_int_t wA (oO 0 80) (oO 2 82)
  intro B13 a13 W13 (S13 : Sta w 95 [(2, (.box 26 zR)), (8, (.box 24 (Zv (sg true (decV ((l.drop 1).take (e - 1)))) ((digs (decV ((l.drop 1).take (e - 1)))).length))))] [(83, bT), (9, iV (d : Nat)), (6, iV (e : Nat)), (0, sV l)] _ _ _)
  refine wp_cond_true (S13.bool 0 83 rfl) ?_
  refine wp_stmt_seq [.val zR, .val (iV (d : Nat)), .put (.inl 2) (.box 26 zR), .val (iV (d : Nat)), .val (iV 4)] [.inr 0] [.inl 3, .inl 4] follows S13 rfl (by kernel_rfl) ?_ ?_
  · refine ⟨⟨⟨⟨⟨trivial, ?_⟩, ?_⟩, ?_⟩, ?_⟩, ?_⟩
    · exact owe_build_rat rfl wA rfl rfl
    · exact mS 1 9
    · exact owe_set rfl wA rfl (k := 0) rfl (by kernel_rfl) (oO 0 84) (stores_of strct_rat shp_r0 shp_r0) rfl
    · exact mO 1 85
    · exact mC
  intro B14 a14 W14 (S14 : Sta w 95 [(2, (.box 26 zR))] [(3, iV (d : Nat)), (4, iV 4)] _ _ _)
  refine wp_ret ?_
  refine thenR ?_
  exact end_three S14 rfl (res_cell S14 0 2 rfl strct_rat shp_r0) (res_tmp S14 0 3 rfl) (res_tmp S14 1 4 rfl)

set_option maxHeartbeats 2000000 in
theorem rf_frac_n (w : World) (l : List UInt8) (hl : l.length ≤ 131072) (hN : isN l = true) (e : Nat) (h : NE l 1 true e) (h1 : 1 < e) (h2 : e < l.length) (h48 : bt l 1 ≠ 48) (h3 : bt l e = 47) (hd : NE l (e + 1) true l.length) (h4 : e + 1 < l.length) (h6 : bt l (e + 1) ≠ 48) (hD : decV ((l.drop (e + 1)).take (l.length - (e + 1))) ≠ 0) :
    Calls Tryz.prog 9 #[str l] w (Gives (THREE (RN (nR (sg true (decV ((l.drop 1).take (e - 1)))) (decV ((l.drop (e + 1)).take (l.length - (e + 1))))) (dR (sg true (decV ((l.drop 1).take (e - 1)))) (decV ((l.drop (e + 1)).take (l.length - (e + 1)))))) (IS (.int .i64 0)) (IS (.int .i64 0))) w) := by
  obtain ⟨hp0, hp1⟩ := isN_t hN
  have hqa : (digs (decV ((l.drop 1).take (e - 1)))).length ≤ 131072 := decV_dl (dig_seg (ne_le h).2.2 (by omega)) (by simp; omega)
  have hqd : (digs (decV ((l.drop (e + 1)).take (l.length - (e + 1))))).length ≤ 131072 := decV_dl (dig_seg (ne_le hd).2.2 (by omega)) (by simp; omega)
  refine calls_sta (sl := [(0, (sV l))]) Tryz.func9 rfl Tryz.ntmps9 (by simp) (args_cons rfl (is_has _) args_nil) ?_
  intro a0 S0
  refine wp_stmt_seq [.new (.box 26 zR), .val (iV 0), .val (iV 0)] [.inl 0] [.inr 0] follows S0 rfl (by kernel_rfl) ?_ ?_
  · refine ⟨⟨⟨trivial, ?_⟩, ?_⟩, ?_⟩
    · exact owe_new rfl wA rfl rfl (fun ρ w => alloc_rat ρ _ w)
    · exact mC
    · exact mC
  intro B1 a1 W1 (S1 : Sta w 95 [(2, (.box 26 zR))] [(0, sV l)] _ _ _)
  refine wp_seq ?_
  refine wp_stmt_seq [.val (sV l), .val (iV ((l).length : Nat)), kF] [.inr 0] [.inl 2, .inr 0] follows S1 rfl (by kernel_rfl) ?_ ?_
  · refine ⟨⟨⟨trivial, ?_⟩, ?_⟩, ?_⟩
    · exact mS 0 0
    · exact b_lens wA (oO 0 10)
    · exact b_gtr_int_f wA (oO 1 11) (opnd_const _)
  intro B2 a2 W2 (S2 : Sta w 95 [(2, (.box 26 zR))] [(12, bF), (0, sV l)] _ _ _)
  refine wp_cond_false (S2.bool 0 12 rfl) ?_
  refine wp_skip ?_
  refine thenN ?_
  refine wp_stmt_seq [.val (iV 0)] [.inr 0] [.inl 0, .inr 1] follows S2 rfl (by kernel_rfl) ?_ ?_
  · refine ⟨trivial, ?_⟩
    · exact mC
  intro B3 a3 W3 (S3 : Sta w 95 [(2, (.box 26 zR))] [(5, iV 0), (0, sV l)] _ _ _)
  refine wp_seq ?_
  refine wp_stmt_seq [.val (sV l), .val (iV ((l).length : Nat)), kT, kT, .val (sV l), .val (Is (.int .u8 ((bt l 0 : Nat) : Int))), kT, kT] [.inr 0] [.inl 7, .inr 0, .inr 1] follows S3 rfl (by kernel_rfl) ?_ ?_
  · repeat' refine And.intro ?_ ?_
    · trivial
    · exact mS 1 0
    · exact b_lens wA (oO 0 14)
    · exact b_gtr_int_t wA (oO 1 15) (opnd_const _)
    · exact mO 2 16
    · exact mW (wI 3 17) (oS 1 0)
    · exact b_idx (k := 0) (wI 3 17) (oO 4 18) (opnd_const _)
    · exact b_eql_u8_t (wI 3 17) (oO 5 19) (opnd_const _)
    · exact pT wA (oO 3 17) (oO 6 20)
  intro B4 a4 W4 (S4 : Sta w 95 [(2, (.box 26 zR))] [(21, bT), (5, iV 0), (0, sV l)] _ _ _)
  refine wp_cond_true (S4.bool 0 21 rfl) ?_
  refine wp_stmt [.val (iV 1)] [.inr 0] [.inl 0, .inr 2] follows S4 rfl (by kernel_rfl) ?_ ?_
  · refine ⟨trivial, ?_⟩
    · exact mC
  intro B5 a5 W5 (S5 : Sta w 95 [(2, (.box 26 zR))] [(5, iV 1), (0, sV l)] _ _ _)
  refine thenN ?_
  refine wp_stmt_seq [.val (sV l), .val (iV 1), .val ((TWO (IS (.int .i64 (e : Nat))) (IS (.bool true))) w.heap.size), .val ((TWO (IS (.int .i64 (e : Nat))) (IS (.bool true))) w.heap.size), .val (iV (e : Nat)), kT, .val (iV (e : Nat)), kT] [.inr 0] [.inl 6, .inl 7, .inr 0, .inr 1] follows S5 rfl (by kernel_rfl) ?_ ?_
  · repeat' refine And.intro ?_ ?_
    · trivial
    · exact mS 1 0
    · exact mS 0 5
    · exact ch2 wA (qO 0 23 rfl) (qO 1 24 rfl) (fresh_two (fresh_is _) (fresh_is _)) (fun w u0 u1 hx0 hx1 => by obtain rfl : u0 = _ := hx0.now; obtain rfl : u1 = _ := hx1.now; exact dgt_t w l 1 (e) hl (by omega) h h1)
    · exact mO 2 25
    · exact e20 wA (oO 3 22)
    · exact e21 wA (oO 3 22)
    · exact mO 4 26
    · exact mO 5 27
  intro B6 a6 W6 (S6 : Sta w 95 [(2, (.box 26 zR))] [(6, iV (e : Nat)), (7, bT), (5, iV 1), (0, sV l)] _ _ _)
  refine wp_seq ?_
  refine wp_stmt_seq [kT, kF, kF, .val (iV 1), kT, kT, .val (sV l), .val (Is (.int .u8 ((bt l 1 : Nat) : Int))), kF, kF, kF] [.inr 0] [.inl 10, .inr 0, .inr 2, .inr 3] follows S6 rfl (by kernel_rfl) ?_ ?_
  · repeat' refine And.intro ?_ ?_
    · trivial
    · exact mS 1 7
    · exact b_not wA (oO 0 28)
    · exact mO 1 29
    · exact mW (wI 2 30) (oS 2 5)
    · exact b_eql_int_t (wI 2 30) (oO 3 31) (opnd_const _) (h := rfl)
    · exact mW (wI 2 30) (oO 4 32)
    · exact mW (wI 5 33) (oS 3 0)
    · exact b_idx (k := 1) (wI 5 33) (oO 6 34) (opnd_const _)
    · exact b_eql_u8_f (wI 5 33) (oO 7 35) (opnd_const _)
    · exact pT (wI 2 30) (oO 5 33) (oO 8 36)
    · exact pF wA (oO 2 30) (oO 9 37)
  intro B7 a7 W7 (S7 : Sta w 95 [(2, (.box 26 zR))] [(38, bF), (6, iV (e : Nat)), (5, iV 1), (0, sV l)] _ _ _)
  refine wp_cond_false (S7.bool 0 38 rfl) ?_
  refine wp_skip ?_
  refine thenN ?_
  refine wp_stmt_seq [.val (iV 1), kT, .val (sV l), .val (iV 1), .val (iV (e : Nat)), .val (sV ((l.drop 1).take (e - 1))), .val ((NN (decV ((l.drop 1).take (e - 1)))) w.heap.size), .val (Zv (sg true (decV ((l.drop 1).take (e - 1)))) ((digs (decV ((l.drop 1).take (e - 1)))).length)), .new (.box 24 zI), .put (.inr 8) (.box 24 (Zv (sg true (decV ((l.drop 1).take (e - 1)))) ((digs (decV ((l.drop 1).take (e - 1)))).length)))] [.inr 0, .inl 8] [.inr 1, .inr 3] follows S7 rfl (by kernel_rfl) ?_ ?_
  · repeat' refine And.intro ?_ ?_
    · trivial
    · exact mS 2 5
    · exact b_eql_int_t wA (oO 0 41) (opnd_const _) (h := rfl)
    · exact mS 3 0
    · exact mS 2 5
    · exact mS 1 6
    · exact owe_three3 rfl wA rfl (oO 2 43) (oO 3 44) (oO 4 45) rfl (fun ρ w h1 h2 h3 => run_slb ρ _ _ _ _ w _ 1 e ⟨by omega, by omega⟩ h1 h2 h3)
    · exact ch1 wA (qO 5 46 rfl) (fresh_nn _) (fun w u hx => by obtain rfl : u = _ := hx.now; exact rnum_w w _ (by simp; omega) (dig_seg (ne_le h).2.2 (by omega)))
    · exact owe_bint2 rfl wA rfl (oO 1 42) ((oO 6 47).imp (nn_nv (Nat.le_refl _))) rfl
    · exact owe_new rfl wA rfl rfl (fun ρ w => alloc_int ρ _ w)
    · exact owe_put 8 rfl wA rfl (by kernel_rfl) rfl (oO 7 48) (stores_of strct_int shp_z0 shp_zv) rfl
  intro B8 a8 W8 (S8 : Sta w 95 [(2, (.box 26 zR)), (8, (.box 24 (Zv (sg true (decV ((l.drop 1).take (e - 1)))) ((digs (decV ((l.drop 1).take (e - 1)))).length))))] [(6, iV (e : Nat)), (0, sV l)] _ _ _)
  refine wp_seq ?_
  refine wp_stmt_seq [.val (iV (e : Nat)), .val (sV l), .val (iV ((l).length : Nat)), kF] [.inr 0, .inr 1] [.inl 3, .inr 0, .inr 1] follows S8 rfl (by kernel_rfl) ?_ ?_
  · refine ⟨⟨⟨⟨trivial, ?_⟩, ?_⟩, ?_⟩, ?_⟩
    · exact mS 0 6
    · exact mS 1 0
    · exact b_lens wA (oO 1 50)
    · exact b_eql_int_f wA (oO 0 49) (oO 2 51)
  intro B9 a9 W9 (S9 : Sta w 95 [(2, (.box 26 zR)), (8, (.box 24 (Zv (sg true (decV ((l.drop 1).take (e - 1)))) ((digs (decV ((l.drop 1).take (e - 1)))).length))))] [(52, bF), (6, iV (e : Nat)), (0, sV l)] _ _ _)
  refine wp_cond_false (S9.bool 0 52 rfl) ?_
  refine wp_skip ?_
  refine thenN ?_
  refine wp_seq ?_
  refine wp_stmt_seq [.val (sV l), .val (iV (e : Nat)), .val (Is (.int .u8 ((bt l e : Nat) : Int))), kF] [.inr 0, .inr 1] [.inl 3, .inr 1, .inr 2] follows S9 rfl (by kernel_rfl) ?_ ?_
  · refine ⟨⟨⟨⟨trivial, ?_⟩, ?_⟩, ?_⟩, ?_⟩
    · exact mS 2 0
    · exact mS 1 6
    · exact b_idx wA (oO 0 55) (oO 1 56)
    · exact b_neq_u8_f wA (oO 2 57) (opnd_const _)
  intro B10 a10 W10 (S10 : Sta w 95 [(2, (.box 26 zR)), (8, (.box 24 (Zv (sg true (decV ((l.drop 1).take (e - 1)))) ((digs (decV ((l.drop 1).take (e - 1)))).length))))] [(58, bF), (6, iV (e : Nat)), (0, sV l)] _ _ _)
  refine wp_cond_false (S10.bool 0 58 rfl) ?_
  refine wp_skip ?_
  refine thenN ?_
  refine wp_stmt_seq [.val (sV l), .val (iV (e : Nat)), .val (iV ((e + 1 : Nat) : Int)), .val ((TWO (IS (.int .i64 (l.length : Nat))) (IS (.bool true))) w.heap.size), .val ((TWO (IS (.int .i64 (l.length : Nat))) (IS (.bool true))) w.heap.size), .val (iV (l.length : Nat)), kT, .val (iV (l.length : Nat)), kT] [.inr 0, .inr 1] [.inl 7, .inl 8, .inr 1, .inr 2] follows S10 rfl (by kernel_rfl) ?_ ?_
  · repeat' refine And.intro ?_ ?_
    · trivial
    · exact mS 2 0
    · exact mS 1 6
    · exact b_add_int wA (oO 1 63) (opnd_const _)
    · exact ch2 wA (qO 0 62 rfl) (qO 2 64 rfl) (fresh_two (fresh_is _) (fresh_is _)) (fun w u0 u1 hx0 hx1 => by obtain rfl : u0 = _ := hx0.now; obtain rfl : u1 = _ := hx1.now; exact dgt_t w l (e + 1) (l.length) hl (by omega) hd h4)
    · exact mO 3 65
    · exact e20 wA (oO 4 61)
    · exact e21 wA (oO 4 61)
    · exact mO 5 66
    · exact mO 6 67
  intro B11 a11 W11 (S11 : Sta w 95 [(2, (.box 26 zR)), (8, (.box 24 (Zv (sg true (decV ((l.drop 1).take (e - 1)))) ((digs (decV ((l.drop 1).take (e - 1)))).length))))] [(9, iV (l.length : Nat)), (7, bT), (6, iV (e : Nat)), (0, sV l)] _ _ _)
  refine wp_seq ?_
  refine wp_stmt_seq [kT, kF, kF, .val (sV l), .val (iV (e : Nat)), .val (iV ((e + 1 : Nat) : Int)), .val (Is (.int .u8 ((bt l (e + 1) : Nat) : Int))), kF, kF] [.inr 0, .inr 1] [.inl 8, .inr 0, .inr 2, .inr 3] follows S11 rfl (by kernel_rfl) ?_ ?_
  · repeat' refine And.intro ?_ ?_
    · trivial
    · exact mS 1 7
    · exact b_not wA (oO 0 68)
    · exact mO 1 69
    · exact mW (wI 2 70) (oS 3 0)
    · exact mW (wI 2 70) (oS 2 6)
    · exact b_add_int (wI 2 70) (oO 4 72) (opnd_const _)
    · exact b_idx (wI 2 70) (oO 3 71) (oO 5 73)
    · exact b_eql_u8_f (wI 2 70) (oO 6 74) (opnd_const _)
    · exact pF wA (oO 2 70) (oO 7 75)
  intro B12 a12 W12 (S12 : Sta w 95 [(2, (.box 26 zR)), (8, (.box 24 (Zv (sg true (decV ((l.drop 1).take (e - 1)))) ((digs (decV ((l.drop 1).take (e - 1)))).length))))] [(76, bF), (9, iV (l.length : Nat)), (6, iV (e : Nat)), (0, sV l)] _ _ _)
  refine wp_cond_false (S12.bool 0 76 rfl) ?_
  refine wp_skip ?_
  refine thenN ?_
  refine wp_seq ?_
  refine wp_stmt_seq [.val (iV (l.length : Nat)), .val (sV l), .val (iV ((l).length : Nat)), kF] [.inr 0, .inr 1] [.inl 3, .inr 1, .inr 2, .inr 3] follows S12 rfl (by kernel_rfl) ?_ ?_
  · refine ⟨⟨⟨⟨trivial, ?_⟩, ?_⟩, ?_⟩, ?_⟩
    · exact mS 1 9
    · exact mS 3 0
    · exact b_lens wA (oO 1 81)
    · exact b_lss_int_f wA (oO 0 80) (oO 2 82)
  intro B13 a13 W13 (S13 : Sta w 95 [(2, (.box 26 zR)), (8, (.box 24 (Zv (sg true (decV ((l.drop 1).take (e - 1)))) ((digs (decV ((l.drop 1).take (e - 1)))).length))))] [(83, bF), (9, iV (l.length : Nat)), (6, iV (e : Nat)), (0, sV l)] _ _ _)
  refine wp_cond_false (S13.bool 0 83 rfl) ?_
  refine wp_skip ?_
  refine thenN ?_
  refine wp_stmt_seq [.val (Zv (sg true (decV ((l.drop 1).take (e - 1)))) ((digs (decV ((l.drop 1).take (e - 1)))).length)), .val (sV l), .val (iV (e : Nat)), .val (iV ((e + 1 : Nat) : Int)), .val (iV (l.length : Nat)), .val (Is (str ((l.drop (e + 1)).take ((l.length) - (e + 1))))), .val ((NN (decV ((l.drop (e + 1)).take ((l.length) - (e + 1))))) w.heap.size), .val (Zv (sg false (decV ((l.drop (e + 1)).take ((l.length) - (e + 1))))) ((digs (decV ((l.drop (e + 1)).take ((l.length) - (e + 1))))).length)), .val ((RN (nR (sg true (decV ((l.drop 1).take (e - 1)))) (decV ((l.drop (e + 1)).take (l.length - (e + 1))))) (dR (sg true (decV ((l.drop 1).take (e - 1)))) (decV ((l.drop (e + 1)).take (l.length - (e + 1)))))) w.heap.size), .put (.inl 2) (.box 26 ((RN (nR (sg true (decV ((l.drop 1).take (e - 1)))) (decV ((l.drop (e + 1)).take (l.length - (e + 1))))) (dR (sg true (decV ((l.drop 1).take (e - 1)))) (decV ((l.drop (e + 1)).take (l.length - (e + 1)))))) w.heap.size)), .val (iV 0), .val (iV 0)] [.inr 0] [.inl 10, .inl 11] follows S13 rfl (by kernel_rfl) ?_ ?_
  · repeat' refine And.intro ?_ ?_
    · trivial
    · exact lod 1 wA (loads_of strct_int shp_zv)
    · exact mS 3 0
    · exact mS 2 6
    · exact b_add_int wA (oO 2 88) (opnd_const _)
    · exact mS 1 9
    · exact owe_three3 rfl wA rfl (oO 1 87) (oO 3 89) (oO 4 90) rfl (fun ρ w h1 h2 h3 => run_slb ρ _ _ _ _ w _ (e + 1) (l.length) ⟨by omega, by omega⟩ h1 h2 h3)
    · exact ch1 wA (qO 5 91 rfl) (fresh_nn _) (fun w u hx => by obtain rfl : u = _ := hx.now; exact rnum_w w _ (by simp; omega) (dig_seg (ne_le hd).2.2 (by omega)))
    · exact owe_bint1 rfl wA rfl ((oO 6 92).imp (nn_nv (Nat.le_refl _))) rfl
    · exact cc2 wA (qO 0 86 rfl) (qO 7 93 rfl) (fresh_rn _ _) (fun w u v h1 h2 => g_rmake (A := sg true (decV ((l.drop 1).take (e - 1)))) (D := decV ((l.drop (e + 1)).take (l.length - (e + 1)))) hD (by omega) (by omega) w u v h1 h2)
    · exact owe_set rfl wA rfl (k := 0) rfl (by kernel_rfl) (oO 8 94) (stores_of strct_rat shp_r0 (shp_pr shp_zn shp_zn)) rfl
    · exact mC
    · exact mC
  intro B14 a14 W14 (S14 : Sta w 95 [(2, (.box 26 ((RN (nR (sg true (decV ((l.drop 1).take (e - 1)))) (decV ((l.drop (e + 1)).take (l.length - (e + 1))))) (dR (sg true (decV ((l.drop 1).take (e - 1)))) (decV ((l.drop (e + 1)).take (l.length - (e + 1)))))) w.heap.size)))] [(3, iV 0), (4, iV 0)] _ _ _)
  refine wp_ret ?_
  exact end_three S14 rfl (res_cell S14 0 2 rfl strct_rat (shp_pr shp_zn shp_zn)) (res_tmp S14 0 3 rfl) (res_tmp S14 1 4 rfl)

set_option maxHeartbeats 2000000 in
theorem rf_no_p (w : World) (l : List UInt8) (hl : l.length ≤ 131072) (hN : isN l = false) (h : NE l 0 true 0)  :
    Calls Tryz.prog 9 #[str l] w (Gives (THREE (IS (.agg #[.bool false, .slice none 0 0, .bool false, .slice none 0 0])) (IS (.int .i64 ((0 : Nat) : Int))) (IS (.int .i64 4))) w) := by
  have hp1 := isN_plain hN
  refine calls_sta (sl := [(0, (sV l))]) Tryz.func9 rfl Tryz.ntmps9 (by simp) (args_cons rfl (is_has _) args_nil) ?_
  intro a0 S0
  refine wp_stmt_seq [.new (.box 26 zR), .val (iV 0), .val (iV 0)] [.inl 0] [.inr 0] follows S0 rfl (by kernel_rfl) ?_ ?_
  · refine ⟨⟨⟨trivial, ?_⟩, ?_⟩, ?_⟩
    · exact owe_new rfl wA rfl rfl (fun ρ w => alloc_rat ρ _ w)
    · exact mC
    · exact mC
  intro B1 a1 W1 (S1 : Sta w 95 [(2, (.box 26 zR))] [(0, sV l)] _ _ _)
  refine wp_seq ?_
  refine wp_stmt_seq [.val (sV l), .val (iV ((l).length : Nat)), kF] [.inr 0] [.inl 2, .inr 0] follows S1 rfl (by kernel_rfl) ?_ ?_
  · refine ⟨⟨⟨trivial, ?_⟩, ?_⟩, ?_⟩
    · exact mS 0 0
    · exact b_lens wA (oO 0 10)
    · exact b_gtr_int_f wA (oO 1 11) (opnd_const _)
  intro B2 a2 W2 (S2 : Sta w 95 [(2, (.box 26 zR))] [(12, bF), (0, sV l)] _ _ _)
  refine wp_cond_false (S2.bool 0 12 rfl) ?_
  refine wp_skip ?_
  refine thenN ?_
  refine wp_stmt_seq [.val (iV 0)] [.inr 0] [.inl 0, .inr 1] follows S2 rfl (by kernel_rfl) ?_ ?_
  · refine ⟨trivial, ?_⟩
    · exact mC
  intro B3 a3 W3 (S3 : Sta w 95 [(2, (.box 26 zR))] [(5, iV 0), (0, sV l)] _ _ _)
  refine wp_seq_join (fun a W => ∃ Bq, Sta w 95 [(2, (.box 26 zR))] [(5, iV 0), (0, sV l)] Bq a W) ?_ ?_
  · rintro a4 W4 ⟨B4, S4⟩
    refine wp_stmt_seq [.val (sV l), .val (iV 0), .val ((TWO (IS (.int .i64 (0 : Nat))) (IS (.bool false))) w.heap.size), .val ((TWO (IS (.int .i64 (0 : Nat))) (IS (.bool false))) w.heap.size), .val (iV (0 : Nat)), kF, .val (iV (0 : Nat)), kF] [.inr 0] [.inl 6, .inl 7, .inr 0, .inr 1] follows S4 rfl (by kernel_rfl) ?_ ?_
    · repeat' refine And.intro ?_ ?_
      · trivial
      · exact mS 1 0
      · exact mS 0 5
      · exact ch2 wA (qO 0 23 rfl) (qO 1 24 rfl) (fresh_two (fresh_is _) (fresh_is _)) (fun w u0 u1 hx0 hx1 => by obtain rfl : u0 = _ := hx0.now; obtain rfl : u1 = _ := hx1.now; exact dgt_f w l 0 0 hl (by omega) h rfl)
      · exact mO 2 25
      · exact e20 wA (oO 3 22)
      · exact e21 wA (oO 3 22)
      · exact mO 4 26
      · exact mO 5 27
    intro B5 a5 W5 (S5 : Sta w 95 [(2, (.box 26 zR))] [(6, iV (0 : Nat)), (7, bF), (5, iV 0), (0, sV l)] _ _ _)
    refine wp_seq ?_
    refine wp_stmt_seq [kF, kT, kT, .off, .off, .val (Is (undef)), .off, .off, .off, .off, kT] [.inr 0] [.inl 10, .inr 0, .inr 2, .inr 3] follows S5 rfl (by kernel_rfl) ?_ ?_
    · repeat' refine And.intro ?_ ?_
      · trivial
      · exact mS 1 7
      · exact b_not wA (oO 0 28)
      · exact mO 1 29
      · exact oF 2 30
      · exact oF 2 30
      · exact owe_offv 2 30 rfl rfl rfl (by kernel_rfl) rfl (by decide)
      · exact owe_offu 5 33 rfl rfl rfl (by kernel_rfl) rfl
      · exact owe_offu 5 33 rfl rfl rfl (by kernel_rfl) rfl
      · exact owe_offu 5 33 rfl rfl rfl (by kernel_rfl) rfl
      · exact oF 2 30
      · exact pT wA (oO 2 30) (opnd_const _)
    intro B6 a6 W6 (S6 : Sta w 95 [(2, (.box 26 zR))] [(38, bT), (6, iV (0 : Nat)), (5, iV 0), (0, sV l)] _ _ _)
    refine wp_cond_true (S6.bool 0 38 rfl) ?_
    refine wp_stmt_seq [.val zR, .val (iV 0), .put (.inl 2) (.box 26 zR), .val (iV 0), .val (iV 4)] [.inr 0] [.inl 3, .inl 4] follows S6 rfl (by kernel_rfl) ?_ ?_
    · refine ⟨⟨⟨⟨⟨trivial, ?_⟩, ?_⟩, ?_⟩, ?_⟩, ?_⟩
      · exact owe_build_rat rfl wA rfl rfl
      · exact mS 2 5
      · exact owe_set rfl wA rfl (k := 0) rfl (by kernel_rfl) (oO 0 39) (stores_of strct_rat shp_r0 shp_r0) rfl
      · exact mO 1 40
      · exact mC
    intro B7 a7 W7 (S7 : Sta w 95 [(2, (.box 26 zR))] [(3, iV 0), (4, iV 4)] _ _ _)
    refine wp_ret ?_
    refine thenR ?_
    exact end_three S7 rfl (res_cell S7 0 2 rfl strct_rat shp_r0) (res_tmp S7 0 3 rfl) (res_tmp S7 1 4 rfl)
  · by_cases hz : l.length = 0
    · skip
      refine wp_stmt_seq [.val (sV l), .val (iV ((l).length : Nat)), kF, kF, .off, .off, .off, kF] [.inr 0] [.inl 7, .inr 0, .inr 1] follows S3 rfl (by kernel_rfl) ?_ ?_
      · repeat' refine And.intro ?_ ?_
        · trivial
        · exact mS 1 0
        · exact b_lens wA (oO 0 14)
        · exact b_gtr_int_f wA (oO 1 15) (opnd_const _)
        · exact mO 2 16
        · exact oF 3 17
        · exact oF 3 17
        · exact oF 3 17
        · exact pF wA (oO 3 17) (opnd_const _)
      intro B4 a4 W4 (S4 : Sta w 95 [(2, (.box 26 zR))] [(21, bF), (5, iV 0), (0, sV l)] _ _ _)
      refine wp_cond_false (S4.bool 0 21 rfl) ?_
      refine wp_skip ?_
      refine thenN ?_
      exact ⟨B4, S4.sub [0] [1, 2]⟩
    · skip
      refine wp_stmt_seq [.val (sV l), .val (iV ((l).length : Nat)), kT, kT, .val (sV l), .val (Is (.int .u8 ((bt l 0 : Nat) : Int))), kF, kF] [.inr 0] [.inl 7, .inr 0, .inr 1] follows S3 rfl (by kernel_rfl) ?_ ?_
      · repeat' refine And.intro ?_ ?_
        · trivial
        · exact mS 1 0
        · exact b_lens wA (oO 0 14)
        · exact b_gtr_int_t wA (oO 1 15) (opnd_const _)
        · exact mO 2 16
        · exact mW (wI 3 17) (oS 1 0)
        · exact b_idx (k := 0) (wI 3 17) (oO 4 18) (opnd_const _)
        · exact b_eql_u8_f (wI 3 17) (oO 5 19) (opnd_const _)
        · exact pT wA (oO 3 17) (oO 6 20)
      intro B4 a4 W4 (S4 : Sta w 95 [(2, (.box 26 zR))] [(21, bF), (5, iV 0), (0, sV l)] _ _ _)
      refine wp_cond_false (S4.bool 0 21 rfl) ?_
      refine wp_skip ?_
      refine thenN ?_
      exact ⟨B4, S4.sub [0] [1, 2]⟩

set_option maxHeartbeats 2000000 in
theorem rf_whole_p (w : World) (l : List UInt8) (hl : l.length ≤ 131072) (hN : isN l = false) (h : NE l 0 true l.length) (h1 : 0 < l.length)  :
    Calls Tryz.prog 9 #[str l] w (Gives (THREE (RN (sg false (decV ((l.drop 0).take (l.length - 0)))) 1) (IS (.int .i64 0)) (IS (.int .i64 0))) w) := by
  have hp1 := isN_plain hN
  have hqa : (digs (decV ((l.drop 0).take (l.length - 0)))).length ≤ 131072 := decV_dl (dig_seg (ne_le h).2.2 (by omega)) (by simp; omega)
  refine calls_sta (sl := [(0, (sV l))]) Tryz.func9 rfl Tryz.ntmps9 (by simp) (args_cons rfl (is_has _) args_nil) ?_
  intro a0 S0
  refine wp_stmt_seq [.new (.box 26 zR), .val (iV 0), .val (iV 0)] [.inl 0] [.inr 0] follows S0 rfl (by kernel_rfl) ?_ ?_
  · refine ⟨⟨⟨trivial, ?_⟩, ?_⟩, ?_⟩
    · exact owe_new rfl wA rfl rfl (fun ρ w => alloc_rat ρ _ w)
    · exact mC
    · exact mC
  intro B1 a1 W1 (S1 : Sta w 95 [(2, (.box 26 zR))] [(0, sV l)] _ _ _)
  refine wp_seq ?_
  refine wp_stmt_seq [.val (sV l), .val (iV ((l).length : Nat)), kF] [.inr 0] [.inl 2, .inr 0] follows S1 rfl (by kernel_rfl) ?_ ?_
  · refine ⟨⟨⟨trivial, ?_⟩, ?_⟩, ?_⟩
    · exact mS 0 0
    · exact b_lens wA (oO 0 10)
    · exact b_gtr_int_f wA (oO 1 11) (opnd_const _)
  intro B2 a2 W2 (S2 : Sta w 95 [(2, (.box 26 zR))] [(12, bF), (0, sV l)] _ _ _)
  refine wp_cond_false (S2.bool 0 12 rfl) ?_
  refine wp_skip ?_
  refine thenN ?_
  refine wp_stmt_seq [.val (iV 0)] [.inr 0] [.inl 0, .inr 1] follows S2 rfl (by kernel_rfl) ?_ ?_
  · refine ⟨trivial, ?_⟩
    · exact mC
  intro B3 a3 W3 (S3 : Sta w 95 [(2, (.box 26 zR))] [(5, iV 0), (0, sV l)] _ _ _)
  refine wp_seq_join (fun a W => ∃ Bq, Sta w 95 [(2, (.box 26 zR))] [(5, iV 0), (0, sV l)] Bq a W) ?_ ?_
  · rintro a4 W4 ⟨B4, S4⟩
    refine wp_stmt_seq [.val (sV l), .val (iV 0), .val ((TWO (IS (.int .i64 (l.length : Nat))) (IS (.bool true))) w.heap.size), .val ((TWO (IS (.int .i64 (l.length : Nat))) (IS (.bool true))) w.heap.size), .val (iV (l.length : Nat)), kT, .val (iV (l.length : Nat)), kT] [.inr 0] [.inl 6, .inl 7, .inr 0, .inr 1] follows S4 rfl (by kernel_rfl) ?_ ?_
    · repeat' refine And.intro ?_ ?_
      · trivial
      · exact mS 1 0
      · exact mS 0 5
      · exact ch2 wA (qO 0 23 rfl) (qO 1 24 rfl) (fresh_two (fresh_is _) (fresh_is _)) (fun w u0 u1 hx0 hx1 => by obtain rfl : u0 = _ := hx0.now; obtain rfl : u1 = _ := hx1.now; exact dgt_t w l 0 (l.length) hl (by omega) h h1)
      · exact mO 2 25
      · exact e20 wA (oO 3 22)
      · exact e21 wA (oO 3 22)
      · exact mO 4 26
      · exact mO 5 27
    intro B5 a5 W5 (S5 : Sta w 95 [(2, (.box 26 zR))] [(6, iV (l.length : Nat)), (7, bT), (5, iV 0), (0, sV l)] _ _ _)
    refine wp_seq ?_
    refine wp_stmt_seq [kT, kF, kF, .val (iV 0), kF, kF, .off, .off, .off, kF, kF] [.inr 0] [.inl 10, .inr 0, .inr 2, .inr 3] follows S5 rfl (by kernel_rfl) ?_ ?_
    · repeat' refine And.intro ?_ ?_
      · trivial
      · exact mS 1 7
      · exact b_not wA (oO 0 28)
      · exact mO 1 29
      · exact mW (wI 2 30) (oS 2 5)
      · exact b_eql_int_f (wI 2 30) (oO 3 31) (opnd_const _) (h := by decide)
      · exact mW (wI 2 30) (oO 4 32)
      · exact oF 5 33
      · exact oF 5 33
      · exact oF 5 33
      · exact pF (wI 2 30) (oO 5 33) (opnd_const _)
      · exact pF wA (oO 2 30) (oO 9 37)
    intro B6 a6 W6 (S6 : Sta w 95 [(2, (.box 26 zR))] [(38, bF), (6, iV (l.length : Nat)), (5, iV 0), (0, sV l)] _ _ _)
    refine wp_cond_false (S6.bool 0 38 rfl) ?_
    refine wp_skip ?_
    refine thenN ?_
    refine wp_stmt_seq [.val (iV 0), kF, .val (sV l), .val (iV 0), .val (iV (l.length : Nat)), .val (Is (str ((l.drop 0).take ((l.length) - 0)))), .val ((NN (decV ((l.drop 0).take ((l.length) - 0)))) w.heap.size), .val (Zv (sg false (decV ((l.drop 0).take ((l.length) - 0)))) ((digs (decV ((l.drop 0).take ((l.length) - 0)))).length)), .new (.box 24 zI), .put (.inr 8) (.box 24 (Zv (sg false (decV ((l.drop 0).take ((l.length) - 0)))) ((digs (decV ((l.drop 0).take ((l.length) - 0)))).length)))] [.inr 0, .inl 8] [.inr 1, .inr 3] follows S6 rfl (by kernel_rfl) ?_ ?_
    · repeat' refine And.intro ?_ ?_
      · trivial
      · exact mS 2 5
      · exact b_eql_int_f wA (oO 0 41) (opnd_const _) (h := by decide)
      · exact mS 3 0
      · exact mS 2 5
      · exact mS 1 6
      · exact owe_three3 rfl wA rfl (oO 2 43) (oO 3 44) (oO 4 45) rfl (fun ρ w h1 h2 h3 => run_slb ρ _ _ _ _ w _ 0 (l.length) ⟨by omega, by omega⟩ h1 h2 h3)
      · exact ch1 wA (qO 5 46 rfl) (fresh_nn _) (fun w u hx => by obtain rfl : u = _ := hx.now; exact rnum_w w _ (by simp; omega) (dig_seg (ne_le h).2.2 (by omega)))
      · exact owe_bint2 rfl wA rfl (oO 1 42) ((oO 6 47).imp (nn_nv (Nat.le_refl _))) rfl
      · exact owe_new rfl wA rfl rfl (fun ρ w => alloc_int ρ _ w)
      · exact owe_put 8 rfl wA rfl (by kernel_rfl) rfl (oO 7 48) (stores_of strct_int shp_z0 shp_zv) rfl
    intro B7 a7 W7 (S7 : Sta w 95 [(2, (.box 26 zR)), (8, (.box 24 (Zv (sg false (decV ((l.drop 0).take ((l.length) - 0)))) ((digs (decV ((l.drop 0).take ((l.length) - 0)))).length))))] [(6, iV (l.length : Nat)), (0, sV l)] _ _ _)
    refine wp_seq ?_
    refine wp_stmt_seq [.val (iV (l.length : Nat)), .val (sV l), .val (iV ((l).length : Nat)), kT] [.inr 0, .inr 1] [.inl 3, .inr 0, .inr 1] follows S7 rfl (by kernel_rfl) ?_ ?_
    · refine ⟨⟨⟨⟨trivial, ?_⟩, ?_⟩, ?_⟩, ?_⟩
      · exact mS 0 6
      · exact mS 1 0
      · exact b_lens wA (oO 1 50)
      · exact b_eql_int_t wA (oO 0 49) (oO 2 51)
    intro B8 a8 W8 (S8 : Sta w 95 [(2, (.box 26 zR)), (8, (.box 24 (Zv (sg false (decV ((l.drop 0).take ((l.length) - 0)))) ((digs (decV ((l.drop 0).take ((l.length) - 0)))).length))))] [(52, bT), (6, iV (l.length : Nat)), (0, sV l)] _ _ _)
    refine wp_cond_true (S8.bool 0 52 rfl) ?_
    refine wp_stmt_seq [.val (Zv (sg false (decV ((l.drop 0).take ((l.length) - 0)))) ((digs (decV ((l.drop 0).take ((l.length) - 0)))).length)), .val ((RN (sg false (decV ((l.drop 0).take (l.length - 0)))) 1) w.heap.size), .put (.inl 2) (.box 26 ((RN (sg false (decV ((l.drop 0).take (l.length - 0)))) 1) w.heap.size)), .val (iV 0), .val (iV 0)] [.inr 0] [.inl 3, .inl 4] follows S8 rfl (by kernel_rfl) ?_ ?_
    · refine ⟨⟨⟨⟨⟨trivial, ?_⟩, ?_⟩, ?_⟩, ?_⟩, ?_⟩
      · exact lod 1 wA (loads_of strct_int shp_zv)
      · exact cc1 wA (qO 0 53 rfl) (fresh_rn _ _) (fun w u h1 => g_rofr (by omega) w u h1)
      · exact owe_set rfl wA rfl (k := 0) rfl (by kernel_rfl) (oO 1 54) (stores_of strct_rat shp_r0 (shp_pr shp_zn shp_zn)) rfl
      · exact mC
      · exact mC
    intro B9 a9 W9 (S9 : Sta w 95 [(2, (.box 26 ((RN (sg false (decV ((l.drop 0).take (l.length - 0)))) 1) w.heap.size)))] [(3, iV 0), (4, iV 0)] _ _ _)
    refine wp_ret ?_
    refine thenR ?_
    exact end_three S9 rfl (res_cell S9 0 2 rfl strct_rat (shp_pr shp_zn shp_zn)) (res_tmp S9 0 3 rfl) (res_tmp S9 1 4 rfl)
  · by_cases hz : l.length = 0
    · skip
      refine wp_stmt_seq [.val (sV l), .val (iV ((l).length : Nat)), kF, kF, .off, .off, .off, kF] [.inr 0] [.inl 7, .inr 0, .inr 1] follows S3 rfl (by kernel_rfl) ?_ ?_
      · repeat' refine And.intro ?_ ?_
        · trivial
        · exact mS 1 0
        · exact b_lens wA (oO 0 14)
        · exact b_gtr_int_f wA (oO 1 15) (opnd_const _)
        · exact mO 2 16
        · exact oF 3 17
        · exact oF 3 17
        · exact oF 3 17
        · exact pF wA (oO 3 17) (opnd_const _)
      intro B4 a4 W4 (S4 : Sta w 95 [(2, (.box 26 zR))] [(21, bF), (5, iV 0), (0, sV l)] _ _ _)
      refine wp_cond_false (S4.bool 0 21 rfl) ?_
      refine wp_skip ?_
      refine thenN ?_
      exact ⟨B4, S4.sub [0] [1, 2]⟩
    · skip
      refine wp_stmt_seq [.val (sV l), .val (iV ((l).length : Nat)), kT, kT, .val (sV l), .val (Is (.int .u8 ((bt l 0 : Nat) : Int))), kF, kF] [.inr 0] [.inl 7, .inr 0, .inr 1] follows S3 rfl (by kernel_rfl) ?_ ?_
      · repeat' refine And.intro ?_ ?_
        · trivial
        · exact mS 1 0
        · exact b_lens wA (oO 0 14)
        · exact b_gtr_int_t wA (oO 1 15) (opnd_const _)
        · exact mO 2 16
        · exact mW (wI 3 17) (oS 1 0)
        · exact b_idx (k := 0) (wI 3 17) (oO 4 18) (opnd_const _)
        · exact b_eql_u8_f (wI 3 17) (oO 5 19) (opnd_const _)
        · exact pT wA (oO 3 17) (oO 6 20)
      intro B4 a4 W4 (S4 : Sta w 95 [(2, (.box 26 zR))] [(21, bF), (5, iV 0), (0, sV l)] _ _ _)
      refine wp_cond_false (S4.bool 0 21 rfl) ?_
      refine wp_skip ?_
      refine thenN ?_
      exact ⟨B4, S4.sub [0] [1, 2]⟩

set_option maxHeartbeats 2000000 in
theorem rf_tail_p (w : World) (l : List UInt8) (hl : l.length ≤ 131072) (hN : isN l = false) (e : Nat) (h : NE l 0 true e) (h1 : 0 < e) (h2 : e < l.length) (h3 : bt l e ≠ 47) :
    Calls Tryz.prog 9 #[str l] w (Gives (THREE (IS (.agg #[.bool false, .slice none 0 0, .bool false, .slice none 0 0])) (IS (.int .i64 (e : Nat))) (IS (.int .i64 4))) w) := by
  have hp1 := isN_plain hN
  have hqa : (digs (decV ((l.drop 0).take (e - 0)))).length ≤ 131072 := decV_dl (dig_seg (ne_le h).2.2 (by omega)) (by simp; omega)
  refine calls_sta (sl := [(0, (sV l))]) Tryz.func9 rfl Tryz.ntmps9 (by simp) (args_cons rfl (is_has _) args_nil) ?_
  intro a0 S0
  refine wp_stmt_seq [.new (.box 26 zR), .val (iV 0), .val (iV 0)] [.inl 0] [.inr 0] follows S0 rfl (by kernel_rfl) ?_ ?_
  · refine ⟨⟨⟨trivial, ?_⟩, ?_⟩, ?_⟩
    · exact owe_new rfl wA rfl rfl (fun ρ w => alloc_rat ρ _ w)
    · exact mC
    · exact mC
  intro B1 a1 W1 (S1 : Sta w 95 [(2, (.box 26 zR))] [(0, sV l)] _ _ _)
  refine wp_seq ?_
  refine wp_stmt_seq [.val (sV l), .val (iV ((l).length : Nat)), kF] [.inr 0] [.inl 2, .inr 0] follows S1 rfl (by kernel_rfl) ?_ ?_
  · refine ⟨⟨⟨trivial, ?_⟩, ?_⟩, ?_⟩
    · exact mS 0 0
    · exact b_lens wA (oO 0 10)
    · exact b_gtr_int_f wA (oO 1 11) (opnd_const _)
  intro B2 a2 W2 (S2 : Sta w 95 [(2, (.box 26 zR))] [(12, bF), (0, sV l)] _ _ _)
  refine wp_cond_false (S2.bool 0 12 rfl) ?_
  refine wp_skip ?_
  refine thenN ?_
  refine wp_stmt_seq [.val (iV 0)] [.inr 0] [.inl 0, .inr 1] follows S2 rfl (by kernel_rfl) ?_ ?_
  · refine ⟨trivial, ?_⟩
    · exact mC
  intro B3 a3 W3 (S3 : Sta w 95 [(2, (.box 26 zR))] [(5, iV 0), (0, sV l)] _ _ _)
  refine wp_seq_join (fun a W => ∃ Bq, Sta w 95 [(2, (.box 26 zR))] [(5, iV 0), (0, sV l)] Bq a W) ?_ ?_
  · rintro a4 W4 ⟨B4, S4⟩
    refine wp_stmt_seq [.val (sV l), .val (iV 0), .val ((TWO (IS (.int .i64 (e : Nat))) (IS (.bool true))) w.heap.size), .val ((TWO (IS (.int .i64 (e : Nat))) (IS (.bool true))) w.heap.size), .val (iV (e : Nat)), kT, .val (iV (e : Nat)), kT] [.inr 0] [.inl 6, .inl 7, .inr 0, .inr 1] follows S4 rfl (by kernel_rfl) ?_ ?_
    · repeat' refine And.intro ?_ ?_
      · trivial
      · exact mS 1 0
      · exact mS 0 5
      · exact ch2 wA (qO 0 23 rfl) (qO 1 24 rfl) (fresh_two (fresh_is _) (fresh_is _)) (fun w u0 u1 hx0 hx1 => by obtain rfl : u0 = _ := hx0.now; obtain rfl : u1 = _ := hx1.now; exact dgt_t w l 0 (e) hl (by omega) h h1)
      · exact mO 2 25
      · exact e20 wA (oO 3 22)
      · exact e21 wA (oO 3 22)
      · exact mO 4 26
      · exact mO 5 27
    intro B5 a5 W5 (S5 : Sta w 95 [(2, (.box 26 zR))] [(6, iV (e : Nat)), (7, bT), (5, iV 0), (0, sV l)] _ _ _)
    refine wp_seq ?_
    refine wp_stmt_seq [kT, kF, kF, .val (iV 0), kF, kF, .off, .off, .off, kF, kF] [.inr 0] [.inl 10, .inr 0, .inr 2, .inr 3] follows S5 rfl (by kernel_rfl) ?_ ?_
    · repeat' refine And.intro ?_ ?_
      · trivial
      · exact mS 1 7
      · exact b_not wA (oO 0 28)
      · exact mO 1 29
      · exact mW (wI 2 30) (oS 2 5)
      · exact b_eql_int_f (wI 2 30) (oO 3 31) (opnd_const _) (h := by decide)
      · exact mW (wI 2 30) (oO 4 32)
      · exact oF 5 33
      · exact oF 5 33
      · exact oF 5 33
      · exact pF (wI 2 30) (oO 5 33) (opnd_const _)
      · exact pF wA (oO 2 30) (oO 9 37)
    intro B6 a6 W6 (S6 : Sta w 95 [(2, (.box 26 zR))] [(38, bF), (6, iV (e : Nat)), (5, iV 0), (0, sV l)] _ _ _)
    refine wp_cond_false (S6.bool 0 38 rfl) ?_
    refine wp_skip ?_
    refine thenN ?_
    refine wp_stmt_seq [.val (iV 0), kF, .val (sV l), .val (iV 0), .val (iV (e : Nat)), .val (sV ((l.drop 0).take (e - 0))), .val ((NN (decV ((l.drop 0).take (e - 0)))) w.heap.size), .val (Zv (sg false (decV ((l.drop 0).take (e - 0)))) ((digs (decV ((l.drop 0).take (e - 0)))).length)), .new (.box 24 zI), .put (.inr 8) (.box 24 (Zv (sg false (decV ((l.drop 0).take (e - 0)))) ((digs (decV ((l.drop 0).take (e - 0)))).length)))] [.inr 0, .inl 8] [.inr 1, .inr 3] follows S6 rfl (by kernel_rfl) ?_ ?_
    · repeat' refine And.intro ?_ ?_
      · trivial
      · exact mS 2 5
      · exact b_eql_int_f wA (oO 0 41) (opnd_const _) (h := by decide)
      · exact mS 3 0
      · exact mS 2 5
      · exact mS 1 6
      · exact owe_three3 rfl wA rfl (oO 2 43) (oO 3 44) (oO 4 45) rfl (fun ρ w h1 h2 h3 => run_slb ρ _ _ _ _ w _ 0 e ⟨by omega, by omega⟩ h1 h2 h3)
      · exact ch1 wA (qO 5 46 rfl) (fresh_nn _) (fun w u hx => by obtain rfl : u = _ := hx.now; exact rnum_w w _ (by simp; omega) (dig_seg (ne_le h).2.2 (by omega)))
      · exact owe_bint2 rfl wA rfl (oO 1 42) ((oO 6 47).imp (nn_nv (Nat.le_refl _))) rfl
      · exact owe_new rfl wA rfl rfl (fun ρ w => alloc_int ρ _ w)
      · exact owe_put 8 rfl wA rfl (by kernel_rfl) rfl (oO 7 48) (stores_of strct_int shp_z0 shp_zv) rfl
    intro B7 a7 W7 (S7 : Sta w 95 [(2, (.box 26 zR)), (8, (.box 24 (Zv (sg false (decV ((l.drop 0).take (e - 0)))) ((digs (decV ((l.drop 0).take (e - 0)))).length))))] [(6, iV (e : Nat)), (0, sV l)] _ _ _)
    refine wp_seq ?_
    refine wp_stmt_seq [.val (iV (e : Nat)), .val (sV l), .val (iV ((l).length : Nat)), kF] [.inr 0, .inr 1] [.inl 3, .inr 0, .inr 1] follows S7 rfl (by kernel_rfl) ?_ ?_
    · refine ⟨⟨⟨⟨trivial, ?_⟩, ?_⟩, ?_⟩, ?_⟩
      · exact mS 0 6
      · exact mS 1 0
      · exact b_lens wA (oO 1 50)
      · exact b_eql_int_f wA (oO 0 49) (oO 2 51)
    intro B8 a8 W8 (S8 : Sta w 95 [(2, (.box 26 zR)), (8, (.box 24 (Zv (sg false (decV ((l.drop 0).take (e - 0)))) ((digs (decV ((l.drop 0).take (e - 0)))).length))))] [(52, bF), (6, iV (e : Nat)), (0, sV l)] _ _ _)
    refine wp_cond_false (S8.bool 0 52 rfl) ?_
    refine wp_skip ?_
    refine thenN ?_
    refine wp_seq ?_
    refine wp_stmt_seq [.val (sV l), .val (iV (e : Nat)), .val (Is (.int .u8 ((bt l e : Nat) : Int))), kT] [.inr 0, .inr 1] [.inl 3, .inr 1, .inr 2] follows S8 rfl (by kernel_rfl) ?_ ?_
    · refine ⟨⟨⟨⟨trivial, ?_⟩, ?_⟩, ?_⟩, ?_⟩
      · exact mS 2 0
      · exact mS 1 6
      · exact b_idx wA (oO 0 55) (oO 1 56)
      · exact b_neq_u8_t wA (oO 2 57) (opnd_const _)
    intro B9 a9 W9 (S9 : Sta w 95 [(2, (.box 26 zR)), (8, (.box 24 (Zv (sg false (decV ((l.drop 0).take (e - 0)))) ((digs (decV ((l.drop 0).take (e - 0)))).length))))] [(58, bT), (6, iV (e : Nat)), (0, sV l)] _ _ _)
    refine wp_cond_true (S9.bool 0 58 rfl) ?_
    refine wp_stmt_seq [.val zR, .val (iV (e : Nat)), .put (.inl 2) (.box 26 zR), .val (iV (e : Nat)), .val (iV 4)] [.inr 0] [.inl 3, .inl 4] follows S9 rfl (by kernel_rfl) ?_ ?_
    · refine ⟨⟨⟨⟨⟨trivial, ?_⟩, ?_⟩, ?_⟩, ?_⟩, ?_⟩
      · exact owe_build_rat rfl wA rfl rfl
      · exact mS 1 6
      · exact owe_set rfl wA rfl (k := 0) rfl (by kernel_rfl) (oO 0 59) (stores_of strct_rat shp_r0 shp_r0) rfl
      · exact mO 1 60
      · exact mC
    intro B10 a10 W10 (S10 : Sta w 95 [(2, (.box 26 zR))] [(3, iV (e : Nat)), (4, iV 4)] _ _ _)
    refine wp_ret ?_
    refine thenR ?_
    exact end_three S10 rfl (res_cell S10 0 2 rfl strct_rat shp_r0) (res_tmp S10 0 3 rfl) (res_tmp S10 1 4 rfl)
  · by_cases hz : l.length = 0
    · skip
      refine wp_stmt_seq [.val (sV l), .val (iV ((l).length : Nat)), kF, kF, .off, .off, .off, kF] [.inr 0] [.inl 7, .inr 0, .inr 1] follows S3 rfl (by kernel_rfl) ?_ ?_
      · repeat' refine And.intro ?_ ?_
        · trivial
        · exact mS 1 0
        · exact b_lens wA (oO 0 14)
        · exact b_gtr_int_f wA (oO 1 15) (opnd_const _)
        · exact mO 2 16
        · exact oF 3 17
        · exact oF 3 17
        · exact oF 3 17
        · exact pF wA (oO 3 17) (opnd_const _)
      intro B4 a4 W4 (S4 : Sta w 95 [(2, (.box 26 zR))] [(21, bF), (5, iV 0), (0, sV l)] _ _ _)
      refine wp_cond_false (S4.bool 0 21 rfl) ?_
      refine wp_skip ?_
      refine thenN ?_
      exact ⟨B4, S4.sub [0] [1, 2]⟩
    · skip
      refine wp_stmt_seq [.val (sV l), .val (iV ((l).length : Nat)), kT, kT, .val (sV l), .val (Is (.int .u8 ((bt l 0 : Nat) : Int))), kF, kF] [.inr 0] [.inl 7, .inr 0, .inr 1] follows S3 rfl (by kernel_rfl) ?_ ?_
      · repeat' refine And.intro ?_ ?_
        · trivial
        · exact mS 1 0
        · exact b_lens wA (oO 0 14)
        · exact b_gtr_int_t wA (oO 1 15) (opnd_const _)
        · exact mO 2 16
        · exact mW (wI 3 17) (oS 1 0)
        · exact b_idx (k := 0) (wI 3 17) (oO 4 18) (opnd_const _)
        · exact b_eql_u8_f (wI 3 17) (oO 5 19) (opnd_const _)
        · exact pT wA (oO 3 17) (oO 6 20)
      intro B4 a4 W4 (S4 : Sta w 95 [(2, (.box 26 zR))] [(21, bF), (5, iV 0), (0, sV l)] _ _ _)
      refine wp_cond_false (S4.bool 0 21 rfl) ?_
      refine wp_skip ?_
      refine thenN ?_
      exact ⟨B4, S4.sub [0] [1, 2]⟩

set_option maxHeartbeats 2000000 in
theorem rf_noden0_p (w : World) (l : List UInt8) (hl : l.length ≤ 131072) (hN : isN l = false) (e : Nat) (h : NE l 0 true e) (h1 : 0 < e) (h2 : e < l.length) (h3 : bt l e = 47) (h4 : e + 1 < l.length) (h5 : bt l (e + 1) = 48) :
    Calls Tryz.prog 9 #[str l] w (Gives (THREE (IS (.agg #[.bool false, .slice none 0 0, .bool false, .slice none 0 0])) (IS (.int .i64 ((e + 1 : Nat) : Int))) (IS (.int .i64 4))) w) := by
  have hp1 := isN_plain hN
  have hqa : (digs (decV ((l.drop 0).take (e - 0)))).length ≤ 131072 := decV_dl (dig_seg (ne_le h).2.2 (by omega)) (by simp; omega)
  refine calls_sta (sl := [(0, (sV l))]) Tryz.func9 rfl Tryz.ntmps9 (by simp) (args_cons rfl (is_has _) args_nil) ?_
  intro a0 S0
  refine wp_stmt_seq [.new (.box 26 zR), .val (iV 0), .val (iV 0)] [.inl 0] [.inr 0] follows S0 rfl (by kernel_rfl) ?_ ?_
  · refine ⟨⟨⟨trivial, ?_⟩, ?_⟩, ?_⟩
    · exact owe_new rfl wA rfl rfl (fun ρ w => alloc_rat ρ _ w)
    · exact mC
    · exact mC
  intro B1 a1 W1 (S1 : Sta w 95 [(2, (.box 26 zR))] [(0, sV l)] _ _ _)
  refine wp_seq ?_
  refine wp_stmt_seq [.val (sV l), .val (iV ((l).length : Nat)), kF] [.inr 0] [.inl 2, .inr 0] follows S1 rfl (by kernel_rfl) ?_ ?_
  · refine ⟨⟨⟨trivial, ?_⟩, ?_⟩, ?_⟩
    · exact mS 0 0
    · exact b_lens wA (oO 0 10)
    · exact b_gtr_int_f wA (oO 1 11) (opnd_const _)
  intro B2 a2 W2 (S2 : Sta w 95 [(2, (.box 26 zR))] [(12, bF), (0, sV l)] _ _ _)
  refine wp_cond_false (S2.bool 0 12 rfl) ?_
  refine wp_skip ?_
  refine thenN ?_
  refine wp_stmt_seq [.val (iV 0)] [.inr 0] [.inl 0, .inr 1] follows S2 rfl (by kernel_rfl) ?_ ?_
  · refine ⟨trivial, ?_⟩
    · exact mC
  intro B3 a3 W3 (S3 : Sta w 95 [(2, (.box 26 zR))] [(5, iV 0), (0, sV l)] _ _ _)
  refine wp_seq_join (fun a W => ∃ Bq, Sta w 95 [(2, (.box 26 zR))] [(5, iV 0), (0, sV l)] Bq a W) ?_ ?_
  · rintro a4 W4 ⟨B4, S4⟩
    refine wp_stmt_seq [.val (sV l), .val (iV 0), .val ((TWO (IS (.int .i64 (e : Nat))) (IS (.bool true))) w.heap.size), .val ((TWO (IS (.int .i64 (e : Nat))) (IS (.bool true))) w.heap.size), .val (iV (e : Nat)), kT, .val (iV (e : Nat)), kT] [.inr 0] [.inl 6, .inl 7, .inr 0, .inr 1] follows S4 rfl (by kernel_rfl) ?_ ?_
    · repeat' refine And.intro ?_ ?_
      · trivial
      · exact mS 1 0
      · exact mS 0 5
      · exact ch2 wA (qO 0 23 rfl) (qO 1 24 rfl) (fresh_two (fresh_is _) (fresh_is _)) (fun w u0 u1 hx0 hx1 => by obtain rfl : u0 = _ := hx0.now; obtain rfl : u1 = _ := hx1.now; exact dgt_t w l 0 (e) hl (by omega) h h1)
      · exact mO 2 25
      · exact e20 wA (oO 3 22)
      · exact e21 wA (oO 3 22)
      · exact mO 4 26
      · exact mO 5 27
    intro B5 a5 W5 (S5 : Sta w 95 [(2, (.box 26 zR))] [(6, iV (e : Nat)), (7, bT), (5, iV 0), (0, sV l)] _ _ _)
    refine wp_seq ?_
    refine wp_stmt_seq [kT, kF, kF, .val (iV 0), kF, kF, .off, .off, .off, kF, kF] [.inr 0] [.inl 10, .inr 0, .inr 2, .inr 3] follows S5 rfl (by kernel_rfl) ?_ ?_
    · repeat' refine And.intro ?_ ?_
      · trivial
      · exact mS 1 7
      · exact b_not wA (oO 0 28)
      · exact mO 1 29
      · exact mW (wI 2 30) (oS 2 5)
      · exact b_eql_int_f (wI 2 30) (oO 3 31) (opnd_const _) (h := by decide)
      · exact mW (wI 2 30) (oO 4 32)
      · exact oF 5 33
      · exact oF 5 33
      · exact oF 5 33
      · exact pF (wI 2 30) (oO 5 33) (opnd_const _)
      · exact pF wA (oO 2 30) (oO 9 37)
    intro B6 a6 W6 (S6 : Sta w 95 [(2, (.box 26 zR))] [(38, bF), (6, iV (e : Nat)), (5, iV 0), (0, sV l)] _ _ _)
    refine wp_cond_false (S6.bool 0 38 rfl) ?_
    refine wp_skip ?_
    refine thenN ?_
    refine wp_stmt_seq [.val (iV 0), kF, .val (sV l), .val (iV 0), .val (iV (e : Nat)), .val (sV ((l.drop 0).take (e - 0))), .val ((NN (decV ((l.drop 0).take (e - 0)))) w.heap.size), .val (Zv (sg false (decV ((l.drop 0).take (e - 0)))) ((digs (decV ((l.drop 0).take (e - 0)))).length)), .new (.box 24 zI), .put (.inr 8) (.box 24 (Zv (sg false (decV ((l.drop 0).take (e - 0)))) ((digs (decV ((l.drop 0).take (e - 0)))).length)))] [.inr 0, .inl 8] [.inr 1, .inr 3] follows S6 rfl (by kernel_rfl) ?_ ?_
    · repeat' refine And.intro ?_ ?_
      · trivial
      · exact mS 2 5
      · exact b_eql_int_f wA (oO 0 41) (opnd_const _) (h := by decide)
      · exact mS 3 0
      · exact mS 2 5
      · exact mS 1 6
      · exact owe_three3 rfl wA rfl (oO 2 43) (oO 3 44) (oO 4 45) rfl (fun ρ w h1 h2 h3 => run_slb ρ _ _ _ _ w _ 0 e ⟨by omega, by omega⟩ h1 h2 h3)
      · exact ch1 wA (qO 5 46 rfl) (fresh_nn _) (fun w u hx => by obtain rfl : u = _ := hx.now; exact rnum_w w _ (by simp; omega) (dig_seg (ne_le h).2.2 (by omega)))
      · exact owe_bint2 rfl wA rfl (oO 1 42) ((oO 6 47).imp (nn_nv (Nat.le_refl _))) rfl
      · exact owe_new rfl wA rfl rfl (fun ρ w => alloc_int ρ _ w)
      · exact owe_put 8 rfl wA rfl (by kernel_rfl) rfl (oO 7 48) (stores_of strct_int shp_z0 shp_zv) rfl
    intro B7 a7 W7 (S7 : Sta w 95 [(2, (.box 26 zR)), (8, (.box 24 (Zv (sg false (decV ((l.drop 0).take (e - 0)))) ((digs (decV ((l.drop 0).take (e - 0)))).length))))] [(6, iV (e : Nat)), (0, sV l)] _ _ _)
    refine wp_seq ?_
    refine wp_stmt_seq [.val (iV (e : Nat)), .val (sV l), .val (iV ((l).length : Nat)), kF] [.inr 0, .inr 1] [.inl 3, .inr 0, .inr 1] follows S7 rfl (by kernel_rfl) ?_ ?_
    · refine ⟨⟨⟨⟨trivial, ?_⟩, ?_⟩, ?_⟩, ?_⟩
      · exact mS 0 6
      · exact mS 1 0
      · exact b_lens wA (oO 1 50)
      · exact b_eql_int_f wA (oO 0 49) (oO 2 51)
    intro B8 a8 W8 (S8 : Sta w 95 [(2, (.box 26 zR)), (8, (.box 24 (Zv (sg false (decV ((l.drop 0).take (e - 0)))) ((digs (decV ((l.drop 0).take (e - 0)))).length))))] [(52, bF), (6, iV (e : Nat)), (0, sV l)] _ _ _)
    refine wp_cond_false (S8.bool 0 52 rfl) ?_
    refine wp_skip ?_
    refine thenN ?_
    refine wp_seq ?_
    refine wp_stmt_seq [.val (sV l), .val (iV (e : Nat)), .val (Is (.int .u8 ((bt l e : Nat) : Int))), kF] [.inr 0, .inr 1] [.inl 3, .inr 1, .inr 2] follows S8 rfl (by kernel_rfl) ?_ ?_
    · refine ⟨⟨⟨⟨trivial, ?_⟩, ?_⟩, ?_⟩, ?_⟩
      · exact mS 2 0
      · exact mS 1 6
      · exact b_idx wA (oO 0 55) (oO 1 56)
      · exact b_neq_u8_f wA (oO 2 57) (opnd_const _)
    intro B9 a9 W9 (S9 : Sta w 95 [(2, (.box 26 zR)), (8, (.box 24 (Zv (sg false (decV ((l.drop 0).take (e - 0)))) ((digs (decV ((l.drop 0).take (e - 0)))).length))))] [(58, bF), (6, iV (e : Nat)), (0, sV l)] _ _ _)
    refine wp_cond_false (S9.bool 0 58 rfl) ?_
    refine wp_skip ?_
    refine thenN ?_
    refine wp_stmt_seq [.val (sV l), .val (iV (e : Nat)), .val (iV ((e + 1 : Nat) : Int)), .val ((TWO (IS (.int .i64 (e + 2 : Nat))) (IS (.bool true))) w.heap.size), .val ((TWO (IS (.int .i64 (e + 2 : Nat))) (IS (.bool true))) w.heap.size), .val (iV (e + 2 : Nat)), kT, .val (iV (e + 2 : Nat)), kT] [.inr 0, .inr 1] [.inl 7, .inl 8, .inr 1, .inr 2] follows S9 rfl (by kernel_rfl) ?_ ?_
    · repeat' refine And.intro ?_ ?_
      · trivial
      · exact mS 2 0
      · exact mS 1 6
      · exact b_add_int wA (oO 1 63) (opnd_const _)
      · exact ch2 wA (qO 0 62 rfl) (qO 2 64 rfl) (fresh_two (fresh_is _) (fresh_is _)) (fun w u0 u1 hx0 hx1 => by obtain rfl : u0 = _ := hx0.now; obtain rfl : u1 = _ := hx1.now; exact dgt_t w l (e + 1) (e + 2) hl (by omega) (Or.inl ⟨h4, h5, rfl⟩) (by omega))
      · exact mO 3 65
      · exact e20 wA (oO 4 61)
      · exact e21 wA (oO 4 61)
      · exact mO 5 66
      · exact mO 6 67
    intro B10 a10 W10 (S10 : Sta w 95 [(2, (.box 26 zR)), (8, (.box 24 (Zv (sg false (decV ((l.drop 0).take (e - 0)))) ((digs (decV ((l.drop 0).take (e - 0)))).length))))] [(9, iV (e + 2 : Nat)), (7, bT), (6, iV (e : Nat)), (0, sV l)] _ _ _)
    refine wp_seq ?_
    refine wp_stmt_seq [kT, kF, kF, .val (sV l), .val (iV (e : Nat)), .val (iV ((e + 1 : Nat) : Int)), .val (Is (.int .u8 ((bt l (e + 1) : Nat) : Int))), kT, kT] [.inr 0, .inr 1] [.inl 8, .inr 0, .inr 2, .inr 3] follows S10 rfl (by kernel_rfl) ?_ ?_
    · repeat' refine And.intro ?_ ?_
      · trivial
      · exact mS 1 7
      · exact b_not wA (oO 0 68)
      · exact mO 1 69
      · exact mW (wI 2 70) (oS 3 0)
      · exact mW (wI 2 70) (oS 2 6)
      · exact b_add_int (wI 2 70) (oO 4 72) (opnd_const _)
      · exact b_idx (wI 2 70) (oO 3 71) (oO 5 73)
      · exact b_eql_u8_t (wI 2 70) (oO 6 74) (opnd_const _)
      · exact pF wA (oO 2 70) (oO 7 75)
    intro B11 a11 W11 (S11 : Sta w 95 [(2, (.box 26 zR)), (8, (.box 24 (Zv (sg false (decV ((l.drop 0).take (e - 0)))) ((digs (decV ((l.drop 0).take (e - 0)))).length))))] [(76, bT), (9, iV (e + 2 : Nat)), (6, iV (e : Nat)), (0, sV l)] _ _ _)
    refine wp_cond_true (S11.bool 0 76 rfl) ?_
    refine wp_stmt_seq [.val zR, .val (iV (e : Nat)), .val (iV ((e + 1 : Nat) : Int)), .put (.inl 2) (.box 26 zR), .val (iV ((e + 1 : Nat) : Int)), .val (iV 4)] [.inr 0] [.inl 4, .inl 5] follows S11 rfl (by kernel_rfl) ?_ ?_
    · refine ⟨⟨⟨⟨⟨⟨trivial, ?_⟩, ?_⟩, ?_⟩, ?_⟩, ?_⟩, ?_⟩
      · exact owe_build_rat rfl wA rfl rfl
      · exact mS 2 6
      · exact b_add_int wA (oO 1 78) (opnd_const _)
      · exact owe_set rfl wA rfl (k := 0) rfl (by kernel_rfl) (oO 0 77) (stores_of strct_rat shp_r0 shp_r0) rfl
      · exact mO 2 79
      · exact mC
    intro B12 a12 W12 (S12 : Sta w 95 [(2, (.box 26 zR))] [(3, iV ((e + 1 : Nat) : Int)), (4, iV 4)] _ _ _)
    refine wp_ret ?_
    refine thenR ?_
    exact end_three S12 rfl (res_cell S12 0 2 rfl strct_rat shp_r0) (res_tmp S12 0 3 rfl) (res_tmp S12 1 4 rfl)
  · by_cases hz : l.length = 0
    · skip
      refine wp_stmt_seq [.val (sV l), .val (iV ((l).length : Nat)), kF, kF, .off, .off, .off, kF] [.inr 0] [.inl 7, .inr 0, .inr 1] follows S3 rfl (by kernel_rfl) ?_ ?_
      · repeat' refine And.intro ?_ ?_
        · trivial
        · exact mS 1 0
        · exact b_lens wA (oO 0 14)
        · exact b_gtr_int_f wA (oO 1 15) (opnd_const _)
        · exact mO 2 16
        · exact oF 3 17
        · exact oF 3 17
        · exact oF 3 17
        · exact pF wA (oO 3 17) (opnd_const _)
      intro B4 a4 W4 (S4 : Sta w 95 [(2, (.box 26 zR))] [(21, bF), (5, iV 0), (0, sV l)] _ _ _)
      refine wp_cond_false (S4.bool 0 21 rfl) ?_
      refine wp_skip ?_
      refine thenN ?_
      exact ⟨B4, S4.sub [0] [1, 2]⟩
    · skip
      refine wp_stmt_seq [.val (sV l), .val (iV ((l).length : Nat)), kT, kT, .val (sV l), .val (Is (.int .u8 ((bt l 0 : Nat) : Int))), kF, kF] [.inr 0] [.inl 7, .inr 0, .inr 1] follows S3 rfl (by kernel_rfl) ?_ ?_
      · repeat' refine And.intro ?_ ?_
        · trivial
        · exact mS 1 0
        · exact b_lens wA (oO 0 14)
        · exact b_gtr_int_t wA (oO 1 15) (opnd_const _)
        · exact mO 2 16
        · exact mW (wI 3 17) (oS 1 0)
        · exact b_idx (k := 0) (wI 3 17) (oO 4 18) (opnd_const _)
        · exact b_eql_u8_f (wI 3 17) (oO 5 19) (opnd_const _)
        · exact pT wA (oO 3 17) (oO 6 20)
      intro B4 a4 W4 (S4 : Sta w 95 [(2, (.box 26 zR))] [(21, bF), (5, iV 0), (0, sV l)] _ _ _)
      refine wp_cond_false (S4.bool 0 21 rfl) ?_
      refine wp_skip ?_
      refine thenN ?_
      exact ⟨B4, S4.sub [0] [1, 2]⟩

set_option maxHeartbeats 2000000 in
theorem rf_noden_p (w : World) (l : List UInt8) (hl : l.length ≤ 131072) (hN : isN l = false) (e : Nat) (h : NE l 0 true e) (h1 : 0 < e) (h2 : e < l.length) (h3 : bt l e = 47) (hd : NE l (e + 1) true (e + 1)) :
    Calls Tryz.prog 9 #[str l] w (Gives (THREE (IS (.agg #[.bool false, .slice none 0 0, .bool false, .slice none 0 0])) (IS (.int .i64 ((e + 1 : Nat) : Int))) (IS (.int .i64 4))) w) := by
  have hp1 := isN_plain hN
  have hqa : (digs (decV ((l.drop 0).take (e - 0)))).length ≤ 131072 := decV_dl (dig_seg (ne_le h).2.2 (by omega)) (by simp; omega)
  refine calls_sta (sl := [(0, (sV l))]) Tryz.func9 rfl Tryz.ntmps9 (by simp) (args_cons rfl (is_has _) args_nil) ?_
  intro a0 S0
  refine wp_stmt_seq [.new (.box 26 zR), .val (iV 0), .val (iV 0)] [.inl 0] [.inr 0] follows S0 rfl (by kernel_rfl) ?_ ?_
  · refine ⟨⟨⟨trivial, ?_⟩, ?_⟩, ?_⟩
    · exact owe_new rfl wA rfl rfl (fun ρ w => alloc_rat ρ _ w)
    · exact mC
    · exact mC
  intro B1 a1 W1 (S1 : Sta w 95 [(2, (.box 26 zR))] [(0, sV l)] _ _ _)
  refine wp_seq ?_
  refine wp_stmt_seq [.val (sV l), .val (iV ((l).length : Nat)), kF] [.inr 0] [.inl 2, .inr 0] follows S1 rfl (by kernel_rfl) ?_ ?_
  · refine ⟨⟨⟨trivial, ?_⟩, ?_⟩, ?_⟩
    · exact mS 0 0
    · exact b_lens wA (oO 0 10)
    · exact b_gtr_int_f wA (oO 1 11) (opnd_const _)
  intro B2 a2 W2 (S2 : Sta w 95 [(2, (.box 26 zR))] [(12, bF), (0, sV l)] _ _ _)
  refine wp_cond_false (S2.bool 0 12 rfl) ?_
  refine wp_skip ?_
  refine thenN ?_
  refine wp_stmt_seq [.val (iV 0)] [.inr 0] [.inl 0, .inr 1] follows S2 rfl (by kernel_rfl) ?_ ?_
  · refine ⟨trivial, ?_⟩
    · exact mC
  intro B3 a3 W3 (S3 : Sta w 95 [(2, (.box 26 zR))] [(5, iV 0), (0, sV l)] _ _ _)
  refine wp_seq_join (fun a W => ∃ Bq, Sta w 95 [(2, (.box 26 zR))] [(5, iV 0), (0, sV l)] Bq a W) ?_ ?_
  · rintro a4 W4 ⟨B4, S4⟩
    refine wp_stmt_seq [.val (sV l), .val (iV 0), .val ((TWO (IS (.int .i64 (e : Nat))) (IS (.bool true))) w.heap.size), .val ((TWO (IS (.int .i64 (e : Nat))) (IS (.bool true))) w.heap.size), .val (iV (e : Nat)), kT, .val (iV (e : Nat)), kT] [.inr 0] [.inl 6, .inl 7, .inr 0, .inr 1] follows S4 rfl (by kernel_rfl) ?_ ?_
    · repeat' refine And.intro ?_ ?_
      · trivial
      · exact mS 1 0
      · exact mS 0 5
      · exact ch2 wA (qO 0 23 rfl) (qO 1 24 rfl) (fresh_two (fresh_is _) (fresh_is _)) (fun w u0 u1 hx0 hx1 => by obtain rfl : u0 = _ := hx0.now; obtain rfl : u1 = _ := hx1.now; exact dgt_t w l 0 (e) hl (by omega) h h1)
      · exact mO 2 25
      · exact e20 wA (oO 3 22)
      · exact e21 wA (oO 3 22)
      · exact mO 4 26
      · exact mO 5 27
    intro B5 a5 W5 (S5 : Sta w 95 [(2, (.box 26 zR))] [(6, iV (e : Nat)), (7, bT), (5, iV 0), (0, sV l)] _ _ _)
    refine wp_seq ?_
    refine wp_stmt_seq [kT, kF, kF, .val (iV 0), kF, kF, .off, .off, .off, kF, kF] [.inr 0] [.inl 10, .inr 0, .inr 2, .inr 3] follows S5 rfl (by kernel_rfl) ?_ ?_
    · repeat' refine And.intro ?_ ?_
      · trivial
      · exact mS 1 7
      · exact b_not wA (oO 0 28)
      · exact mO 1 29
      · exact mW (wI 2 30) (oS 2 5)
      · exact b_eql_int_f (wI 2 30) (oO 3 31) (opnd_const _) (h := by decide)
      · exact mW (wI 2 30) (oO 4 32)
      · exact oF 5 33
      · exact oF 5 33
      · exact oF 5 33
      · exact pF (wI 2 30) (oO 5 33) (opnd_const _)
      · exact pF wA (oO 2 30) (oO 9 37)
    intro B6 a6 W6 (S6 : Sta w 95 [(2, (.box 26 zR))] [(38, bF), (6, iV (e : Nat)), (5, iV 0), (0, sV l)] _ _ _)
    refine wp_cond_false (S6.bool 0 38 rfl) ?_
    refine wp_skip ?_
    refine thenN ?_
    refine wp_stmt_seq [.val (iV 0), kF, .val (sV l), .val (iV 0), .val (iV (e : Nat)), .val (sV ((l.drop 0).take (e - 0))), .val ((NN (decV ((l.drop 0).take (e - 0)))) w.heap.size), .val (Zv (sg false (decV ((l.drop 0).take (e - 0)))) ((digs (decV ((l.drop 0).take (e - 0)))).length)), .new (.box 24 zI), .put (.inr 8) (.box 24 (Zv (sg false (decV ((l.drop 0).take (e - 0)))) ((digs (decV ((l.drop 0).take (e - 0)))).length)))] [.inr 0, .inl 8] [.inr 1, .inr 3] follows S6 rfl (by kernel_rfl) ?_ ?_
    · repeat' refine And.intro ?_ ?_
      · trivial
      · exact mS 2 5
      · exact b_eql_int_f wA (oO 0 41) (opnd_const _) (h := by decide)
      · exact mS 3 0
      · exact mS 2 5
      · exact mS 1 6
      · exact owe_three3 rfl wA rfl (oO 2 43) (oO 3 44) (oO 4 45) rfl (fun ρ w h1 h2 h3 => run_slb ρ _ _ _ _ w _ 0 e ⟨by omega, by omega⟩ h1 h2 h3)
      · exact ch1 wA (qO 5 46 rfl) (fresh_nn _) (fun w u hx => by obtain rfl : u = _ := hx.now; exact rnum_w w _ (by simp; omega) (dig_seg (ne_le h).2.2 (by omega)))
      · exact owe_bint2 rfl wA rfl (oO 1 42) ((oO 6 47).imp (nn_nv (Nat.le_refl _))) rfl
      · exact owe_new rfl wA rfl rfl (fun ρ w => alloc_int ρ _ w)
      · exact owe_put 8 rfl wA rfl (by kernel_rfl) rfl (oO 7 48) (stores_of strct_int shp_z0 shp_zv) rfl
    intro B7 a7 W7 (S7 : Sta w 95 [(2, (.box 26 zR)), (8, (.box 24 (Zv (sg false (decV ((l.drop 0).take (e - 0)))) ((digs (decV ((l.drop 0).take (e - 0)))).length))))] [(6, iV (e : Nat)), (0, sV l)] _ _ _)
    refine wp_seq ?_
    refine wp_stmt_seq [.val (iV (e : Nat)), .val (sV l), .val (iV ((l).length : Nat)), kF] [.inr 0, .inr 1] [.inl 3, .inr 0, .inr 1] follows S7 rfl (by kernel_rfl) ?_ ?_
    · refine ⟨⟨⟨⟨trivial, ?_⟩, ?_⟩, ?_⟩, ?_⟩
      · exact mS 0 6
      · exact mS 1 0
      · exact b_lens wA (oO 1 50)
      · exact b_eql_int_f wA (oO 0 49) (oO 2 51)
    intro B8 a8 W8 (S8 : Sta w 95 [(2, (.box 26 zR)), (8, (.box 24 (Zv (sg false (decV ((l.drop 0).take (e - 0)))) ((digs (decV ((l.drop 0).take (e - 0)))).length))))] [(52, bF), (6, iV (e : Nat)), (0, sV l)] _ _ _)
    refine wp_cond_false (S8.bool 0 52 rfl) ?_
    refine wp_skip ?_
    refine thenN ?_
    refine wp_seq ?_
    refine wp_stmt_seq [.val (sV l), .val (iV (e : Nat)), .val (Is (.int .u8 ((bt l e : Nat) : Int))), kF] [.inr 0, .inr 1] [.inl 3, .inr 1, .inr 2] follows S8 rfl (by kernel_rfl) ?_ ?_
    · refine ⟨⟨⟨⟨trivial, ?_⟩, ?_⟩, ?_⟩, ?_⟩
      · exact mS 2 0
      · exact mS 1 6
      · exact b_idx wA (oO 0 55) (oO 1 56)
      · exact b_neq_u8_f wA (oO 2 57) (opnd_const _)
    intro B9 a9 W9 (S9 : Sta w 95 [(2, (.box 26 zR)), (8, (.box 24 (Zv (sg false (decV ((l.drop 0).take (e - 0)))) ((digs (decV ((l.drop 0).take (e - 0)))).length))))] [(58, bF), (6, iV (e : Nat)), (0, sV l)] _ _ _)
    refine wp_cond_false (S9.bool 0 58 rfl) ?_
    refine wp_skip ?_
    refine thenN ?_
    refine wp_stmt_seq [.val (sV l), .val (iV (e : Nat)), .val (iV ((e + 1 : Nat) : Int)), .val ((TWO (IS (.int .i64 (e + 1 : Nat))) (IS (.bool false))) w.heap.size), .val ((TWO (IS (.int .i64 (e + 1 : Nat))) (IS (.bool false))) w.heap.size), .val (iV (e + 1 : Nat)), kF, .val (iV (e + 1 : Nat)), kF] [.inr 0, .inr 1] [.inl 7, .inl 8, .inr 1, .inr 2] follows S9 rfl (by kernel_rfl) ?_ ?_
    · repeat' refine And.intro ?_ ?_
      · trivial
      · exact mS 2 0
      · exact mS 1 6
      · exact b_add_int wA (oO 1 63) (opnd_const _)
      · exact ch2 wA (qO 0 62 rfl) (qO 2 64 rfl) (fresh_two (fresh_is _) (fresh_is _)) (fun w u0 u1 hx0 hx1 => by obtain rfl : u0 = _ := hx0.now; obtain rfl : u1 = _ := hx1.now; exact dgt_f w l (e + 1) (e + 1) hl (by omega) hd rfl)
      · exact mO 3 65
      · exact e20 wA (oO 4 61)
      · exact e21 wA (oO 4 61)
      · exact mO 5 66
      · exact mO 6 67
    intro B10 a10 W10 (S10 : Sta w 95 [(2, (.box 26 zR)), (8, (.box 24 (Zv (sg false (decV ((l.drop 0).take (e - 0)))) ((digs (decV ((l.drop 0).take (e - 0)))).length))))] [(9, iV (e + 1 : Nat)), (7, bF), (6, iV (e : Nat)), (0, sV l)] _ _ _)
    refine wp_seq ?_
    refine wp_stmt_seq [kF, kT, kT, .off, .off, .off, .off, .off, kT] [.inr 0, .inr 1] [.inl 8, .inr 0, .inr 2, .inr 3] follows S10 rfl (by kernel_rfl) ?_ ?_
    · repeat' refine And.intro ?_ ?_
      · trivial
      · exact mS 1 7
      · exact b_not wA (oO 0 68)
      · exact mO 1 69
      · exact oF 2 70
      · exact oF 2 70
      · exact oF 2 70
      · exact oF 2 70
      · exact oF 2 70
      · exact pT wA (oO 2 70) (opnd_const _)
    intro B11 a11 W11 (S11 : Sta w 95 [(2, (.box 26 zR)), (8, (.box 24 (Zv (sg false (decV ((l.drop 0).take (e - 0)))) ((digs (decV ((l.drop 0).take (e - 0)))).length))))] [(76, bT), (9, iV (e + 1 : Nat)), (6, iV (e : Nat)), (0, sV l)] _ _ _)
    refine wp_cond_true (S11.bool 0 76 rfl) ?_
    refine wp_stmt_seq [.val zR, .val (iV (e : Nat)), .val (iV ((e + 1 : Nat) : Int)), .put (.inl 2) (.box 26 zR), .val (iV ((e + 1 : Nat) : Int)), .val (iV 4)] [.inr 0] [.inl 4, .inl 5] follows S11 rfl (by kernel_rfl) ?_ ?_
    · refine ⟨⟨⟨⟨⟨⟨trivial, ?_⟩, ?_⟩, ?_⟩, ?_⟩, ?_⟩, ?_⟩
      · exact owe_build_rat rfl wA rfl rfl
      · exact mS 2 6
      · exact b_add_int wA (oO 1 78) (opnd_const _)
      · exact owe_set rfl wA rfl (k := 0) rfl (by kernel_rfl) (oO 0 77) (stores_of strct_rat shp_r0 shp_r0) rfl
      · exact mO 2 79
      · exact mC
    intro B12 a12 W12 (S12 : Sta w 95 [(2, (.box 26 zR))] [(3, iV ((e + 1 : Nat) : Int)), (4, iV 4)] _ _ _)
    refine wp_ret ?_
    refine thenR ?_
    exact end_three S12 rfl (res_cell S12 0 2 rfl strct_rat shp_r0) (res_tmp S12 0 3 rfl) (res_tmp S12 1 4 rfl)
  · by_cases hz : l.length = 0
    · skip
      refine wp_stmt_seq [.val (sV l), .val (iV ((l).length : Nat)), kF, kF, .off, .off, .off, kF] [.inr 0] [.inl 7, .inr 0, .inr 1] follows S3 rfl (by kernel_rfl) ?_ ?_
      · repeat' refine And.intro ?_ ?_
        · trivial
        · exact mS 1 0
        · exact b_lens wA (oO 0 14)
        · exact b_gtr_int_f wA (oO 1 15) (opnd_const _)
        · exact mO 2 16
        · exact oF 3 17
        · exact oF 3 17
        · exact oF 3 17
        · exact pF wA (oO 3 17) (opnd_const _)
      intro B4 a4 W4 (S4 : Sta w 95 [(2, (.box 26 zR))] [(21, bF), (5, iV 0), (0, sV l)] _ _ _)
      refine wp_cond_false (S4.bool 0 21 rfl) ?_
      refine wp_skip ?_
      refine thenN ?_
      exact ⟨B4, S4.sub [0] [1, 2]⟩
    · skip
      refine wp_stmt_seq [.val (sV l), .val (iV ((l).length : Nat)), kT, kT, .val (sV l), .val (Is (.int .u8 ((bt l 0 : Nat) : Int))), kF, kF] [.inr 0] [.inl 7, .inr 0, .inr 1] follows S3 rfl (by kernel_rfl) ?_ ?_
      · repeat' refine And.intro ?_ ?_
        · trivial
        · exact mS 1 0
        · exact b_lens wA (oO 0 14)
        · exact b_gtr_int_t wA (oO 1 15) (opnd_const _)
        · exact mO 2 16
        · exact mW (wI 3 17) (oS 1 0)
        · exact b_idx (k := 0) (wI 3 17) (oO 4 18) (opnd_const _)
        · exact b_eql_u8_f (wI 3 17) (oO 5 19) (opnd_const _)
        · exact pT wA (oO 3 17) (oO 6 20)
      intro B4 a4 W4 (S4 : Sta w 95 [(2, (.box 26 zR))] [(21, bF), (5, iV 0), (0, sV l)] _ _ _)
      refine wp_cond_false (S4.bool 0 21 rfl) ?_
      refine wp_skip ?_
      refine thenN ?_
      exact ⟨B4, S4.sub [0] [1, 2]⟩

set_option maxHeartbeats 2000000 in
theorem rf_dtail_p (w : World) (l : List UInt8) (hl : l.length ≤ 131072) (hN : isN l = false) (e : Nat) (h : NE l 0 true e) (h1 : 0 < e) (h2 : e < l.length) (h3 : bt l e = 47) (d : Nat) (hd : NE l (e + 1) true d) (h4 : e + 1 < d) (h5 : d < l.length) (h6 : bt l (e + 1) ≠ 48) :
    Calls Tryz.prog 9 #[str l] w (Gives (THREE (IS (.agg #[.bool false, .slice none 0 0, .bool false, .slice none 0 0])) (IS (.int .i64 (d : Nat))) (IS (.int .i64 4))) w) := by
  have hp1 := isN_plain hN
  have hqa : (digs (decV ((l.drop 0).take (e - 0)))).length ≤ 131072 := decV_dl (dig_seg (ne_le h).2.2 (by omega)) (by simp; omega)
  refine calls_sta (sl := [(0, (sV l))]) Tryz.func9 rfl Tryz.ntmps9 (by simp) (args_cons rfl (is_has _) args_nil) ?_
  intro a0 S0
  refine wp_stmt_seq [.new (.box 26 zR), .val (iV 0), .val (iV 0)] [.inl 0] [.inr 0] follows S0 rfl (by kernel_rfl) ?_ ?_
  · refine ⟨⟨⟨trivial, ?_⟩, ?_⟩, ?_⟩
    · exact owe_new rfl wA rfl rfl (fun ρ w => alloc_rat ρ _ w)
    · exact mC
    · exact mC
  intro B1 a1 W1 (S1 : Sta w 95 [(2, (.box 26 zR))] [(0, sV l)] _ _ _)
  refine wp_seq ?_
  refine wp_stmt_seq [.val (sV l), .val (iV ((l).length : Nat)), kF] [.inr 0] [.inl 2, .inr 0] follows S1 rfl (by kernel_rfl) ?_ ?_
  · refine ⟨⟨⟨trivial, ?_⟩, ?_⟩, ?_⟩
    · exact mS 0 0
    · exact b_lens wA (oO 0 10)
    · exact b_gtr_int_f wA (oO 1 11) (opnd_const _)
  intro B2 a2 W2 (S2 : Sta w 95 [(2, (.box 26 zR))] [(12, bF), (0, sV l)] _ _ _)
  refine wp_cond_false (S2.bool 0 12 rfl) ?_
  refine wp_skip ?_
  refine thenN ?_
  refine wp_stmt_seq [.val (iV 0)] [.inr 0] [.inl 0, .inr 1] follows S2 rfl (by kernel_rfl) ?_ ?_
  · refine ⟨trivial, ?_⟩
    · exact mC
  intro B3 a3 W3 (S3 : Sta w 95 [(2, (.box 26 zR))] [(5, iV 0), (0, sV l)] _ _ _)
  refine wp_seq_join (fun a W => ∃ Bq, Sta w 95 [(2, (.box 26 zR))] [(5, iV 0), (0, sV l)] Bq a W) ?_ ?_
  · rintro a4 W4 ⟨B4, S4⟩
    refine wp_stmt_seq [.val (sV l), .val (iV 0), .val ((TWO (IS (.int .i64 (e : Nat))) (IS (.bool true))) w.heap.size), .val ((TWO (IS (.int .i64 (e : Nat))) (IS (.bool true))) w.heap.size), .val (iV (e : Nat)), kT, .val (iV (e : Nat)), kT] [.inr 0] [.inl 6, .inl 7, .inr 0, .inr 1] follows S4 rfl (by kernel_rfl) ?_ ?_
    · repeat' refine And.intro ?_ ?_
      · trivial
      · exact mS 1 0
      · exact mS 0 5
      · exact ch2 wA (qO 0 23 rfl) (qO 1 24 rfl) (fresh_two (fresh_is _) (fresh_is _)) (fun w u0 u1 hx0 hx1 => by obtain rfl : u0 = _ := hx0.now; obtain rfl : u1 = _ := hx1.now; exact dgt_t w l 0 (e) hl (by omega) h h1)
      · exact mO 2 25
      · exact e20 wA (oO 3 22)
      · exact e21 wA (oO 3 22)
      · exact mO 4 26
      · exact mO 5 27
    intro B5 a5 W5 (S5 : Sta w 95 [(2, (.box 26 zR))] [(6, iV (e : Nat)), (7, bT), (5, iV 0), (0, sV l)] _ _ _)
    refine wp_seq ?_
    refine wp_stmt_seq [kT, kF, kF, .val (iV 0), kF, kF, .off, .off, .off, kF, kF] [.inr 0] [.inl 10, .inr 0, .inr 2, .inr 3] follows S5 rfl (by kernel_rfl) ?_ ?_
    · repeat' refine And.intro ?_ ?_
      · trivial
      · exact mS 1 7
      · exact b_not wA (oO 0 28)
      · exact mO 1 29
      · exact mW (wI 2 30) (oS 2 5)
      · exact b_eql_int_f (wI 2 30) (oO 3 31) (opnd_const _) (h := by decide)
      · exact mW (wI 2 30) (oO 4 32)
      · exact oF 5 33
      · exact oF 5 33
      · exact oF 5 33
      · exact pF (wI 2 30) (oO 5 33) (opnd_const _)
      · exact pF wA (oO 2 30) (oO 9 37)
    intro B6 a6 W6 (S6 : Sta w 95 [(2, (.box 26 zR))] [(38, bF), (6, iV (e : Nat)), (5, iV 0), (0, sV l)] _ _ _)
    refine wp_cond_false (S6.bool 0 38 rfl) ?_
    refine wp_skip ?_
    refine thenN ?_
    refine wp_stmt_seq [.val (iV 0), kF, .val (sV l), .val (iV 0), .val (iV (e : Nat)), .val (sV ((l.drop 0).take (e - 0))), .val ((NN (decV ((l.drop 0).take (e - 0)))) w.heap.size), .val (Zv (sg false (decV ((l.drop 0).take (e - 0)))) ((digs (decV ((l.drop 0).take (e - 0)))).length)), .new (.box 24 zI), .put (.inr 8) (.box 24 (Zv (sg false (decV ((l.drop 0).take (e - 0)))) ((digs (decV ((l.drop 0).take (e - 0)))).length)))] [.inr 0, .inl 8] [.inr 1, .inr 3] follows S6 rfl (by kernel_rfl) ?_ ?_
    · repeat' refine And.intro ?_ ?_
      · trivial
      · exact mS 2 5
      · exact b_eql_int_f wA (oO 0 41) (opnd_const _) (h := by decide)
      · exact mS 3 0
      · exact mS 2 5
      · exact mS 1 6
      · exact owe_three3 rfl wA rfl (oO 2 43) (oO 3 44) (oO 4 45) rfl (fun ρ w h1 h2 h3 => run_slb ρ _ _ _ _ w _ 0 e ⟨by omega, by omega⟩ h1 h2 h3)
      · exact ch1 wA (qO 5 46 rfl) (fresh_nn _) (fun w u hx => by obtain rfl : u = _ := hx.now; exact rnum_w w _ (by simp; omega) (dig_seg (ne_le h).2.2 (by omega)))
      · exact owe_bint2 rfl wA rfl (oO 1 42) ((oO 6 47).imp (nn_nv (Nat.le_refl _))) rfl
      · exact owe_new rfl wA rfl rfl (fun ρ w => alloc_int ρ _ w)
      · exact owe_put 8 rfl wA rfl (by kernel_rfl) rfl (oO 7 48) (stores_of strct_int shp_z0 shp_zv) rfl
    intro B7 a7 W7 (S7 : Sta w 95 [(2, (.box 26 zR)), (8, (.box 24 (Zv (sg false (decV ((l.drop 0).take (e - 0)))) ((digs (decV ((l.drop 0).take (e - 0)))).length))))] [(6, iV (e : Nat)), (0, sV l)] _ _ _)
    refine wp_seq ?_
    refine wp_stmt_seq [.val (iV (e : Nat)), .val (sV l), .val (iV ((l).length : Nat)), kF] [.inr 0, .inr 1] [.inl 3, .inr 0, .inr 1] follows S7 rfl (by kernel_rfl) ?_ ?_
    · refine ⟨⟨⟨⟨trivial, ?_⟩, ?_⟩, ?_⟩, ?_⟩
      · exact mS 0 6
      · exact mS 1 0
      · exact b_lens wA (oO 1 50)
      · exact b_eql_int_f wA (oO 0 49) (oO 2 51)
    intro B8 a8 W8 (S8 : Sta w 95 [(2, (.box 26 zR)), (8, (.box 24 (Zv (sg false (decV ((l.drop 0).take (e - 0)))) ((digs (decV ((l.drop 0).take (e - 0)))).length))))] [(52, bF), (6, iV (e : Nat)), (0, sV l)] _ _ _)
    refine wp_cond_false (S8.bool 0 52 rfl) ?_
    refine wp_skip ?_
    refine thenN ?_
    refine wp_seq ?_
    refine wp_stmt_seq [.val (sV l), .val (iV (e : Nat)), .val (Is (.int .u8 ((bt l e : Nat) : Int))), kF] [.inr 0, .inr 1] [.inl 3, .inr 1, .inr 2] follows S8 rfl (by kernel_rfl) ?_ ?_
    · refine ⟨⟨⟨⟨trivial, ?_⟩, ?_⟩, ?_⟩, ?_⟩
      · exact mS 2 0
      · exact mS 1 6
      · exact b_idx wA (oO 0 55) (oO 1 56)
      · exact b_neq_u8_f wA (oO 2 57) (opnd_const _)
    intro B9 a9 W9 (S9 : Sta w 95 [(2, (.box 26 zR)), (8, (.box 24 (Zv (sg false (decV ((l.drop 0).take (e - 0)))) ((digs (decV ((l.drop 0).take (e - 0)))).length))))] [(58, bF), (6, iV (e : Nat)), (0, sV l)] _ _ _)
    refine wp_cond_false (S9.bool 0 58 rfl) ?_
    refine wp_skip ?_
    refine thenN ?_
    refine wp_stmt_seq [.val (sV l), .val (iV (e : Nat)), .val (iV ((e + 1 : Nat) : Int)), .val ((TWO (IS (.int .i64 (d : Nat))) (IS (.bool true))) w.heap.size), .val ((TWO (IS (.int .i64 (d : Nat))) (IS (.bool true))) w.heap.size), .val (iV (d : Nat)), kT, .val (iV (d : Nat)), kT] [.inr 0, .inr 1] [.inl 7, .inl 8, .inr 1, .inr 2] follows S9 rfl (by kernel_rfl) ?_ ?_
    · repeat' refine And.intro ?_ ?_
      · trivial
      · exact mS 2 0
      · exact mS 1 6
      · exact b_add_int wA (oO 1 63) (opnd_const _)
      · exact ch2 wA (qO 0 62 rfl) (qO 2 64 rfl) (fresh_two (fresh_is _) (fresh_is _)) (fun w u0 u1 hx0 hx1 => by obtain rfl : u0 = _ := hx0.now; obtain rfl : u1 = _ := hx1.now; exact dgt_t w l (e + 1) d hl (by omega) hd h4)
      · exact mO 3 65
      · exact e20 wA (oO 4 61)
      · exact e21 wA (oO 4 61)
      · exact mO 5 66
      · exact mO 6 67
    intro B10 a10 W10 (S10 : Sta w 95 [(2, (.box 26 zR)), (8, (.box 24 (Zv (sg false (decV ((l.drop 0).take (e - 0)))) ((digs (decV ((l.drop 0).take (e - 0)))).length))))] [(9, iV (d : Nat)), (7, bT), (6, iV (e : Nat)), (0, sV l)] _ _ _)
    refine wp_seq ?_
    refine wp_stmt_seq [kT, kF, kF, .val (sV l), .val (iV (e : Nat)), .val (iV ((e + 1 : Nat) : Int)), .val (Is (.int .u8 ((bt l (e + 1) : Nat) : Int))), kF, kF] [.inr 0, .inr 1] [.inl 8, .inr 0, .inr 2, .inr 3] follows S10 rfl (by kernel_rfl) ?_ ?_
    · repeat' refine And.intro ?_ ?_
      · trivial
      · exact mS 1 7
      · exact b_not wA (oO 0 68)
      · exact mO 1 69
      · exact mW (wI 2 70) (oS 3 0)
      · exact mW (wI 2 70) (oS 2 6)
      · exact b_add_int (wI 2 70) (oO 4 72) (opnd_const _)
      · exact b_idx (wI 2 70) (oO 3 71) (oO 5 73)
      · exact b_eql_u8_f (wI 2 70) (oO 6 74) (opnd_const _)
      · exact pF wA (oO 2 70) (oO 7 75)
    intro B11 a11 W11 (S11 : Sta w 95 [(2, (.box 26 zR)), (8, (.box 24 (Zv (sg false (decV ((l.drop 0).take (e - 0)))) ((digs (decV ((l.drop 0).take (e - 0)))).length))))] [(76, bF), (9, iV (d : Nat)), (6, iV (e : Nat)), (0, sV l)] _ _ _)
    refine wp_cond_false (S11.bool 0 76 rfl) ?_
    refine wp_skip ?_
    refine thenN ?_
    refine wp_seq ?_
    refine wp_stmt_seq [.val (iV (d : Nat)), .val (sV l), .val (iV ((l).length : Nat)), kT] [.inr 0, .inr 1] [.inl 3, .inr 1, .inr 2, .inr 3] follows S11 rfl (by kernel_rfl) ?_ ?_
    · refine ⟨⟨⟨⟨trivial, ?_⟩, ?_⟩, ?_⟩, ?_⟩
      · exact mS 1 9
      · exact mS 3 0
      · exact b_lens wA (oO 1 81)
      · exact b_lss_int_t wA (oO 0 80) (oO 2 82)
    intro B12 a12 W12 (S12 : Sta w 95 [(2, (.box 26 zR)), (8, (.box 24 (Zv (sg false (decV ((l.drop 0).take (e - 0)))) ((digs (decV ((l.drop 0).take (e - 0)))).length))))] [(83, bT), (9, iV (d : Nat)), (6, iV (e : Nat)), (0, sV l)] _ _ _)
    refine wp_cond_true (S12.bool 0 83 rfl) ?_
    refine wp_stmt_seq [.val zR, .val (iV (d : Nat)), .put (.inl 2) (.box 26 zR), .val (iV (d : Nat)), .val (iV 4)] [.inr 0] [.inl 3, .inl 4] follows S12 rfl (by kernel_rfl) ?_ ?_
    · refine ⟨⟨⟨⟨⟨trivial, ?_⟩, ?_⟩, ?_⟩, ?_⟩, ?_⟩
      · exact owe_build_rat rfl wA rfl rfl
      · exact mS 1 9
      · exact owe_set rfl wA rfl (k := 0) rfl (by kernel_rfl) (oO 0 84) (stores_of strct_rat shp_r0 shp_r0) rfl
      · exact mO 1 85
      · exact mC
    intro B13 a13 W13 (S13 : Sta w 95 [(2, (.box 26 zR))] [(3, iV (d : Nat)), (4, iV 4)] _ _ _)
    refine wp_ret ?_
    refine thenR ?_
    exact end_three S13 rfl (res_cell S13 0 2 rfl strct_rat shp_r0) (res_tmp S13 0 3 rfl) (res_tmp S13 1 4 rfl)
  · by_cases hz : l.length = 0
    · skip
      refine wp_stmt_seq [.val (sV l), .val (iV ((l).length : Nat)), kF, kF, .off, .off, .off, kF] [.inr 0] [.inl 7, .inr 0, .inr 1] follows S3 rfl (by kernel_rfl) ?_ ?_
      · repeat' refine And.intro ?_ ?_
        · trivial
        · exact mS 1 0
        · exact b_lens wA (oO 0 14)
        · exact b_gtr_int_f wA (oO 1 15) (opnd_const _)
        · exact mO 2 16
        · exact oF 3 17
        · exact oF 3 17
        · exact oF 3 17
        · exact pF wA (oO 3 17) (opnd_const _)
      intro B4 a4 W4 (S4 : Sta w 95 [(2, (.box 26 zR))] [(21, bF), (5, iV 0), (0, sV l)] _ _ _)
      refine wp_cond_false (S4.bool 0 21 rfl) ?_
      refine wp_skip ?_
      refine thenN ?_
      exact ⟨B4, S4.sub [0] [1, 2]⟩
    · skip
      refine wp_stmt_seq [.val (sV l), .val (iV ((l).length : Nat)), kT, kT, .val (sV l), .val (Is (.int .u8 ((bt l 0 : Nat) : Int))), kF, kF] [.inr 0] [.inl 7, .inr 0, .inr 1] follows S3 rfl (by kernel_rfl) ?_ ?_
      · repeat' refine And.intro ?_ ?_
        · trivial
        · exact mS 1 0
        · exact b_lens wA (oO 0 14)
        · exact b_gtr_int_t wA (oO 1 15) (opnd_const _)
        · exact mO 2 16
        · exact mW (wI 3 17) (oS 1 0)
        · exact b_idx (k := 0) (wI 3 17) (oO 4 18) (opnd_const _)
        · exact b_eql_u8_f (wI 3 17) (oO 5 19) (opnd_const _)
        · exact pT wA (oO 3 17) (oO 6 20)
      intro B4 a4 W4 (S4 : Sta w 95 [(2, (.box 26 zR))] [(21, bF), (5, iV 0), (0, sV l)] _ _ _)
      refine wp_cond_false (S4.bool 0 21 rfl) ?_
      refine wp_skip ?_
      refine thenN ?_
      exact ⟨B4, S4.sub [0] [1, 2]⟩

set_option maxHeartbeats 2000000 in
theorem rf_frac_p (w : World) (l : List UInt8) (hl : l.length ≤ 131072) (hN : isN l = false) (e : Nat) (h : NE l 0 true e) (h1 : 0 < e) (h2 : e < l.length) (h3 : bt l e = 47) (hd : NE l (e + 1) true l.length) (h4 : e + 1 < l.length) (h6 : bt l (e + 1) ≠ 48) (hD : decV ((l.drop (e + 1)).take (l.length - (e + 1))) ≠ 0) :
    Calls Tryz.prog 9 #[str l] w (Gives (THREE (RN (nR (sg false (decV ((l.drop 0).take (e - 0)))) (decV ((l.drop (e + 1)).take (l.length - (e + 1))))) (dR (sg false (decV ((l.drop 0).take (e - 0)))) (decV ((l.drop (e + 1)).take (l.length - (e + 1)))))) (IS (.int .i64 0)) (IS (.int .i64 0))) w) := by
  have hp1 := isN_plain hN
  have hqa : (digs (decV ((l.drop 0).take (e - 0)))).length ≤ 131072 := decV_dl (dig_seg (ne_le h).2.2 (by omega)) (by simp; omega)
  have hqd : (digs (decV ((l.drop (e + 1)).take (l.length - (e + 1))))).length ≤ 131072 := decV_dl (dig_seg (ne_le hd).2.2 (by omega)) (by simp; omega)
  refine calls_sta (sl := [(0, (sV l))]) Tryz.func9 rfl Tryz.ntmps9 (by simp) (args_cons rfl (is_has _) args_nil) ?_
  intro a0 S0
  refine wp_stmt_seq [.new (.box 26 zR), .val (iV 0), .val (iV 0)] [.inl 0] [.inr 0] follows S0 rfl (by kernel_rfl) ?_ ?_
  · refine ⟨⟨⟨trivial, ?_⟩, ?_⟩, ?_⟩
    · exact owe_new rfl wA rfl rfl (fun ρ w => alloc_rat ρ _ w)
    · exact mC
    · exact mC
  intro B1 a1 W1 (S1 : Sta w 95 [(2, (.box 26 zR))] [(0, sV l)] _ _ _)
  refine wp_seq ?_
  refine wp_stmt_seq [.val (sV l), .val (iV ((l).length : Nat)), kF] [.inr 0] [.inl 2, .inr 0] follows S1 rfl (by kernel_rfl) ?_ ?_
  · refine ⟨⟨⟨trivial, ?_⟩, ?_⟩, ?_⟩
    · exact mS 0 0
    · exact b_lens wA (oO 0 10)
    · exact b_gtr_int_f wA (oO 1 11) (opnd_const _)
  intro B2 a2 W2 (S2 : Sta w 95 [(2, (.box 26 zR))] [(12, bF), (0, sV l)] _ _ _)
  refine wp_cond_false (S2.bool 0 12 rfl) ?_
  refine wp_skip ?_
  refine thenN ?_
  refine wp_stmt_seq [.val (iV 0)] [.inr 0] [.inl 0, .inr 1] follows S2 rfl (by kernel_rfl) ?_ ?_
  · refine ⟨trivial, ?_⟩
    · exact mC
  intro B3 a3 W3 (S3 : Sta w 95 [(2, (.box 26 zR))] [(5, iV 0), (0, sV l)] _ _ _)
  refine wp_seq_join (fun a W => ∃ Bq, Sta w 95 [(2, (.box 26 zR))] [(5, iV 0), (0, sV l)] Bq a W) ?_ ?_
  · rintro a4 W4 ⟨B4, S4⟩
    refine wp_stmt_seq [.val (sV l), .val (iV 0), .val ((TWO (IS (.int .i64 (e : Nat))) (IS (.bool true))) w.heap.size), .val ((TWO (IS (.int .i64 (e : Nat))) (IS (.bool true))) w.heap.size), .val (iV (e : Nat)), kT, .val (iV (e : Nat)), kT] [.inr 0] [.inl 6, .inl 7, .inr 0, .inr 1] follows S4 rfl (by kernel_rfl) ?_ ?_
    · repeat' refine And.intro ?_ ?_
      · trivial
      · exact mS 1 0
      · exact mS 0 5
      · exact ch2 wA (qO 0 23 rfl) (qO 1 24 rfl) (fresh_two (fresh_is _) (fresh_is _)) (fun w u0 u1 hx0 hx1 => by obtain rfl : u0 = _ := hx0.now; obtain rfl : u1 = _ := hx1.now; exact dgt_t w l 0 (e) hl (by omega) h h1)
      · exact mO 2 25
      · exact e20 wA (oO 3 22)
      · exact e21 wA (oO 3 22)
      · exact mO 4 26
      · exact mO 5 27
    intro B5 a5 W5 (S5 : Sta w 95 [(2, (.box 26 zR))] [(6, iV (e : Nat)), (7, bT), (5, iV 0), (0, sV l)] _ _ _)
    refine wp_seq ?_
    refine wp_stmt_seq [kT, kF, kF, .val (iV 0), kF, kF, .off, .off, .off, kF, kF] [.inr 0] [.inl 10, .inr 0, .inr 2, .inr 3] follows S5 rfl (by kernel_rfl) ?_ ?_
    · repeat' refine And.intro ?_ ?_
      · trivial
      · exact mS 1 7
      · exact b_not wA (oO 0 28)
      · exact mO 1 29
      · exact mW (wI 2 30) (oS 2 5)
      · exact b_eql_int_f (wI 2 30) (oO 3 31) (opnd_const _) (h := by decide)
      · exact mW (wI 2 30) (oO 4 32)
      · exact oF 5 33
      · exact oF 5 33
      · exact oF 5 33
      · exact pF (wI 2 30) (oO 5 33) (opnd_const _)
      · exact pF wA (oO 2 30) (oO 9 37)
    intro B6 a6 W6 (S6 : Sta w 95 [(2, (.box 26 zR))] [(38, bF), (6, iV (e : Nat)), (5, iV 0), (0, sV l)] _ _ _)
    refine wp_cond_false (S6.bool 0 38 rfl) ?_
    refine wp_skip ?_
    refine thenN ?_
    refine wp_stmt_seq [.val (iV 0), kF, .val (sV l), .val (iV 0), .val (iV (e : Nat)), .val (sV ((l.drop 0).take (e - 0))), .val ((NN (decV ((l.drop 0).take (e - 0)))) w.heap.size), .val (Zv (sg false (decV ((l.drop 0).take (e - 0)))) ((digs (decV ((l.drop 0).take (e - 0)))).length)), .new (.box 24 zI), .put (.inr 8) (.box 24 (Zv (sg false (decV ((l.drop 0).take (e - 0)))) ((digs (decV ((l.drop 0).take (e - 0)))).length)))] [.inr 0, .inl 8] [.inr 1, .inr 3] follows S6 rfl (by kernel_rfl) ?_ ?_
    · repeat' refine And.intro ?_ ?_
      · trivial
      · exact mS 2 5
      · exact b_eql_int_f wA (oO 0 41) (opnd_const _) (h := by decide)
      · exact mS 3 0
      · exact mS 2 5
      · exact mS 1 6
      · exact owe_three3 rfl wA rfl (oO 2 43) (oO 3 44) (oO 4 45) rfl (fun ρ w h1 h2 h3 => run_slb ρ _ _ _ _ w _ 0 e ⟨by omega, by omega⟩ h1 h2 h3)
      · exact ch1 wA (qO 5 46 rfl) (fresh_nn _) (fun w u hx => by obtain rfl : u = _ := hx.now; exact rnum_w w _ (by simp; omega) (dig_seg (ne_le h).2.2 (by omega)))
      · exact owe_bint2 rfl wA rfl (oO 1 42) ((oO 6 47).imp (nn_nv (Nat.le_refl _))) rfl
      · exact owe_new rfl wA rfl rfl (fun ρ w => alloc_int ρ _ w)
      · exact owe_put 8 rfl wA rfl (by kernel_rfl) rfl (oO 7 48) (stores_of strct_int shp_z0 shp_zv) rfl
    intro B7 a7 W7 (S7 : Sta w 95 [(2, (.box 26 zR)), (8, (.box 24 (Zv (sg false (decV ((l.drop 0).take (e - 0)))) ((digs (decV ((l.drop 0).take (e - 0)))).length))))] [(6, iV (e : Nat)), (0, sV l)] _ _ _)
    refine wp_seq ?_
    refine wp_stmt_seq [.val (iV (e : Nat)), .val (sV l), .val (iV ((l).length : Nat)), kF] [.inr 0, .inr 1] [.inl 3, .inr 0, .inr 1] follows S7 rfl (by kernel_rfl) ?_ ?_
    · refine ⟨⟨⟨⟨trivial, ?_⟩, ?_⟩, ?_⟩, ?_⟩
      · exact mS 0 6
      · exact mS 1 0
      · exact b_lens wA (oO 1 50)
      · exact b_eql_int_f wA (oO 0 49) (oO 2 51)
    intro B8 a8 W8 (S8 : Sta w 95 [(2, (.box 26 zR)), (8, (.box 24 (Zv (sg false (decV ((l.drop 0).take (e - 0)))) ((digs (decV ((l.drop 0).take (e - 0)))).length))))] [(52, bF), (6, iV (e : Nat)), (0, sV l)] _ _ _)
    refine wp_cond_false (S8.bool 0 52 rfl) ?_
    refine wp_skip ?_
    refine thenN ?_
    refine wp_seq ?_
    refine wp_stmt_seq [.val (sV l), .val (iV (e : Nat)), .val (Is (.int .u8 ((bt l e : Nat) : Int))), kF] [.inr 0, .inr 1] [.inl 3, .inr 1, .inr 2] follows S8 rfl (by kernel_rfl) ?_ ?_
    · refine ⟨⟨⟨⟨trivial, ?_⟩, ?_⟩, ?_⟩, ?_⟩
      · exact mS 2 0
      · exact mS 1 6
      · exact b_idx wA (oO 0 55) (oO 1 56)
      · exact b_neq_u8_f wA (oO 2 57) (opnd_const _)
    intro B9 a9 W9 (S9 : Sta w 95 [(2, (.box 26 zR)), (8, (.box 24 (Zv (sg false (decV ((l.drop 0).take (e - 0)))) ((digs (decV ((l.drop 0).take (e - 0)))).length))))] [(58, bF), (6, iV (e : Nat)), (0, sV l)] _ _ _)
    refine wp_cond_false (S9.bool 0 58 rfl) ?_
    refine wp_skip ?_
    refine thenN ?_
    refine wp_stmt_seq [.val (sV l), .val (iV (e : Nat)), .val (iV ((e + 1 : Nat) : Int)), .val ((TWO (IS (.int .i64 (l.length : Nat))) (IS (.bool true))) w.heap.size), .val ((TWO (IS (.int .i64 (l.length : Nat))) (IS (.bool true))) w.heap.size), .val (iV (l.length : Nat)), kT, .val (iV (l.length : Nat)), kT] [.inr 0, .inr 1] [.inl 7, .inl 8, .inr 1, .inr 2] follows S9 rfl (by kernel_rfl) ?_ ?_
    · repeat' refine And.intro ?_ ?_
      · trivial
      · exact mS 2 0
      · exact mS 1 6
      · exact b_add_int wA (oO 1 63) (opnd_const _)
      · exact ch2 wA (qO 0 62 rfl) (qO 2 64 rfl) (fresh_two (fresh_is _) (fresh_is _)) (fun w u0 u1 hx0 hx1 => by obtain rfl : u0 = _ := hx0.now; obtain rfl : u1 = _ := hx1.now; exact dgt_t w l (e + 1) (l.length) hl (by omega) hd h4)
      · exact mO 3 65
      · exact e20 wA (oO 4 61)
      · exact e21 wA (oO 4 61)
      · exact mO 5 66
      · exact mO 6 67
    intro B10 a10 W10 (S10 : Sta w 95 [(2, (.box 26 zR)), (8, (.box 24 (Zv (sg false (decV ((l.drop 0).take (e - 0)))) ((digs (decV ((l.drop 0).take (e - 0)))).length))))] [(9, iV (l.length : Nat)), (7, bT), (6, iV (e : Nat)), (0, sV l)] _ _ _)
    refine wp_seq ?_
    refine wp_stmt_seq [kT, kF, kF, .val (sV l), .val (iV (e : Nat)), .val (iV ((e + 1 : Nat) : Int)), .val (Is (.int .u8 ((bt l (e + 1) : Nat) : Int))), kF, kF] [.inr 0, .inr 1] [.inl 8, .inr 0, .inr 2, .inr 3] follows S10 rfl (by kernel_rfl) ?_ ?_
    · repeat' refine And.intro ?_ ?_
      · trivial
      · exact mS 1 7
      · exact b_not wA (oO 0 68)
      · exact mO 1 69
      · exact mW (wI 2 70) (oS 3 0)
      · exact mW (wI 2 70) (oS 2 6)
      · exact b_add_int (wI 2 70) (oO 4 72) (opnd_const _)
      · exact b_idx (wI 2 70) (oO 3 71) (oO 5 73)
      · exact b_eql_u8_f (wI 2 70) (oO 6 74) (opnd_const _)
      · exact pF wA (oO 2 70) (oO 7 75)
    intro B11 a11 W11 (S11 : Sta w 95 [(2, (.box 26 zR)), (8, (.box 24 (Zv (sg false (decV ((l.drop 0).take (e - 0)))) ((digs (decV ((l.drop 0).take (e - 0)))).length))))] [(76, bF), (9, iV (l.length : Nat)), (6, iV (e : Nat)), (0, sV l)] _ _ _)
    refine wp_cond_false (S11.bool 0 76 rfl) ?_
    refine wp_skip ?_
    refine thenN ?_
    refine wp_seq ?_
    refine wp_stmt_seq [.val (iV (l.length : Nat)), .val (sV l), .val (iV ((l).length : Nat)), kF] [.inr 0, .inr 1] [.inl 3, .inr 1, .inr 2, .inr 3] follows S11 rfl (by kernel_rfl) ?_ ?_
    · refine ⟨⟨⟨⟨trivial, ?_⟩, ?_⟩, ?_⟩, ?_⟩
      · exact mS 1 9
      · exact mS 3 0
      · exact b_lens wA (oO 1 81)
      · exact b_lss_int_f wA (oO 0 80) (oO 2 82)
    intro B12 a12 W12 (S12 : Sta w 95 [(2, (.box 26 zR)), (8, (.box 24 (Zv (sg false (decV ((l.drop 0).take (e - 0)))) ((digs (decV ((l.drop 0).take (e - 0)))).length))))] [(83, bF), (9, iV (l.length : Nat)), (6, iV (e : Nat)), (0, sV l)] _ _ _)
    refine wp_cond_false (S12.bool 0 83 rfl) ?_
    refine wp_skip ?_
    refine thenN ?_
    refine wp_stmt_seq [.val (Zv (sg false (decV ((l.drop 0).take (e - 0)))) ((digs (decV ((l.drop 0).take (e - 0)))).length)), .val (sV l), .val (iV (e : Nat)), .val (iV ((e + 1 : Nat) : Int)), .val (iV (l.length : Nat)), .val (Is (str ((l.drop (e + 1)).take ((l.length) - (e + 1))))), .val ((NN (decV ((l.drop (e + 1)).take ((l.length) - (e + 1))))) w.heap.size), .val (Zv (sg false (decV ((l.drop (e + 1)).take ((l.length) - (e + 1))))) ((digs (decV ((l.drop (e + 1)).take ((l.length) - (e + 1))))).length)), .val ((RN (nR (sg false (decV ((l.drop 0).take (e - 0)))) (decV ((l.drop (e + 1)).take (l.length - (e + 1))))) (dR (sg false (decV ((l.drop 0).take (e - 0)))) (decV ((l.drop (e + 1)).take (l.length - (e + 1)))))) w.heap.size), .put (.inl 2) (.box 26 ((RN (nR (sg false (decV ((l.drop 0).take (e - 0)))) (decV ((l.drop (e + 1)).take (l.length - (e + 1))))) (dR (sg false (decV ((l.drop 0).take (e - 0)))) (decV ((l.drop (e + 1)).take (l.length - (e + 1)))))) w.heap.size)), .val (iV 0), .val (iV 0)] [.inr 0] [.inl 10, .inl 11] follows S12 rfl (by kernel_rfl) ?_ ?_
    · repeat' refine And.intro ?_ ?_
      · trivial
      · exact lod 1 wA (loads_of strct_int shp_zv)
      · exact mS 3 0
      · exact mS 2 6
      · exact b_add_int wA (oO 2 88) (opnd_const _)
      · exact mS 1 9
      · exact owe_three3 rfl wA rfl (oO 1 87) (oO 3 89) (oO 4 90) rfl (fun ρ w h1 h2 h3 => run_slb ρ _ _ _ _ w _ (e + 1) (l.length) ⟨by omega, by omega⟩ h1 h2 h3)
      · exact ch1 wA (qO 5 91 rfl) (fresh_nn _) (fun w u hx => by obtain rfl : u = _ := hx.now; exact rnum_w w _ (by simp; omega) (dig_seg (ne_le hd).2.2 (by omega)))
      · exact owe_bint1 rfl wA rfl ((oO 6 92).imp (nn_nv (Nat.le_refl _))) rfl
      · exact cc2 wA (qO 0 86 rfl) (qO 7 93 rfl) (fresh_rn _ _) (fun w u v h1 h2 => g_rmake (A := sg false (decV ((l.drop 0).take (e - 0)))) (D := decV ((l.drop (e + 1)).take (l.length - (e + 1)))) hD (by omega) (by omega) w u v h1 h2)
      · exact owe_set rfl wA rfl (k := 0) rfl (by kernel_rfl) (oO 8 94) (stores_of strct_rat shp_r0 (shp_pr shp_zn shp_zn)) rfl
      · exact mC
      · exact mC
    intro B13 a13 W13 (S13 : Sta w 95 [(2, (.box 26 ((RN (nR (sg false (decV ((l.drop 0).take (e - 0)))) (decV ((l.drop (e + 1)).take (l.length - (e + 1))))) (dR (sg false (decV ((l.drop 0).take (e - 0)))) (decV ((l.drop (e + 1)).take (l.length - (e + 1)))))) w.heap.size)))] [(3, iV 0), (4, iV 0)] _ _ _)
    refine wp_ret ?_
    exact end_three S13 rfl (res_cell S13 0 2 rfl strct_rat (shp_pr shp_zn shp_zn)) (res_tmp S13 0 3 rfl) (res_tmp S13 1 4 rfl)
  · by_cases hz : l.length = 0
    · skip
      refine wp_stmt_seq [.val (sV l), .val (iV ((l).length : Nat)), kF, kF, .off, .off, .off, kF] [.inr 0] [.inl 7, .inr 0, .inr 1] follows S3 rfl (by kernel_rfl) ?_ ?_
      · repeat' refine And.intro ?_ ?_
        · trivial
        · exact mS 1 0
        · exact b_lens wA (oO 0 14)
        · exact b_gtr_int_f wA (oO 1 15) (opnd_const _)
        · exact mO 2 16
        · exact oF 3 17
        · exact oF 3 17
        · exact oF 3 17
        · exact pF wA (oO 3 17) (opnd_const _)
      intro B4 a4 W4 (S4 : Sta w 95 [(2, (.box 26 zR))] [(21, bF), (5, iV 0), (0, sV l)] _ _ _)
      refine wp_cond_false (S4.bool 0 21 rfl) ?_
      refine wp_skip ?_
      refine thenN ?_
      exact ⟨B4, S4.sub [0] [1, 2]⟩
    · skip
      refine wp_stmt_seq [.val (sV l), .val (iV ((l).length : Nat)), kT, kT, .val (sV l), .val (Is (.int .u8 ((bt l 0 : Nat) : Int))), kF, kF] [.inr 0] [.inl 7, .inr 0, .inr 1] follows S3 rfl (by kernel_rfl) ?_ ?_
      · repeat' refine And.intro ?_ ?_
        · trivial
        · exact mS 1 0
        · exact b_lens wA (oO 0 14)
        · exact b_gtr_int_t wA (oO 1 15) (opnd_const _)
        · exact mO 2 16
        · exact mW (wI 3 17) (oS 1 0)
        · exact b_idx (k := 0) (wI 3 17) (oO 4 18) (opnd_const _)
        · exact b_eql_u8_f (wI 3 17) (oO 5 19) (opnd_const _)
        · exact pT wA (oO 3 17) (oO 6 20)
      intro B4 a4 W4 (S4 : Sta w 95 [(2, (.box 26 zR))] [(21, bF), (5, iV 0), (0, sV l)] _ _ _)
      refine wp_cond_false (S4.bool 0 21 rfl) ?_
      refine wp_skip ?_
      refine thenN ?_
      exact ⟨B4, S4.sub [0] [1, 2]⟩


theorem ne_tf {l : List UInt8} {fa e : Nat} (h : NE l fa false e) (hlt : fa < e) : NE l fa true e ∧ bt l fa ≠ 48 := by
  rcases h with ⟨_, _, h3⟩ | ⟨h1, h2⟩
  · simp at h3; omega
  · refine ⟨Or.inr ⟨h1, h2⟩, fun h48 => h1 ⟨?_, h48⟩⟩
    have := h2.2.1
    omega
theorem ne_same {l : List UInt8} {fa : Nat} (h : NE l fa false fa) : (fa < l.length ∧ bt l fa = 48) ∨ NE l fa true fa := by
  rcases h with ⟨h1, h2, _⟩ | ⟨h1, h2⟩
  · exact Or.inl ⟨h1, h2⟩
  · exact Or.inr (Or.inr ⟨h1, h2⟩)
theorem drop_all {l : List UInt8} (f : Nat) : (l.drop f).take (l.length - f) = l.drop f := List.take_of_length_le (by simp)
theorem h_rfread {l : List UInt8} {N : Int} {D A : Nat} {E : Int} (h : RqIs l N D A E) : ∀ w u, Is (str l) u w → Calls Tryz.prog 9 #[u] w (Gives (THREE (RQ N D) (IS (.int .i64 (A : Nat))) (IS (.int .i64 E))) w) := by
  rintro w u rfl
  cases h with
  | long h => rw [rq0]; exact rf_long w l h
  | no f hl hf h =>
    rw [rq0]
    rcases hf with ⟨hN, rfl⟩ | ⟨hN, rfl⟩
    · rcases ne_same h with ⟨h1, h2⟩ | h2
      · exact rf_no0 w l hl hN h1 h2
      · exact rf_no_n w l hl hN h2
    · exact rf_no_p w l hl hN h
  | whole f hl hf h h1 =>
    rw [rq1 (by decide)]
    rcases hf with ⟨hN, rfl⟩ | ⟨hN, rfl⟩
    · obtain ⟨h2, h3⟩ := ne_tf h h1
      have := rf_whole_n w l hl hN h2 h1 h3
      rw [drop_all] at this
      rw [hN]
      exact this
    · have := rf_whole_p w l hl hN h h1
      rw [drop_all] at this
      rw [hN]
      exact this
  | tail f _ hl hf h h1 h2 h3 =>
    rw [rq0]
    rcases hf with ⟨hN, rfl⟩ | ⟨hN, rfl⟩
    · obtain ⟨q1, q2⟩ := ne_tf h h1
      exact rf_tail_n w l hl hN _ q1 h1 h2 q2 h3
    · exact rf_tail_p w l hl hN _ h h1 h2 h3
  | noden f e hl hf h h1 h2 h3 hd =>
    rw [rq0]
    rcases hf with ⟨hN, rfl⟩ | ⟨hN, rfl⟩
    · obtain ⟨q1, q2⟩ := ne_tf h h1
      rcases ne_same hd with ⟨g1, g2⟩ | g2
      · exact rf_noden0_n w l hl hN e q1 h1 h2 q2 h3 g1 g2
      · exact rf_noden_n w l hl hN e q1 h1 h2 q2 h3 g2
    · rcases ne_same hd with ⟨g1, g2⟩ | g2
      · exact rf_noden0_p w l hl hN e h h1 h2 h3 g1 g2
      · exact rf_noden_p w l hl hN e h h1 h2 h3 g2
  | dtail f e _ hl hf h h1 h2 h3 hd h4 h5 =>
    rw [rq0]
    obtain ⟨g1, g2⟩ := ne_tf hd h4
    rcases hf with ⟨hN, rfl⟩ | ⟨hN, rfl⟩
    · obtain ⟨q1, q2⟩ := ne_tf h h1
      exact rf_dtail_n w l hl hN e q1 h1 h2 q2 h3 _ g1 h4 h5 g2
    · exact rf_dtail_p w l hl hN e h h1 h2 h3 _ g1 h4 h5 g2
  | frac f e hl hf h h1 h2 h3 hd h4 =>
    have hD := den_pos hd h4 rfl
    obtain ⟨g1, g2⟩ := ne_tf hd h4
    rw [rq1 (dR_ne hD)]
    rcases hf with ⟨hN, rfl⟩ | ⟨hN, rfl⟩
    · obtain ⟨q1, q2⟩ := ne_tf h h1
      have := rf_frac_n w l hl hN e q1 h1 h2 q2 h3 g1 h4 g2 (by rw [drop_all]; exact hD)
      rw [drop_all] at this
      rw [hN]
      exact this
    · have := rf_frac_p w l hl hN e h h1 h2 h3 g1 h4 g2 (by rw [drop_all]; exact hD)
      rw [drop_all] at this
      rw [hN]
      exact this
end Go.Proofs.YtaplbadcpbollaaGreatDoor
