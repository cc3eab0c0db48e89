/-
  gso.takenOut.
-/
import Derived.Test.YtkiholgfamfgeaaGBase
namespace Go.Proofs.Ytkiholgfamfgeaa
open Go Go.RowKit Nt
set_option linter.unusedSimpArgs false
set_option linter.unusedVariables false
set_option maxRecDepth 20000


set_option maxHeartbeats 400000 in
theorem taken_0 (w : World) (u0 u2 u3 : Value) (s : Bool) (p : Option Addr) (nn c K : Nat) (L : List Int) (h2 : Hs w (Vv 0 L K) u2) :
    Calls Try.prog 86 #[u0, .agg #[.bool s, .slice p nn c], u2, u3] w (Gives (IS (.agg #[.bool s, .slice p nn c])) w) := by
  refine calls_sta (sl := [(0, (fun _ _ => True)), (1, (Is (.agg #[.bool s, .slice p nn c]))), (2, (Vv 0 L K)), (3, (fun _ _ => True))]) Try.func86 rfl Try.ntmps86 (by simp) (args_cons rfl (fun _ _ => trivial) (args_cons rfl (is_has _) (args_cons rfl (h2) (args_cons rfl (fun _ _ => trivial) args_nil)))) ?_
  intro a0 S0
  refine wp_stmt_seq [.new (.box 28 (Is (.agg #[.bool s, .slice p nn c]))), .new (.box 28 zI)] [.inl 0, .inl 1] [.inr 0, .inr 2, .inr 3] follows S0 rfl (by kernel_rfl) ?_ ?_
  · refine ⟨⟨trivial, ?_⟩, ?_⟩
    · exact owe_box rfl wA rfl (oS 1 1) rfl (fun ρ w h => box_int shp_isz ρ _ _ w h)
    · exact owe_new rfl wA rfl rfl (fun ρ w => alloc_int ρ _ w)
  intro B1 a1 W1 (S1 : Sta w 43 [(5, (.box 28 (Is (.agg #[.bool s, .slice p nn c])))), (8, (.box 28 zI))] [(0, (fun _ _ => True)), (2, Vv 0 L K), (3, (fun _ _ => True))] _ _ _)
  refine wp_seq ?_
  refine wp_stmt_seq [.val (Vv 0 L K), .val (iV (0 : Nat)), .val (iV 0)] [.inr 0, .inr 1] [.inl 1, .inl 2, .inr 0, .inr 1, .inr 2] follows S1 rfl (by kernel_rfl) ?_ ?_
  · refine ⟨⟨⟨trivial, ?_⟩, ?_⟩, ?_⟩
    · exact mS 1 2
    · exact owe_len rfl wA rfl (oO 0 10) ar_len Try.underlying22 rfl
    · exact mC
  intro B2 a2 W2 (S2 : Sta w 43 [(5, (.box 28 (Is (.agg #[.bool s, .slice p nn c])))), (8, (.box 28 zI))] [(11, iV (0 : Nat)), (12, iV 0), (0, (fun _ _ => True)), (2, Vv 0 L K), (3, (fun _ _ => True))] _ _ _)
  refine wp_block ?_
  refine wp_loop_ghost (fun (k0 : Nat) a W => (k0 = 0) ∧ ∃ Bq, Sta w 43 [(5, (.box 28 (Is (.agg #[.bool s, .slice p nn c])))), (8, (.box 28 zI))] [(11, iV (0 : Nat)), (12, iV (k0 : Nat)), (0, (fun _ _ => True)), (2, Vv 0 L K), (3, (fun _ _ => True))] Bq a W) (fun (k0 : Nat) => 0) ?_ 0 ⟨rfl, B2, S2.sub [0, 1] [0, 1, 2, 3, 4]⟩
  rintro k0 a3 W3 ⟨hcond, B3, S3⟩
  · skip
    refine wp_stmt_seq [kF] [.inr 0, .inr 1] [.inl 0, .inr 0, .inr 1, .inr 2, .inr 3, .inr 4] follows S3 rfl (by kernel_rfl) ?_ ?_
    · refine ⟨trivial, ?_⟩
      · exact b_lss_int_f wA (oS 1 12) (oS 0 11)
    intro B4 a4 W4 (S4 : Sta w 43 [(5, (.box 28 (Is (.agg #[.bool s, .slice p nn c])))), (8, (.box 28 zI))] [(13, bF), (11, iV (0 : Nat)), (12, iV (k0 : Nat)), (0, (fun _ _ => True)), (2, Vv 0 L K), (3, (fun _ _ => True))] _ _ _)
    refine wp_seq ?_
    refine wp_cond_false (S4.bool 0 13 rfl) ?_
    refine wp_exit ?_
    refine thenX ?_
    refine thenX ?_
    refine inBlkE ?_
    refine thenN ?_
    refine wp_stmt_seq [.val (Is (.agg #[.bool s, .slice p nn c])), .put (.inl 8) (.box 28 (Is (.agg #[.bool s, .slice p nn c])))] [.inr 0, .inr 1] [.inr 1, .inr 2, .inr 3, .inr 4, .inr 5] follows S4 rfl (by kernel_rfl) ?_ ?_
    · refine ⟨⟨trivial, ?_⟩, ?_⟩
      · exact lod 0 wA (loads_of strct_int shp_isz)
      · exact owe_set rfl wA rfl (k := 1) rfl (by kernel_rfl) (oO 0 42) (stores_of strct_int shp_z0 shp_isz) rfl
    intro B5 a5 W5 (S5 : Sta w 43 [(5, (.box 28 (Is (.agg #[.bool s, .slice p nn c])))), (8, (.box 28 (Is (.agg #[.bool s, .slice p nn c]))))] [(11, iV (0 : Nat)), (12, iV (k0 : Nat)), (0, (fun _ _ => True)), (2, Vv 0 L K), (3, (fun _ _ => True))] _ _ _)
    refine wp_ret ?_
    exact end_one S5 rfl (res_cell S5 1 8 rfl strct_int shp_isz)

set_option maxHeartbeats 2000000 in
theorem taken_s (w : World) (u0 u1 u2 u3 : Value) (n1 m m2 K : Nat) (D L M : List Int) (z : Int) (h0 : Hs w (Vv n1 D K) u0) (h1 : Hs w (Zv z K) u1) (h2 : Hs w (Vv m L K) u2) (h3 : Hs w (Vv m2 M K) u3) (hn : m < n1) (hm : m ≤ m2) (h0m : 0 < m) (hK : K ≤ 1073741824) (hN : n1 ≤ 1048576) (ok : TkOk D L M z m K) :
    Calls Try.prog 86 #[u0, u1, u2, u3] w (Gives (ZN (tk D L M z m)) w) := by
  have lD := vv_len h0.now
  have lL := vv_len h2.now
  have lM := vv_len h3.now
  refine calls_sta (sl := [(0, (Vv n1 D K)), (1, (Zv z K)), (2, (Vv m L K)), (3, (Vv m2 M K))]) Try.func86 rfl Try.ntmps86 (by simp) (args_cons rfl (h0) (args_cons rfl (h1) (args_cons rfl (h2) (args_cons rfl (h3) args_nil)))) ?_
  intro a0 S0
  refine wp_stmt_seq [.new (.box 28 (Zv z K)), .new (.box 28 zI)] [.inl 0, .inl 1] [.inr 0, .inr 2, .inr 3] follows S0 rfl (by kernel_rfl) ?_ ?_
  · refine ⟨⟨trivial, ?_⟩, ?_⟩
    · exact owe_box rfl wA rfl (oS 1 1) rfl (fun ρ w h => box_int shp_zv ρ _ _ w h)
    · exact owe_new rfl wA rfl rfl (fun ρ w => alloc_int ρ _ w)
  intro B1 a1 W1 (S1 : Sta w 43 [(5, (.box 28 (Zv z K))), (8, (.box 28 zI))] [(0, Vv n1 D K), (2, Vv m L K), (3, Vv m2 M K)] _ _ _)
  refine wp_seq ?_
  refine wp_stmt_seq [.val (Vv m L K), .val (iV (m : Nat)), .val (iV 0)] [.inr 0, .inr 1] [.inl 1, .inl 2, .inr 0, .inr 1, .inr 2] follows S1 rfl (by kernel_rfl) ?_ ?_
  · refine ⟨⟨⟨trivial, ?_⟩, ?_⟩, ?_⟩
    · exact mS 1 2
    · exact owe_len rfl wA rfl (oO 0 10) ar_len Try.underlying22 rfl
    · exact mC
  intro B2 a2 W2 (S2 : Sta w 43 [(5, (.box 28 (Zv z K))), (8, (.box 28 zI))] [(11, iV (m : Nat)), (12, iV 0), (0, Vv n1 D K), (2, Vv m L K), (3, Vv m2 M K)] _ _ _)
  refine wp_block ?_
  refine wp_loop_ghost (fun (k0 : Nat) a W => (k0 ≤ m) ∧ ∃ Bq, Sta w 43 [(5, (.box 28 (TkP D L M z K w.heap.size k0))), (8, (.box 28 zI))] [(11, iV (m : Nat)), (12, iV (k0 : Nat)), (0, Vv n1 D K), (2, Vv m L K), (3, Vv m2 M K)] Bq a W) (fun (k0 : Nat) => m - k0) ?_ 0 ⟨Nat.zero_le _, B2, S2.sub [0, 1] [0, 1, 2, 3, 4]⟩
  rintro k0 a3 W3 ⟨hcond, B3, S3⟩
  by_cases hlt : k0 < m
  · have hq0 := ok.dl k0 (by omega)
    have hD1 := vv_dl h0.now
    have hL1 := vv_dl h2.now
    have hM1 := vv_dl h3.now
    have hq1 : (digs ((D.getD (k0 + 1) 0) * (tk D L M z k0)).natAbs).length ≤ 2 * K := by rw [Int.natAbs_mul]; exact Nat.le_trans (digs_mul_len (dl_getD hD1 _) hq0) (by omega)
    have hq2 : (digs ((L.getD k0 0) * (M.getD k0 0)).natAbs).length ≤ 2 * K := by rw [Int.natAbs_mul]; exact Nat.le_trans (digs_mul_len (dl_getD hL1 _) (dl_getD hM1 _)) (by omega)
    have hq3 : (digs (((D.getD (k0 + 1) 0) * (tk D L M z k0)) - ((L.getD k0 0) * (M.getD k0 0))).natAbs).length ≤ 2 * K + 1 := digs_sub_len hq1 hq2
    have S3 := S3.reboxS 0 rfl (tkp_zv ok (by omega))
    refine wp_stmt_seq [kT] [.inr 0, .inr 1] [.inl 0, .inr 0, .inr 1, .inr 2, .inr 3, .inr 4] follows S3 rfl (by kernel_rfl) ?_ ?_
    · refine ⟨trivial, ?_⟩
      · exact b_lss_int_t wA (oS 1 12) (oS 0 11)
    intro B4 a4 W4 (S4 : Sta w 43 [(5, (.box 28 (Zv (tk D L M z k0) K))), (8, (.box 28 zI))] [(13, bT), (11, iV (m : Nat)), (12, iV (k0 : Nat)), (0, Vv n1 D K), (2, Vv m L K), (3, Vv m2 M K)] _ _ _)
    refine wp_seq ?_
    refine wp_cond_true (S4.bool 0 13 rfl) ?_
    refine wp_skip ?_
    refine thenN ?_
    refine wp_seq ?_
    refine wp_block ?_
    refine wp_stmt_seq [.val (iV (k0 : Nat)), .val (iV (k0 : Nat))] [.inr 0, .inr 1] [.inl 1, .inr 1, .inr 2, .inr 3, .inr 4, .inr 5] follows S4 rfl (by kernel_rfl) ?_ ?_
    · refine ⟨⟨trivial, ?_⟩, ?_⟩
      · exact mS 2 12
      · exact mO 0 14
    intro B5 a5 W5 (S5 : Sta w 43 [(5, (.box 28 (Zv (tk D L M z k0) K))), (8, (.box 28 zI))] [(9, iV (k0 : Nat)), (11, iV (m : Nat)), (12, iV (k0 : Nat)), (0, Vv n1 D K), (2, Vv m L K), (3, Vv m2 M K)] _ _ _)
    refine wp_stmt_seq [.val (Vv n1 D K), .val (iV (k0 : Nat)), .val (iV ((k0 + 1 : Nat) : Int)), .val (AtE 2 (Zv (D.getD (k0 + 1) 0) K)), .val (Zv (D.getD (k0 + 1) 0) K), .val (Zv (tk D L M z k0) K), .val ((ZN ((D.getD (k0 + 1) 0) * (tk D L M z k0))) w.heap.size), .val (Vv m L K), .val (iV (k0 : Nat)), .val (AtE 2 (Zv (L.getD k0 0) K)), .val (Zv (L.getD k0 0) K), .val (Vv m2 M K), .val (iV (k0 : Nat)), .val (AtE 2 (Zv (M.getD k0 0) K)), .val (Zv (M.getD k0 0) K), .val ((ZN ((L.getD k0 0) * (M.getD k0 0))) w.heap.size), .val ((ZN (((D.getD (k0 + 1) 0) * (tk D L M z k0)) - ((L.getD k0 0) * (M.getD k0 0)))) w.heap.size), .put (.inl 5) (.box 28 ((ZN (((D.getD (k0 + 1) 0) * (tk D L M z k0)) - ((L.getD k0 0) * (M.getD k0 0)))) w.heap.size))] [.inr 0, .inr 1] [.inr 0, .inr 1, .inr 2, .inr 3, .inr 4, .inr 5] follows S5 rfl (by kernel_rfl) ?_ ?_
    · repeat' refine And.intro ?_ ?_
      · trivial
      · exact mS 3 0
      · exact mS 0 9
      · exact b_add_int wA (oO 1 16) (opnd_const _)
      · exact owe_aindex rfl wA rfl idx_ints (oO 0 15) (oO 2 17) (zv_at (by omega)) rfl
      · exact owe_aload rfl wA rfl ldr_int (by decide) (cel_shp (by decide) shp_zv) (oO 3 18) rfl
      · exact lod 0 wA (loads_of strct_int shp_zv)
      · exact cc2 wA (qO 4 19 rfl) (qO 5 20 rfl) (fresh_zn _) (fun w u v h1 h2 => g_zmul (by omega) w u v ((fun _ _ h => h) _ _ h1) ((fun _ _ h => h) _ _ h2))
      · exact mS 4 2
      · exact mS 0 9
      · exact owe_aindex rfl wA rfl idx_ints (oO 7 22) (oO 8 23) (zv_at (by omega)) rfl
      · exact owe_aload rfl wA rfl ldr_int (by decide) (cel_shp (by decide) shp_zv) (oO 9 24) rfl
      · exact mS 5 3
      · exact mS 0 9
      · exact owe_aindex rfl wA rfl idx_ints (oO 11 26) (oO 12 27) (zv_at (by omega)) rfl
      · exact owe_aload rfl wA rfl ldr_int (by decide) (cel_shp (by decide) shp_zv) (oO 13 28) rfl
      · exact cc2 wA (qO 10 25 rfl) (qO 14 29 rfl) (fresh_zn _) (fun w u v h1 h2 => g_zmul (by omega) w u v ((fun _ _ h => h) _ _ h1) ((fun _ _ h => h) _ _ h2))
      · exact cc2 wA (qO 6 21 rfl) (qO 15 30 rfl) (fresh_zn _) (fun w u v h1 h2 => g_zsub (by omega) (by omega) w u v ((zn_zv hq1) _ _ h1) ((zn_zv hq2) _ _ h2))
      · exact owe_set rfl wA rfl (k := 0) rfl (by kernel_rfl) (oO 16 31) (stores_of strct_int shp_zv shp_zn) rfl
    intro B6 a6 W6 (S6 : Sta w 43 [(5, (.box 28 ((ZN (((D.getD (k0 + 1) 0) * (tk D L M z k0)) - ((L.getD k0 0) * (M.getD k0 0)))) w.heap.size))), (8, (.box 28 zI))] [(9, iV (k0 : Nat)), (11, iV (m : Nat)), (12, iV (k0 : Nat)), (0, Vv n1 D K), (2, Vv m L K), (3, Vv m2 M K)] _ _ _)
    refine wp_stmt [.val ((ZN (((D.getD (k0 + 1) 0) * (tk D L M z k0)) - ((L.getD k0 0) * (M.getD k0 0)))) w.heap.size), .val (Vv n1 D K), .val (iV (k0 : Nat)), .val (AtE 2 (Zv (D.getD k0 0) K)), .val (Zv (D.getD k0 0) K), .val ((TWO (ZN (fl (((D.getD (k0 + 1) 0) * (tk D L M z k0)) - ((L.getD k0 0) * (M.getD k0 0))) (D.getD k0 0))) (IS (.int .i64 0))) w.heap.size), .val ((TWO (ZN (fl (((D.getD (k0 + 1) 0) * (tk D L M z k0)) - ((L.getD k0 0) * (M.getD k0 0))) (D.getD k0 0))) (IS (.int .i64 0))) w.heap.size), .val ((ZN (fl (((D.getD (k0 + 1) 0) * (tk D L M z k0)) - ((L.getD k0 0) * (M.getD k0 0))) (D.getD k0 0))) w.heap.size), .val (iV 0), .put (.inl 5) (.box 28 ((ZN (fl (((D.getD (k0 + 1) 0) * (tk D L M z k0)) - ((L.getD k0 0) * (M.getD k0 0))) (D.getD k0 0))) w.heap.size))] [.inr 0, .inr 1] [.inr 1, .inr 2, .inr 3, .inr 4, .inr 5] follows S6 rfl (by kernel_rfl) ?_ ?_
    · repeat' refine And.intro ?_ ?_
      · trivial
      · exact lod 0 wA (loads_of strct_int shp_zn)
      · exact mS 3 0
      · exact mS 0 9
      · exact owe_aindex rfl wA rfl idx_ints (oO 1 34) (oO 2 35) (zv_at (by omega)) rfl
      · exact owe_aload rfl wA rfl ldr_int (by decide) (cel_shp (by decide) shp_zv) (oO 3 36) rfl
      · exact cc2 wA (qO 0 33 rfl) (qO 4 37 rfl) (fresh_two (fresh_zn _) (fresh_is _)) (fun w u v h1 h2 => g_zexact2 (ok.ne k0 hlt) (ok.ex k0 hlt) (by omega) w u v ((zn_zv hq3) _ _ h1) ((fun _ _ h => h) _ _ h2))
      · exact mO 5 38
      · exact e20 wA (oO 6 32)
      · exact e21 wA (oO 6 32)
      · exact owe_set rfl wA rfl (k := 0) rfl (by kernel_rfl) (oO 7 39) (stores_of strct_int shp_zn shp_zn) rfl
    intro B7 a7 W7 (S7 : Sta w 43 [(5, (.box 28 ((ZN (fl (((D.getD (k0 + 1) 0) * (tk D L M z k0)) - ((L.getD k0 0) * (M.getD k0 0))) (D.getD k0 0))) w.heap.size))), (8, (.box 28 zI))] [(11, iV (m : Nat)), (12, iV (k0 : Nat)), (0, Vv n1 D K), (2, Vv m L K), (3, Vv m2 M K)] _ _ _)
    refine inBlkN ?_
    refine thenN ?_
    refine wp_stmt [.val (iV (k0 + 1 : Nat)), .val (iV (k0 + 1 : Nat))] [.inr 0, .inr 1] [.inl 1, .inr 0, .inr 2, .inr 3, .inr 4] follows S7 rfl (by kernel_rfl) ?_ ?_
    · refine ⟨⟨trivial, ?_⟩, ?_⟩
      · exact b_add_int wA (oS 1 12) (opnd_const _)
      · exact mO 0 41
    intro B8 a8 W8 (S8 : Sta w 43 [(5, (.box 28 ((ZN (fl (((D.getD (k0 + 1) 0) * (tk D L M z k0)) - ((L.getD k0 0) * (M.getD k0 0))) (D.getD k0 0))) w.heap.size))), (8, (.box 28 zI))] [(12, iV (k0 + 1 : Nat)), (11, iV (m : Nat)), (0, Vv n1 D K), (2, Vv m L K), (3, Vv m2 M K)] _ _ _)
    refine thenN ?_
    exact ⟨k0 + 1, ⟨by omega, B8, S8.sub [0, 1] [1, 0, 2, 3, 4]⟩, by omega⟩
  · have ek : k0 = m := by omega
    rw [ek] at S3
    have S3 := S3.reboxS 0 rfl (tkp_zn h0m)
    refine wp_stmt_seq [kF] [.inr 0, .inr 1] [.inl 0, .inr 0, .inr 1, .inr 2, .inr 3, .inr 4] follows S3 rfl (by kernel_rfl) ?_ ?_
    · refine ⟨trivial, ?_⟩
      · exact b_lss_int_f wA (oS 1 12) (oS 0 11)
    intro B4 a4 W4 (S4 : Sta w 43 [(5, (.box 28 ((ZN (tk D L M z m)) w.heap.size))), (8, (.box 28 zI))] [(13, bF), (11, iV (m : Nat)), (12, iV (m : Nat)), (0, Vv n1 D K), (2, Vv m L K), (3, Vv m2 M K)] _ _ _)
    refine wp_seq ?_
    refine wp_cond_false (S4.bool 0 13 rfl) ?_
    refine wp_exit ?_
    refine thenX ?_
    refine thenX ?_
    refine inBlkE ?_
    refine thenN ?_
    refine wp_stmt_seq [.val ((ZN (tk D L M z m)) w.heap.size), .put (.inl 8) (.box 28 ((ZN (tk D L M z m)) w.heap.size))] [.inr 0, .inr 1] [.inr 1, .inr 2, .inr 3, .inr 4, .inr 5] follows S4 rfl (by kernel_rfl) ?_ ?_
    · refine ⟨⟨trivial, ?_⟩, ?_⟩
      · exact lod 0 wA (loads_of strct_int shp_zn)
      · exact owe_set rfl wA rfl (k := 1) rfl (by kernel_rfl) (oO 0 42) (stores_of strct_int shp_z0 shp_zn) rfl
    intro B5 a5 W5 (S5 : Sta w 43 [(5, (.box 28 ((ZN (tk D L M z m)) w.heap.size))), (8, (.box 28 ((ZN (tk D L M z m)) w.heap.size)))] [(11, iV (m : Nat)), (12, iV (m : Nat)), (0, Vv n1 D K), (2, Vv m L K), (3, Vv m2 M K)] _ _ _)
    refine wp_ret ?_
    exact end_one S5 rfl (res_cell S5 1 8 rfl strct_int shp_zn)

end Go.Proofs.Ytkiholgfamfgeaa
