import Derived.Test.YtoeopdmaogmjhaaJaB
/-
 scale.common, scale.Whole.
-/
namespace Go.Proofs.Ytoeopdmaogmjhaa
open Go Go.RowKit Nt
set_option linter.unusedSimpArgs false
set_option linter.unusedVariables false
set_option maxRecDepth 20000

abbrev qi8o20  : Rk := .box 29 zI
abbrev qi8o21 (w : World) (ts : List (Int × Int)) (k0 : Nat) : Pr := (ZN ((((ts.getD k0 (0, 0)).2.toNat / Nat.gcd (cmN ts k0) (ts.getD k0 (0, 0)).2.toNat : Nat) : Int))) w.heap.size
abbrev qi8o22 (w : World) (n : Nat) (ts : List (Int × Int)) : Rk := .box 29 ((ZN (((cmN ts n : Nat) : Int))) w.heap.size)
abbrev qi8o23 (w : World) (ts : List (Int × Int)) (k0 : Nat) : Rk := .box 29 ((ZN (((cmN ts k0 : Nat) : Int))) w.heap.size)
abbrev qi8o24 (K : Nat) (ts : List (Int × Int)) (k0 : Nat) : Pr := PR (Zv ((ts.getD k0 (0, 0)).1) K) (Zv ((ts.getD k0 (0, 0)).2) K)
set_option maxHeartbeats 1000000 in
theorem comm_w (w : World) (u : Value) (n K : Nat) (ts : List (Int × Int)) (h : Hs w (QV n ts K) u) (hn : n ≤ 1048576) (hK : K ≤ 1048576) (lt : ts.length = n) (ok : DenOk ts) (hS : dsum ts n ≤ 4194304) :
  Calls Try.prog 54 #[u] w (Gives (ZN (((cmN ts n : Nat) : Int))) w) := by
 refine calls_sta (sl := [(0, (QV n ts K))]) Try.func54 rfl Try.ntmps54 (by simp) (args_cons rfl (h) args_nil) ?_
 intro a0 S0
 refine wq [.new (qi8o20)] [.inl 0] [.inr 0] S0 ?_ ?_
 ·apply jj1
  ·exact owe_new rfl wA rfl rfl (fun ρ w => alloc_int ρ _ w)
 intro _ a1 _ (S1 : Sta w 30 [(2, (qi8o20))] [(0, (QV n ts K))] _ _ _)
 refine wq [.val ((ZN (((cmN ts 0 : Nat) : Int))) w.heap.size), .new (qi8o20), .put (.inr 1) (.box 29 ((ZN (((cmN ts 0 : Nat) : Int))) w.heap.size))] [.inr 0, .inl 1] [.inr 0] S1 ?_ ?_
 ·apply jj3
  ·exact cc1 wA (opnd_const _) (fresh_zn _) (fun w u0 h0 => Gives.cast (ψ := (ZN (((cmN ts 0 : Nat) : Int)))) ((g_zof (1) (by omega) (by omega)) w u0 h0) (by rw [show ((cmN ts 0 : Nat) : Int) = 1 from rfl]))
  ·exact owe_new rfl wA rfl rfl (fun ρ w => alloc_int ρ _ w)
  ·exact owe_put 1 rfl wA rfl (by kernel_rfl) rfl (oO 0 8) (stores_of strct_int shp_z0 shp_zn) rfl
 intro _ a2 _ (S2 : Sta w 30 [(2, (qi8o20)), (3, (.box 29 ((ZN (((cmN ts 0 : Nat) : Int))) w.heap.size)))] [(0, (QV n ts K))] _ _ _)
 refine wp_seq ?_
 refine wq [.val (QV n ts K), .val (iV (n : Nat)), .val (iV 0)] [.inr 0, .inr 1] [.inl 0, .inl 1, .inl 2] S2 ?_ ?_
 ·apply jj3
  ·exact mS 0 0
  ·exact owe_len rfl wA rfl (oO 0 9) ar_len Try.underlying26 rfl
  ·exact mC
 intro B3 a3 _ (S3 : Sta w 30 [(2, (qi8o20)), (3, (.box 29 ((ZN (((cmN ts 0 : Nat) : Int))) w.heap.size)))] [(9, (QV n ts K)), (10, iV (n : Nat)), (11, iV 0)] _ _ _)
 refine wp_block ?_
 refine wp_loop_ghost (fun (k0 : Nat) a W => (k0 ≤ n) ∧ ∃ Bq, Sta w 30 [(2, (qi8o20)), (3, (qi8o23 w ts k0))] [(9, (QV n ts K)), (10, iV (n : Nat)), (11, iV (k0 : Nat))] Bq a W) (fun (k0 : Nat) => n - k0) ?_ 0 ⟨Nat.zero_le _, B3, S3.sub [0, 1] [0, 1, 2]⟩
 rintro k0 a4 _ ⟨hcond, _, S4⟩
 by_cases hlt : k0 < n
 ·have hd := ok k0 (by omega)
  have hds := dsum_mono ts (show k0 ≤ n by omega)
  have hq := (qv_dl h.now (i := k0) (by omega)).2
  have hcl : (digs (((cmN ts k0 : Nat) : Int)).natAbs).length ≤ 4194304 := by rw [Int.natAbs_natCast]; exact Nat.le_trans (cm_len ok k0 (by omega)) (by omega)
  have hde : (ts.getD k0 (0, 0)).2 = (((ts.getD k0 (0, 0)).2.toNat : Nat) : Int) := by omega
  have hg0 : Nat.gcd (cmN ts k0) (ts.getD k0 (0, 0)).2.toNat ≠ 0 := fun e => by have := gcd_dv (cmN ts k0) (ts.getD k0 (0, 0)).2.toNat; rw [e, Nat.zero_mul] at this; omega
  obtain ⟨hgf, hgr⟩ := ex_nat hg0 (Nat.gcd_dvd_right (cmN ts k0) (ts.getD k0 (0, 0)).2.toNat)
  rw [← hde] at hgf hgr
  have hgl : (digs (((Nat.gcd (cmN ts k0) (ts.getD k0 (0, 0)).2.toNat : Nat) : Int)).natAbs).length ≤ K := by rw [Int.natAbs_natCast]; exact Nat.le_trans (digs_length_mono (Nat.le_trans (Nat.gcd_le_right _ (by omega)) (by omega))) hq
  have hql : (digs ((((ts.getD k0 (0, 0)).2.toNat / Nat.gcd (cmN ts k0) (ts.getD k0 (0, 0)).2.toNat : Nat) : Int)).natAbs).length ≤ K := by rw [Int.natAbs_natCast]; exact Nat.le_trans (digs_length_mono (Nat.le_trans (Nat.div_le_self _ _) (by omega))) hq
  refine wq [kT] [.inr 0, .inr 1] [.inl 0, .inr 0, .inr 1, .inr 2] S4 ?_ ?_
  ·apply jj1
   ·exact b_lss_int_t wA (oS 2 11) (oS 1 10)
  intro B5 a5 W5 (S5 : Sta w 30 [(2, (qi8o20)), (3, (qi8o23 w ts k0))] [(12, bT), (9, (QV n ts K)), (10, iV (n : Nat)), (11, iV (k0 : Nat))] _ _ _)
  refine wp_seq (wp_cond_true (S5.bool 0 12 rfl) (wp_skip (thenN (wp_seq (wp_block ?_)))))
  refine wq [.val (AtE 4 (qi8o24 K ts k0)), .val (qi8o24 K ts k0), .new (.box 32 zR), .put (.inr 2) (.box 32 (qi8o24 K ts k0))] [.inr 0, .inr 1, .inl 2] [.inr 1, .inr 2, .inr 3] S5 ?_ ?_
  ·apply jj4
   ·exact owe_aindex rfl wA rfl idx_rats (oS 1 9) (oS 3 11) (qv_at (by omega)) rfl
   ·exact owe_aload rfl wA rfl ldr_rat4 (by decide) (cel_shp (by decide) (shp_pr shp_zv shp_zv)) (oO 0 13) rfl
   ·exact owe_new rfl wA rfl rfl (fun ρ w => alloc_rat ρ _ w)
   ·exact owe_put 2 rfl wA rfl (by kernel_rfl) rfl (oO 1 14) (stores_of strct_rat shp_r0 (shp_pr shp_zv shp_zv)) rfl
  intro B6 a6 W6 (S6 : Sta w 30 [(2, (qi8o20)), (3, (qi8o23 w ts k0)), (5, (.box 32 (qi8o24 K ts k0)))] [(9, (QV n ts K)), (10, iV (n : Nat)), (11, iV (k0 : Nat))] _ _ _)
  refine wq [.val (Part a6 5 2), .val (Zv ((ts.getD k0 (0, 0)).2) K), .val ((ZN (((cmN ts k0 : Nat) : Int))) w.heap.size), .val (Part a6 5 2), .val (Zv ((ts.getD k0 (0, 0)).2) K), .val ((ZN (((Nat.gcd (cmN ts k0) (ts.getD k0 (0, 0)).2.toNat : Nat) : Int))) w.heap.size), .val ((TWO (ZN ((((ts.getD k0 (0, 0)).2.toNat / Nat.gcd (cmN ts k0) (ts.getD k0 (0, 0)).2.toNat : Nat) : Int))) (IS (.int .i64 0))) w.heap.size), .val ((TWO (ZN ((((ts.getD k0 (0, 0)).2.toNat / Nat.gcd (cmN ts k0) (ts.getD k0 (0, 0)).2.toNat : Nat) : Int))) (IS (.int .i64 0))) w.heap.size), .val (qi8o21 w ts k0), .val (iV 0), .new (qi8o20), .put (.inr 10) (.box 29 (qi8o21 w ts k0)), .val (iV 0)] [.inr 0, .inr 1, .inl 10] [.inr 0, .inr 1, .inr 2] S6 ?_ ?_
  ·repeat' refine And.intro ?_ ?_
   ·trivial
   ·exact owe_part rfl wA rfl (k := 2) rfl (by kernel_rfl) rfl (fun ρ w b h => part_rat1 ρ _ _ w b 0 h)
   ·exact owe_pload rfl wA rfl (oO 0 16) (k := 2) rfl (by kernel_rfl) rfl (fun ρ w b u h1 h2 h3 => pload_den ρ _ _ w b u h1 h2 h3)
   ·exact lod 1 wA (loads_of strct_int shp_zn)
   ·exact owe_part rfl wA rfl (k := 2) rfl (by kernel_rfl) rfl (fun ρ w b h => part_rat1 ρ _ _ w b 0 h)
   ·exact owe_pload rfl wA rfl (oO 3 19) (k := 2) rfl (by kernel_rfl) rfl (fun ρ w b u h1 h2 h3 => pload_den ρ _ _ w b u h1 h2 h3)
   ·exact cc2 wA (qO 2 18 rfl) (qO 4 20 rfl) (fresh_zn _) (fun w u v h1 h2 => Gives.cast (ψ := ZN ((Nat.gcd (cmN ts k0) (ts.getD k0 (0, 0)).2.toNat : Nat) : Int)) (g_zgcd (by omega) (by omega) w u v ((zn_zv hcl) _ _ h1) ((fun _ _ h => h) _ _ h2)) (by rw [Int.natAbs_natCast, nabs_pos hd]))
   ·exact cc2 wA (qO 1 17 rfl) (qO 5 21 rfl) (fresh_two (fresh_zn _) (fresh_is _)) (fun w u v h1 h2 => Gives.cast (ψ := (TWO (ZN ((((ts.getD k0 (0, 0)).2.toNat / Nat.gcd (cmN ts k0) (ts.getD k0 (0, 0)).2.toNat : Nat) : Int))) (IS (.int .i64 0)))) (g_zexact2 (by omega) hgr (by omega) w u v ((fun _ _ h => h) _ _ h1) ((zn_zv hgl) _ _ h2)) (by rw [hgf]))
   ·exact mO 6 22
   ·exact e20 wA (oO 7 15)
   ·exact e21 wA (oO 7 15)
   ·exact owe_new rfl wA rfl rfl (fun ρ w => alloc_int ρ _ w)
   ·exact owe_put 10 rfl wA rfl (by kernel_rfl) rfl (oO 8 23) (stores_of strct_int shp_z0 shp_zn) rfl
   ·exact mO 9 24
  intro _ a7 _ (S7 : Sta w 30 [(2, (qi8o20)), (3, (qi8o23 w ts k0)), (6, (.box 29 (qi8o21 w ts k0)))] [(9, (QV n ts K)), (10, iV (n : Nat)), (11, iV (k0 : Nat))] _ _ _)
  refine wr [.val ((ZN (((cmN ts k0 : Nat) : Int))) w.heap.size), .val (qi8o21 w ts k0), .val ((ZN (((cmN ts (k0 + 1) : Nat) : Int))) w.heap.size), .put (.inl 3) (.box 29 ((ZN (((cmN ts (k0 + 1) : Nat) : Int))) w.heap.size))] [.inr 0, .inr 1] [.inr 0, .inr 1, .inr 2] S7 ?_ ?_
  ·apply jj4
   ·exact lod 1 wA (loads_of strct_int shp_zn)
   ·exact lod 2 wA (loads_of strct_int shp_zn)
   ·exact cc2 wA (qO 0 25 rfl) (qO 1 26 rfl) (fresh_zn _) (fun w u0 u1 h0 h1 => Gives.cast (ψ := (ZN (((cmN ts (k0 + 1) : Nat) : Int)))) ((fun w u v h1 h2 => g_zmul (by omega) w u v ((zn_zv hcl) _ _ h1) ((zn_zv hql) _ _ h2)) w u0 u1 h0 h1) (by rw [cmN, Int.natCast_mul]))
   ·exact owe_set rfl wA rfl (k := 1) rfl (by kernel_rfl) (oO 2 27) (stores_of strct_int shp_zn shp_zn) rfl
  intro _ a8 _ (S8 : Sta w 30 [(2, (qi8o20)), (3, (.box 29 ((ZN (((cmN ts (k0 + 1) : Nat) : Int))) w.heap.size)))] [(9, (QV n ts K)), (10, iV (n : Nat)), (11, iV (k0 : Nat))] _ _ _)
  refine inBlkN (thenN ?_)
  refine wr [.val (iV (k0 + 1 : Nat)), .val (iV (k0 + 1 : Nat))] [.inr 0, .inr 1] [.inl 1, .inr 0, .inr 1] S8 ?_ ?_
  ·apply jj2
   ·exact b_add_int wA (oS 2 11) (opnd_const _)
   ·exact mO 0 28
  intro B9 a9 _ (S9 : Sta w 30 [(2, (qi8o20)), (3, (.box 29 ((ZN (((cmN ts (k0 + 1) : Nat) : Int))) w.heap.size)))] [(11, iV (k0 + 1 : Nat)), (9, (QV n ts K)), (10, iV (n : Nat))] _ _ _)
  refine thenN ?_
  exact ⟨k0 + 1, ⟨by omega, B9, S9.sub [0, 1] [1, 2, 0]⟩, by omega⟩
 ·have ek : k0 = n := by omega
  rw [ek] at S4
  refine wq [kF] [.inr 0, .inr 1] [.inl 0, .inr 0, .inr 1, .inr 2] S4 ?_ ?_
  ·apply jj1
   ·exact b_lss_int_f wA (oS 2 11) (oS 1 10)
  intro B5 a5 W5 (S5 : Sta w 30 [(2, (qi8o20)), (3, (qi8o22 w n ts))] [(12, bF), (9, (QV n ts K)), (10, iV (n : Nat)), (11, iV (n : Nat))] _ _ _)
  refine wp_seq (wp_cond_false (S5.bool 0 12 rfl) (wp_exit (thenX (thenX (inBlkE (thenN ?_))))))
  refine wq [.val ((ZN (((cmN ts n : Nat) : Int))) w.heap.size), .put (.inl 2) (qi8o22 w n ts)] [.inr 0, .inr 1] [.inr 1, .inr 2, .inr 3] S5 ?_ ?_
  ·apply jj2
   ·exact lod 1 wA (loads_of strct_int shp_zn)
   ·exact owe_set rfl wA rfl (k := 0) rfl (by kernel_rfl) (oO 0 29) (stores_of strct_int shp_z0 shp_zn) rfl
  intro B6 a6 W6 (S6 : Sta w 30 [(2, (qi8o22 w n ts)), (3, (qi8o22 w n ts))] [(9, (QV n ts K)), (10, iV (n : Nat)), (11, iV (n : Nat))] _ _ _)
  refine wp_ret ?_
  exact end_one S6 rfl (res_cell S6 0 2 rfl strct_int shp_zn)

abbrev qrpdv0 (w : World) (n : Nat) (ts : List (Int × Int)) : Rk := .box 29 ((ZN (((cmN ts n : Nat) : Int))) w.heap.size)
abbrev qrpdv1 (w : World) (n : Nat) (ts : List (Int × Int)) (k0 : Nat) : Rk := .row 29 2 n (CE 2 ((((tlL ts (cmN ts n)).map ZN).map (· w.heap.size)).take k0 ++ List.replicate (n - k0) zI))
abbrev qrpdv2  : Rk := .box 29 zI
abbrev qrpdv3 (w : World) (n : Nat) (ts : List (Int × Int)) (k0 : Nat) : Rk := .row 29 2 n (CE 2 ((((tlL ts (cmN ts n)).map ZN).map (· w.heap.size)).take (k0 + 1) ++ List.replicate (n - (k0 + 1)) zI))
abbrev qrpdv4 (K : Nat) (ts : List (Int × Int)) (k0 : Nat) : Pr := PR (Zv ((ts.getD k0 (0, 0)).1) K) (Zv ((ts.getD k0 (0, 0)).2) K)
abbrev qrpdv5 (w : World) (n : Nat) (ts : List (Int × Int)) (k0 : Nat) : Pr := (ZN (((cmN ts n / (ts.getD k0 (0, 0)).2.toNat : Nat) : Int))) w.heap.size
set_option maxHeartbeats 1000000 in
theorem whol_w (w : World) (u : Value) (n K : Nat) (ts : List (Int × Int)) (h : Hs w (QV n ts K) u) (hn : n ≤ 1048576) (hK : K ≤ 1048576) (lt : ts.length = n) (ok : DenOk ts) (hS : dsum ts n ≤ 4194304) :
  Calls Try.prog 34 #[u] w (Gives (TWO (VN n (tlL ts (cmN ts n))) (ZN (((cmN ts n : Nat) : Int)))) w) := by
 have hcn : (digs (cmN ts n)).length ≤ 4194304 := Nat.le_trans (cm_len ok n (by omega)) hS
 have hcl : (digs (((cmN ts n : Nat) : Int)).natAbs).length ≤ 4194304 := by rw [Int.natAbs_natCast]; exact hcn
 refine calls_sta (sl := [(0, (QV n ts K))]) Try.func34 rfl Try.ntmps34 (by simp) (args_cons rfl (h) args_nil) ?_
 intro a0 S0
 refine wq [.val (Is (.slice none 0 0)), .new (qrpdv2)] [.inl 1] [.inr 0] S0 ?_ ?_
 ·apply jj2
  ·exact mC
  ·exact owe_new rfl wA rfl rfl (fun ρ w => alloc_int ρ _ w)
 intro _ a1 _ (S1 : Sta w 39 [(3, (qrpdv2))] [(0, (QV n ts K))] _ _ _)
 refine wq [.val (QV n ts K), .val ((ZN (((cmN ts n : Nat) : Int))) w.heap.size), .new (qrpdv2), .put (.inr 2) (qrpdv0 w n ts)] [.inr 0, .inl 2] [.inr 0] S1 ?_ ?_
 ·apply jj4
  ·exact mS 0 0
  ·exact ch1 wA (qO 0 10 rfl) (fresh_zn _) (fun w u h => comm_w w u n K ts h hn hK lt ok hS)
  ·exact owe_new rfl wA rfl rfl (fun ρ w => alloc_int ρ _ w)
  ·exact owe_put 2 rfl wA rfl (by kernel_rfl) rfl (oO 1 11) (stores_of strct_int shp_z0 shp_zn) rfl
 intro _ a2 _ (S2 : Sta w 39 [(3, (qrpdv2)), (4, (qrpdv0 w n ts))] [(0, (QV n ts K))] _ _ _)
 refine wq [.val (QV n ts K), .val (iV (n : Nat)), .new (.row 29 2 n (CE 2 (List.replicate n zI))), .ref 2] [.inr 0, .inr 1, .inl 3] [.inr 0] S2 ?_ ?_
 ·apply jj4
  ·exact mS 0 0
  ·exact owe_len rfl wA rfl (oO 0 12) ar_len Try.underlying26 rfl
  ·exact owe_makeE rfl wA rfl Try.underlying22 infoInt celv_z0 (by decide) (oO 1 13) ⟨by omega, by unfold maxLen; omega⟩ rfl
  ·exact owe_ref 2 rfl wA (Or.inr rfl) (by kernel_rfl) rfl rfl
 intro _ a3 _ (S3 : Sta w 39 [(3, (qrpdv2)), (4, (qrpdv0 w n ts)), (5, (.row 29 2 n (CE 2 (List.replicate n zI))))] [(0, (QV n ts K))] _ _ _)
 refine wp_seq ?_
 refine wq [.val (QV n ts K), .val (iV (n : Nat)), .val (iV 0)] [.inr 0, .inr 1, .inr 2] [.inl 0, .inl 1, .inl 2] S3 ?_ ?_
 ·apply jj3
  ·exact mS 0 0
  ·exact owe_len rfl wA rfl (oO 0 15) ar_len Try.underlying26 rfl
  ·exact mC
 intro B4 a4 _ (S4 : Sta w 39 [(3, (qrpdv2)), (4, (qrpdv0 w n ts)), (5, (.row 29 2 n (CE 2 (List.replicate n zI))))] [(15, (QV n ts K)), (16, iV (n : Nat)), (17, iV 0)] _ _ _)
 refine wp_block ?_
 refine wp_loop_ghost (fun (k0 : Nat) a W => (k0 ≤ n) ∧ ∃ Bq, Sta w 39 [(3, (qrpdv2)), (4, (qrpdv0 w n ts)), (5, (qrpdv1 w n ts k0))] [(15, (QV n ts K)), (16, iV (n : Nat)), (17, iV (k0 : Nat))] Bq a W) (fun (k0 : Nat) => n - k0) ?_ 0 ⟨Nat.zero_le _, B4, S4.sub [0, 1, 2] [0, 1, 2]⟩
 rintro k0 a5 _ ⟨hcond, _, S5⟩
 by_cases hlt : k0 < n
 ·have hd := ok k0 (by omega)
  have hde : (ts.getD k0 (0, 0)).2 = (((ts.getD k0 (0, 0)).2.toNat : Nat) : Int) := by omega
  obtain ⟨hxf, hxr⟩ := ex_nat (show (ts.getD k0 (0, 0)).2.toNat ≠ 0 by omega) (cm_dvd (ts := ts) n k0 hlt (by omega))
  rw [← hde] at hxf hxr
  have hql : (digs (((cmN ts n / (ts.getD k0 (0, 0)).2.toNat : Nat) : Int)).natAbs).length ≤ 4194304 := by rw [Int.natAbs_natCast]; exact Nat.le_trans (digs_length_mono (Nat.div_le_self _ _)) hcn
  have hset := set_next (z := Is (.agg #[.bool false, .slice none 0 0])) (xs := (((tlL ts (cmN ts n)).map ZN).map (· w.heap.size))) (n := n) (by simp [tl_len, lt]) (map_get' (· w.heap.size) (map_get' ZN (tl_get' (ts := ts) (M := cmN ts n) (show k0 < ts.length by omega))))
  refine wq [kT] [.inr 0, .inr 1, .inr 2] [.inl 0, .inr 0, .inr 1, .inr 2] S5 ?_ ?_
  ·apply jj1
   ·exact b_lss_int_t wA (oS 2 17) (oS 1 16)
  intro B6 a6 W6 (S6 : Sta w 39 [(3, (qrpdv2)), (4, (qrpdv0 w n ts)), (5, (qrpdv1 w n ts k0))] [(18, bT), (15, (QV n ts K)), (16, iV (n : Nat)), (17, iV (k0 : Nat))] _ _ _)
  refine wp_seq (wp_cond_true (S6.bool 0 18 rfl) (wp_skip (thenN (wp_seq (wp_block ?_)))))
  refine wq [.val (iV (k0 : Nat)), .val (AtE 4 (qrpdv4 K ts k0)), .val (qrpdv4 K ts k0), .new (.box 32 zR), .val (iV (k0 : Nat)), .put (.inr 3) (.box 32 (qrpdv4 K ts k0))] [.inr 0, .inr 1, .inr 2, .inl 3] [.inl 4, .inr 1, .inr 2, .inr 3] S6 ?_ ?_
  ·apply jj6
   ·exact mS 3 17
   ·exact owe_aindex rfl wA rfl idx_rats (oS 1 15) (oS 3 17) (qv_at (by omega)) rfl
   ·exact owe_aload rfl wA rfl ldr_rat4 (by decide) (cel_shp (by decide) (shp_pr shp_zv shp_zv)) (oO 1 20) rfl
   ·exact owe_new rfl wA rfl rfl (fun ρ w => alloc_rat ρ _ w)
   ·exact mO 0 19
   ·exact owe_put 3 rfl wA rfl (by kernel_rfl) rfl (oO 2 21) (stores_of strct_rat shp_r0 (shp_pr shp_zv shp_zv)) rfl
  intro B7 a7 W7 (S7 : Sta w 39 [(3, (qrpdv2)), (4, (qrpdv0 w n ts)), (5, (qrpdv1 w n ts k0)), (7, (.box 32 (qrpdv4 K ts k0)))] [(6, iV (k0 : Nat)), (15, (QV n ts K)), (16, iV (n : Nat)), (17, iV (k0 : Nat))] _ _ _)
  refine wq [.val ((ZN (((cmN ts n : Nat) : Int))) w.heap.size), .val (Part a7 7 2), .val (Zv ((ts.getD k0 (0, 0)).2) K), .val ((TWO (ZN (((cmN ts n / (ts.getD k0 (0, 0)).2.toNat : Nat) : Int))) (IS (.int .i64 0))) w.heap.size), .val ((TWO (ZN (((cmN ts n / (ts.getD k0 (0, 0)).2.toNat : Nat) : Int))) (IS (.int .i64 0))) w.heap.size), .val (qrpdv5 w n ts k0), .val (iV 0), .new (qrpdv2), .put (.inr 7) (.box 29 (qrpdv5 w n ts k0)), .val (iV 0)] [.inr 0, .inr 1, .inr 2, .inr 3, .inl 7] [.inr 0, .inr 1, .inr 2, .inr 3] S7 ?_ ?_
  ·repeat' refine And.intro ?_ ?_
   ·trivial
   ·exact lod 1 wA (loads_of strct_int shp_zn)
   ·exact owe_part rfl wA rfl (k := 3) rfl (by kernel_rfl) rfl (fun ρ w b h => part_rat1 ρ _ _ w b 0 h)
   ·exact owe_pload rfl wA rfl (oO 1 24) (k := 3) rfl (by kernel_rfl) rfl (fun ρ w b u h1 h2 h3 => pload_den ρ _ _ w b u h1 h2 h3)
   ·exact cc2 wA (qO 0 23 rfl) (qO 2 25 rfl) (fresh_two (fresh_zn _) (fresh_is _)) (fun w u v h1 h2 => Gives.cast (ψ := (TWO (ZN (((cmN ts n / (ts.getD k0 (0, 0)).2.toNat : Nat) : Int))) (IS (.int .i64 0)))) (g_zexact2 (by omega) hxr (by omega) w u v ((zn_zv hcl) _ _ h1) ((fun _ _ h => h) _ _ h2)) (by rw [hxf]))
   ·exact mO 3 26
   ·exact e20 wA (oO 4 22)
   ·exact e21 wA (oO 4 22)
   ·exact owe_new rfl wA rfl rfl (fun ρ w => alloc_int ρ _ w)
   ·exact owe_put 7 rfl wA rfl (by kernel_rfl) rfl (oO 5 27) (stores_of strct_int shp_z0 shp_zn) rfl
   ·exact mO 6 28
  intro B8 a8 W8 (S8 : Sta w 39 [(3, (qrpdv2)), (4, (qrpdv0 w n ts)), (5, (qrpdv1 w n ts k0)), (7, (.box 32 (qrpdv4 K ts k0))), (8, (.box 29 (qrpdv5 w n ts k0)))] [(6, iV (k0 : Nat)), (15, (QV n ts K)), (16, iV (n : Nat)), (17, iV (k0 : Nat))] _ _ _)
  refine wr [.val (Is (a8.eval (.tmp 5))), .val (iV (k0 : Nat)), .val (Part a8 7 0), .val (Zv ((ts.getD k0 (0, 0)).1) K), .val (qrpdv5 w n ts k0), .val ((ZN (((ts.getD k0 (0, 0)).1) * (((cmN ts n / (ts.getD k0 (0, 0)).2.toNat : Nat) : Int)))) w.heap.size), .val (REt a8 5 (2 * k0)), .put (.inl 5) (qrpdv3 w n ts k0)] [.inr 0, .inr 1, .inr 2] [.inr 1, .inr 2, .inr 3] S8 ?_ ?_
  ·repeat' refine And.intro ?_ ?_
   ·trivial
   ·exact owe_same rfl wA (Or.inl rfl) (by kernel_rfl) rfl
   ·exact mS 0 6
   ·exact owe_part rfl wA rfl (k := 3) rfl (by kernel_rfl) rfl (fun ρ w b h => part_rat0 ρ _ _ w b 0 h)
   ·exact owe_pload rfl wA rfl (oO 2 31) (k := 3) rfl (by kernel_rfl) rfl (fun ρ w b u h1 h2 h3 => pload_num ρ _ _ w b u h1 h2 h3)
   ·exact lod 4 wA (loads_of strct_int shp_zn)
   ·exact cc2 wA (qO 3 32 rfl) (qO 4 33 rfl) (fresh_zn _) (fun w u v h1 h2 => g_zmul (by omega) w u v ((fun _ _ h => h) _ _ h1) ((zn_zv hql) _ _ h2))
   ·exact owe_rindexE rfl wA rfl idx_ints (oO 0 29) (k := 2) rfl (by kernel_rfl) (oO 1 30) hlt rfl
   ·exact owe_rstoreE rfl wA rfl sto_int (by decide) (oO 6 35) (k := 2) rfl (by kernel_rfl) (oO 5 34) (cel_shp (by decide) shp_zn) hlt (by rw [hset]; rfl)
  intro _ a9 _ (S9 : Sta w 39 [(3, (qrpdv2)), (4, (qrpdv0 w n ts)), (5, (qrpdv3 w n ts k0))] [(15, (QV n ts K)), (16, iV (n : Nat)), (17, iV (k0 : Nat))] _ _ _)
  refine inBlkN (thenN ?_)
  refine wr [.val (iV (k0 + 1 : Nat)), .val (iV (k0 + 1 : Nat))] [.inr 0, .inr 1, .inr 2] [.inl 1, .inr 0, .inr 1] S9 ?_ ?_
  ·apply jj2
   ·exact b_add_int wA (oS 2 17) (opnd_const _)
   ·exact mO 0 36
  intro B10 a10 _ (S10 : Sta w 39 [(3, (qrpdv2)), (4, (qrpdv0 w n ts)), (5, (qrpdv3 w n ts k0))] [(17, iV (k0 + 1 : Nat)), (15, (QV n ts K)), (16, iV (n : Nat))] _ _ _)
  refine thenN ?_
  exact ⟨k0 + 1, ⟨by omega, B10, S10.sub [0, 1, 2] [1, 2, 0]⟩, by omega⟩
 ·have hend := fill_end (z := Is (.agg #[.bool false, .slice none 0 0])) (xs := (((tlL ts (cmN ts n)).map ZN).map (· w.heap.size))) (n := n) (k := k0) (by simp [tl_len, lt]) (by omega)
  refine wq [kF] [.inr 0, .inr 1, .inr 2] [.inl 0, .inr 0, .inr 1, .inr 2] S5 ?_ ?_
  ·apply jj1
   ·exact b_lss_int_f wA (oS 2 17) (oS 1 16)
  intro B6 a6 W6 (S6 : Sta w 39 [(3, (qrpdv2)), (4, (qrpdv0 w n ts)), (5, (qrpdv1 w n ts k0))] [(18, bF), (15, (QV n ts K)), (16, iV (n : Nat)), (17, iV (k0 : Nat))] _ _ _)
  refine wp_seq (wp_cond_false (S6.bool 0 18 rfl) (wp_exit (thenX (thenX (inBlkE (thenN ?_))))))
  obtain ⟨B7, S7⟩ : ∃ Bq, Sta w 39 [(3, (qrpdv2)), (4, (qrpdv0 w n ts))] [(5, ((VN n (tlL ts (cmN ts n))) w.heap.size)), (18, bF), (15, (QV n ts K)), (16, iV (n : Nat)), (17, iV (k0 : Nat))] Bq a6 W6 := ⟨_, S6.freeze 2 rfl (by simp) (fun v w' xs ho hc => row_lf (by decide) v w' xs ho (by rw [hend] at hc; exact hc))⟩
  obtain ⟨a7, W7, e1, e2⟩ : ∃ a W, a6 = a ∧ W6 = W := ⟨_, _, rfl, rfl⟩
  rw [e1, e2] at S7 ⊢
  clear e1 e2
  refine wq [.val ((VN n (tlL ts (cmN ts n))) w.heap.size), .val ((ZN (((cmN ts n : Nat) : Int))) w.heap.size), .val ((VN n (tlL ts (cmN ts n))) w.heap.size), .put (.inl 3) (qrpdv0 w n ts)] [.inr 0, .inr 1] [.inl 2, .inr 0, .inr 2, .inr 3, .inr 4] S7 ?_ ?_
  ·apply jj4
   ·exact mS 0 5
   ·exact lod 1 wA (loads_of strct_int shp_zn)
   ·exact mO 0 37
   ·exact owe_set rfl wA rfl (k := 0) rfl (by kernel_rfl) (oO 1 38) (stores_of strct_int shp_z0 shp_zn) rfl
  intro B8 a8 W8 (S8 : Sta w 39 [(3, (qrpdv0 w n ts)), (4, (qrpdv0 w n ts))] [(2, ((VN n (tlL ts (cmN ts n))) w.heap.size)), (5, ((VN n (tlL ts (cmN ts n))) w.heap.size)), (15, (QV n ts K)), (16, iV (n : Nat)), (17, iV (k0 : Nat))] _ _ _)
  refine wp_ret ?_
  exact end_two S8 rfl (res_tmp S8 0 2 rfl) (res_cell S8 0 3 rfl strct_int shp_zn)

end Go.Proofs.Ytoeopdmaogmjhaa
