import Derived.Test.YtdiagoaakadniaaGreatCoA
import Derived.Test.YtdiagoaakadniaaGreatFiC
import Derived.Test.YtdiagoaakadniaaGreatMkC
namespace Go.Proofs.YtdiagoaakadniaaGreat
open Go Go.RowKit Nt
set_option linter.unusedSimpArgs false
set_option linter.unusedVariables false
set_option maxRecDepth 20000
set_option maxHeartbeats 16000000
abbrev yey  : Rk := .box 26 zI
abbrev yp9 (w : World) (ts : List (Int × Int)) (k0 : Nat) : Pr := (ZN ((((ts.getD k0 (0, 0)).2.toNat / Nat.gcd (cmN ts k0) (ts.getD k0 (0, 0)).2.toNat : Nat) : Int))) w.heap.size
abbrev yqa (w : World) (n : Nat) (ts : List (Int × Int)) : Rk := .box 26 ((ZN (((cmN ts n : Nat) : Int))) w.heap.size)
abbrev yqb (w : World) (ts : List (Int × Int)) (k0 : Nat) : Rk := .box 26 ((ZN (((cmN ts k0 : Nat) : Int))) w.heap.size)
abbrev yqc (K : Nat) (ts : List (Int × Int)) (k0 : Nat) : Pr := PR (Zv ((ts.getD k0 (0, 0)).1) K) (Zv ((ts.getD k0 (0, 0)).2) K)
theorem comm_w (w : World) (u : Value) (n K : Nat) (ts : List (Int × Int)) (h : Hs w (QV n ts K) u) (hn : n ≤ 1048576) (hK : K ≤ 1048576) (lt : ts.length = n) (ok : DenOk ts) (hS : dsum ts n ≤ 4194304) :
  Calls Tryz.prog 40 #[u] w (Gives (ZN (((cmN ts n : Nat) : Int))) w) := by
 refine yam (sl := [(0, (QV n ts K))]) Tryz.func40 rfl Tryz.ntmps40 (by simp) (yab rfl (h) yaq) ?_
 intro a0 S0
 refine wq [.new (yey)] [.inl 0] [.inr 0] S0 ?_ ?_
 ·apply jj1
  ·exact yat rfl wA rfl rfl (fun ρ w => ybi ρ _ w)
 intro _ a1 _ (S1 : Sta w 30 [(2, (yey))] [(0, (QV n ts K))] _ _ _)
 refine wq [.val ((ZN (((cmN ts 0 : Nat) : Int))) w.heap.size), .new (yey), .put (.inr 1) (.box 26 ((ZN (((cmN ts 0 : Nat) : Int))) w.heap.size))] [.inr 0, .inl 1] [.inr 0] S1 ?_ ?_
 ·apply jj3
  ·exact cc1 wA (yaa _) (ya1 _) (fun w u0 h0 => Gives.cast (ψ := (ZN (((cmN ts 0 : Nat) : Int)))) ((g_zof (1) (by omega) (by omega)) w u0 h0) (by rw [show ((cmN ts 0 : Nat) : Int) = 1 from rfl]))
  ·exact yat rfl wA rfl rfl (fun ρ w => ybi ρ _ w)
  ·exact ybj 1 rfl wA rfl (by kernel_rfl) rfl (oO 0 8) (yaf yaj ycn ya0) rfl
 intro _ a2 _ (S2 : Sta w 30 [(2, (yey)), (3, (.box 26 ((ZN (((cmN ts 0 : Nat) : Int))) w.heap.size)))] [(0, (QV n ts K))] _ _ _)
 refine wp_seq ?_
 refine wq [.val (QV n ts K), .val (iV (n : Nat)), .val (iV 0)] [.inr 0, .inr 1] [.inl 0, .inl 1, .inl 2] S2 ?_ ?_
 ·apply jj3
  ·exact mS 0 0
  ·exact yal rfl wA rfl (oO 0 9) yaw Tryz.underlying23 rfl
  ·exact mC
 intro B3 a3 _ (S3 : Sta w 30 [(2, (yey)), (3, (.box 26 ((ZN (((cmN ts 0 : Nat) : Int))) w.heap.size)))] [(9, (QV n ts K)), (10, iV (n : Nat)), (11, iV 0)] _ _ _)
 refine wp_block ?_
 refine yan (fun (k0 : Nat) a W => (k0 ≤ n) ∧ ∃ Bq, Sta w 30 [(2, (yey)), (3, (yqb w ts k0))] [(9, (QV n ts K)), (10, iV (n : Nat)), (11, iV (k0 : Nat))] Bq a W) (fun (k0 : Nat) => n - k0) ?_ 0 ⟨Nat.zero_le _, B3, S3.sub [0, 1] [0, 1, 2]⟩
 rintro k0 a4 _ ⟨hcond, _, S4⟩
 by_cases hlt : k0 < n
 ·have hd := ok k0 (by omega)
  have hds := ymk ts (show k0 ≤ n by omega)
  have hq := (qv_dl h.now (i := k0) (by omega)).2
  have hcl : (digs (((cmN ts k0 : Nat) : Int)).natAbs).length ≤ 4194304 := by rw [Int.natAbs_natCast]; exact Nat.le_trans (yjy ok k0 (by omega)) (by omega)
  have hde : (ts.getD k0 (0, 0)).2 = (((ts.getD k0 (0, 0)).2.toNat : Nat) : Int) := by omega
  have hg0 : Nat.gcd (cmN ts k0) (ts.getD k0 (0, 0)).2.toNat ≠ 0 := fun e => by have := gcd_dv (cmN ts k0) (ts.getD k0 (0, 0)).2.toNat; rw [e, Nat.zero_mul] at this; omega
  obtain ⟨hgf, hgr⟩ := ex_nat hg0 (Nat.gcd_dvd_right (cmN ts k0) (ts.getD k0 (0, 0)).2.toNat)
  rw [← hde] at hgf hgr
  have hgl : (digs (((Nat.gcd (cmN ts k0) (ts.getD k0 (0, 0)).2.toNat : Nat) : Int)).natAbs).length ≤ K := by rw [Int.natAbs_natCast]; exact Nat.le_trans (yai (Nat.le_trans (Nat.gcd_le_right _ (by omega)) (by omega))) hq
  have hql : (digs ((((ts.getD k0 (0, 0)).2.toNat / Nat.gcd (cmN ts k0) (ts.getD k0 (0, 0)).2.toNat : Nat) : Int)).natAbs).length ≤ K := by rw [Int.natAbs_natCast]; exact Nat.le_trans (yai (Nat.le_trans (Nat.div_le_self _ _) (by omega))) hq
  refine wq [kT] [.inr 0, .inr 1] [.inl 0, .inr 0, .inr 1, .inr 2] S4 ?_ ?_
  ·apply jj1
   ·exact yar wA (oS 2 11) (oS 1 10)
  intro B5 a5 W5 (S5 : Sta w 30 [(2, (yey)), (3, (yqb w ts k0))] [(12, bT), (9, (QV n ts K)), (10, iV (n : Nat)), (11, iV (k0 : Nat))] _ _ _)
  refine wp_seq (wp_cond_true (S5.bool 0 12 rfl) (wp_skip (thenN (wp_seq (wp_block ?_)))))
  refine wq [.val (AtE 4 (yqc K ts k0)), .val (yqc K ts k0), .new (.box 28 zR), .put (.inr 2) (.box 28 (yqc K ts k0))] [.inr 0, .inr 1, .inl 2] [.inr 1, .inr 2, .inr 3] S5 ?_ ?_
  ·apply jj4
   ·exact yae rfl wA rfl ybs (oS 1 9) (oS 3 11) (yjd (by omega)) rfl
   ·exact yag rfl wA rfl ybz (by decide) (ya5 (by decide) (ych ybc ybc)) (oO 0 13) rfl
   ·exact yat rfl wA rfl rfl (fun ρ w => ybd ρ _ w)
   ·exact ybj 2 rfl wA rfl (by kernel_rfl) rfl (oO 1 14) (yaf yah ybr (ych ybc ybc)) rfl
  intro B6 a6 W6 (S6 : Sta w 30 [(2, (yey)), (3, (yqb w ts k0)), (5, (.box 28 (yqc K ts k0)))] [(9, (QV n ts K)), (10, iV (n : Nat)), (11, iV (k0 : Nat))] _ _ _)
  refine wq [.val (Part a6 5 2), .val (Zv ((ts.getD k0 (0, 0)).2) K), .val ((ZN (((cmN ts k0 : Nat) : Int))) w.heap.size), .val (Part a6 5 2), .val (Zv ((ts.getD k0 (0, 0)).2) K), .val ((ZN (((Nat.gcd (cmN ts k0) (ts.getD k0 (0, 0)).2.toNat : Nat) : Int))) w.heap.size), .val ((TWO (ZN ((((ts.getD k0 (0, 0)).2.toNat / Nat.gcd (cmN ts k0) (ts.getD k0 (0, 0)).2.toNat : Nat) : Int))) (IS (.int .i64 0))) w.heap.size), .val ((TWO (ZN ((((ts.getD k0 (0, 0)).2.toNat / Nat.gcd (cmN ts k0) (ts.getD k0 (0, 0)).2.toNat : Nat) : Int))) (IS (.int .i64 0))) w.heap.size), .val (yp9 w ts k0), .val (iV 0), .new (yey), .put (.inr 10) (.box 26 (yp9 w ts k0)), .val (iV 0)] [.inr 0, .inr 1, .inl 10] [.inr 0, .inr 1, .inr 2] S6 ?_ ?_
  ·repeat' refine And.intro ?_ ?_
   ·trivial
   ·exact ya2 rfl wA rfl (k := 2) rfl (by kernel_rfl) rfl (fun ρ w b h => ycj ρ _ _ w b 0 h)
   ·exact yav rfl wA rfl (oO 0 16) (k := 2) rfl (by kernel_rfl) rfl (fun ρ w b u h1 h2 h3 => yck ρ _ _ w b u h1 h2 h3)
   ·exact lod 1 wA (yau yaj ya0)
   ·exact ya2 rfl wA rfl (k := 2) rfl (by kernel_rfl) rfl (fun ρ w b h => ycj ρ _ _ w b 0 h)
   ·exact yav rfl wA rfl (oO 3 19) (k := 2) rfl (by kernel_rfl) rfl (fun ρ w b u h1 h2 h3 => yck ρ _ _ w b u h1 h2 h3)
   ·exact cc2 wA (qO 2 18 rfl) (qO 4 20 rfl) (ya1 _) (fun w u v h1 h2 => Gives.cast (ψ := ZN ((Nat.gcd (cmN ts k0) (ts.getD k0 (0, 0)).2.toNat : Nat) : Int)) (g_zgcd (by omega) (by omega) w u v ((ycy hcl) _ _ h1) ((fun _ _ h => h) _ _ h2)) (by rw [Int.natAbs_natCast, nabs_pos hd]))
   ·exact cc2 wA (qO 1 17 rfl) (qO 5 21 rfl) (ybo (ya1 _) (yak _)) (fun w u v h1 h2 => Gives.cast (ψ := (TWO (ZN ((((ts.getD k0 (0, 0)).2.toNat / Nat.gcd (cmN ts k0) (ts.getD k0 (0, 0)).2.toNat : Nat) : Int))) (IS (.int .i64 0)))) (ygk (by omega) hgr (by omega) w u v ((fun _ _ h => h) _ _ h1) ((ycy hgl) _ _ h2)) (by rw [hgf]))
   ·exact mO 6 22
   ·exact e20 wA (oO 7 15)
   ·exact e21 wA (oO 7 15)
   ·exact yat rfl wA rfl rfl (fun ρ w => ybi ρ _ w)
   ·exact ybj 10 rfl wA rfl (by kernel_rfl) rfl (oO 8 23) (yaf yaj ycn ya0) rfl
   ·exact mO 9 24
  intro _ a7 _ (S7 : Sta w 30 [(2, (yey)), (3, (yqb w ts k0)), (6, (.box 26 (yp9 w ts k0)))] [(9, (QV n ts K)), (10, iV (n : Nat)), (11, iV (k0 : Nat))] _ _ _)
  refine wr [.val ((ZN (((cmN ts k0 : Nat) : Int))) w.heap.size), .val (yp9 w ts k0), .val ((ZN (((cmN ts (k0 + 1) : Nat) : Int))) w.heap.size), .put (.inl 3) (.box 26 ((ZN (((cmN ts (k0 + 1) : Nat) : Int))) w.heap.size))] [.inr 0, .inr 1] [.inr 0, .inr 1, .inr 2] S7 ?_ ?_
  ·apply jj4
   ·exact lod 1 wA (yau yaj ya0)
   ·exact lod 2 wA (yau yaj ya0)
   ·exact cc2 wA (qO 0 25 rfl) (qO 1 26 rfl) (ya1 _) (fun w u0 u1 h0 h1 => Gives.cast (ψ := (ZN (((cmN ts (k0 + 1) : Nat) : Int)))) ((fun w u v h1 h2 => ygl (by omega) w u v ((ycy hcl) _ _ h1) ((ycy hql) _ _ h2)) w u0 u1 h0 h1) (by rw [cmN, Int.natCast_mul]))
   ·exact ya7 rfl wA rfl (k := 1) rfl (by kernel_rfl) (oO 2 27) (yaf yaj ya0 ya0) rfl
  intro _ a8 _ (S8 : Sta w 30 [(2, (yey)), (3, (.box 26 ((ZN (((cmN ts (k0 + 1) : Nat) : Int))) w.heap.size)))] [(9, (QV n ts K)), (10, iV (n : Nat)), (11, iV (k0 : Nat))] _ _ _)
  refine inBlkN (thenN ?_)
  refine wr [.val (iV (k0 + 1 : Nat)), .val (iV (k0 + 1 : Nat))] [.inr 0, .inr 1] [.inl 1, .inr 0, .inr 1] S8 ?_ ?_
  ·apply jj2
   ·exact ya3 wA (oS 2 11) (yaa _)
   ·exact mO 0 28
  intro B9 a9 _ (S9 : Sta w 30 [(2, (yey)), (3, (.box 26 ((ZN (((cmN ts (k0 + 1) : Nat) : Int))) w.heap.size)))] [(11, iV (k0 + 1 : Nat)), (9, (QV n ts K)), (10, iV (n : Nat))] _ _ _)
  refine thenN ?_
  exact ⟨k0 + 1, ⟨by omega, B9, S9.sub [0, 1] [1, 2, 0]⟩, by omega⟩
 ·have ek : k0 = n := by omega
  rw [ek] at S4
  refine wq [kF] [.inr 0, .inr 1] [.inl 0, .inr 0, .inr 1, .inr 2] S4 ?_ ?_
  ·apply jj1
   ·exact yaz wA (oS 2 11) (oS 1 10)
  intro B5 a5 W5 (S5 : Sta w 30 [(2, (yey)), (3, (yqa w n ts))] [(12, bF), (9, (QV n ts K)), (10, iV (n : Nat)), (11, iV (n : Nat))] _ _ _)
  refine wp_seq (wp_cond_false (S5.bool 0 12 rfl) (wp_exit (thenX (thenX (inBlkE (thenN ?_))))))
  refine wq [.val ((ZN (((cmN ts n : Nat) : Int))) w.heap.size), .put (.inl 2) (yqa w n ts)] [.inr 0, .inr 1] [.inr 1, .inr 2, .inr 3] S5 ?_ ?_
  ·apply jj2
   ·exact lod 1 wA (yau yaj ya0)
   ·exact ya7 rfl wA rfl (k := 0) rfl (by kernel_rfl) (oO 0 29) (yaf yaj ycn ya0) rfl
  intro B6 a6 W6 (S6 : Sta w 30 [(2, (yqa w n ts)), (3, (yqa w n ts))] [(9, (QV n ts K)), (10, iV (n : Nat)), (11, iV (n : Nat))] _ _ _)
  refine wp_ret ?_
  exact ybe S6 rfl (ybb S6 0 2 rfl yaj ya0)
abbrev yeg (w : World) (n : Nat) (ts : List (Int × Int)) : Rk := .box 26 ((ZN (((cmN ts n : Nat) : Int))) w.heap.size)
abbrev yng (w : World) (n : Nat) (ts : List (Int × Int)) (k0 : Nat) : Rk := .row 26 2 n (CE 2 ((((tlL ts (cmN ts n)).map ZN).map (· w.heap.size)).take k0 ++ List.replicate (n - k0) zI))
abbrev yeh  : Rk := .box 26 zI
abbrev qrpdv3 (w : World) (n : Nat) (ts : List (Int × Int)) (k0 : Nat) : Rk := .row 26 2 n (CE 2 ((((tlL ts (cmN ts n)).map ZN).map (· w.heap.size)).take (k0 + 1) ++ List.replicate (n - (k0 + 1)) zI))
abbrev ynh (K : Nat) (ts : List (Int × Int)) (k0 : Nat) : Pr := PR (Zv ((ts.getD k0 (0, 0)).1) K) (Zv ((ts.getD k0 (0, 0)).2) K)
abbrev yqg (w : World) (n : Nat) (ts : List (Int × Int)) (k0 : Nat) : Pr := (ZN (((cmN ts n / (ts.getD k0 (0, 0)).2.toNat : Nat) : Int))) w.heap.size
theorem whol_w (w : World) (u : Value) (n K : Nat) (ts : List (Int × Int)) (h : Hs w (QV n ts K) u) (hn : n ≤ 1048576) (hK : K ≤ 1048576) (lt : ts.length = n) (ok : DenOk ts) (hS : dsum ts n ≤ 4194304) :
  Calls Tryz.prog 16 #[u] w (Gives (TWO (VN n (tlL ts (cmN ts n))) (ZN (((cmN ts n : Nat) : Int)))) w) := by
 have hcn : (digs (cmN ts n)).length ≤ 4194304 := Nat.le_trans (yjy ok n (by omega)) hS
 have hcl : (digs (((cmN ts n : Nat) : Int)).natAbs).length ≤ 4194304 := by rw [Int.natAbs_natCast]; exact hcn
 refine yam (sl := [(0, (QV n ts K))]) Tryz.func16 rfl Tryz.ntmps16 (by simp) (yab rfl (h) yaq) ?_
 intro a0 S0
 refine wq [.val (Is (.slice none 0 0)), .new (yeh)] [.inl 1] [.inr 0] S0 ?_ ?_
 ·apply jj2
  ·exact mC
  ·exact yat rfl wA rfl rfl (fun ρ w => ybi ρ _ w)
 intro _ a1 _ (S1 : Sta w 39 [(3, (yeh))] [(0, (QV n ts K))] _ _ _)
 refine wq [.val (QV n ts K), .val ((ZN (((cmN ts n : Nat) : Int))) w.heap.size), .new (yeh), .put (.inr 2) (yeg w n ts)] [.inr 0, .inl 2] [.inr 0] S1 ?_ ?_
 ·apply jj4
  ·exact mS 0 0
  ·exact ch1 wA (qO 0 10 rfl) (ya1 _) (fun w u h => comm_w w u n K ts h hn hK lt ok hS)
  ·exact yat rfl wA rfl rfl (fun ρ w => ybi ρ _ w)
  ·exact ybj 2 rfl wA rfl (by kernel_rfl) rfl (oO 1 11) (yaf yaj ycn ya0) rfl
 intro _ a2 _ (S2 : Sta w 39 [(3, (yeh)), (4, (yeg w n ts))] [(0, (QV n ts K))] _ _ _)
 refine wq [.val (QV n ts K), .val (iV (n : Nat)), .new (.row 26 2 n (CE 2 (List.replicate n zI))), .ref 2] [.inr 0, .inr 1, .inl 3] [.inr 0] S2 ?_ ?_
 ·apply jj4
  ·exact mS 0 0
  ·exact yal rfl wA rfl (oO 0 12) yaw Tryz.underlying23 rfl
  ·exact yfn rfl wA rfl Tryz.underlying39 infoInt yn9 (by decide) (oO 1 13) ⟨by omega, by unfold maxLen; omega⟩ rfl
  ·exact yea 2 rfl wA (Or.inr rfl) (by kernel_rfl) rfl rfl
 intro _ a3 _ (S3 : Sta w 39 [(3, (yeh)), (4, (yeg w n ts)), (5, (.row 26 2 n (CE 2 (List.replicate n zI))))] [(0, (QV n ts K))] _ _ _)
 refine wp_seq ?_
 refine wq [.val (QV n ts K), .val (iV (n : Nat)), .val (iV 0)] [.inr 0, .inr 1, .inr 2] [.inl 0, .inl 1, .inl 2] S3 ?_ ?_
 ·apply jj3
  ·exact mS 0 0
  ·exact yal rfl wA rfl (oO 0 15) yaw Tryz.underlying23 rfl
  ·exact mC
 intro B4 a4 _ (S4 : Sta w 39 [(3, (yeh)), (4, (yeg w n ts)), (5, (.row 26 2 n (CE 2 (List.replicate n zI))))] [(15, (QV n ts K)), (16, iV (n : Nat)), (17, iV 0)] _ _ _)
 refine wp_block ?_
 refine yan (fun (k0 : Nat) a W => (k0 ≤ n) ∧ ∃ Bq, Sta w 39 [(3, (yeh)), (4, (yeg w n ts)), (5, (yng w n ts k0))] [(15, (QV n ts K)), (16, iV (n : Nat)), (17, iV (k0 : Nat))] Bq a W) (fun (k0 : Nat) => n - k0) ?_ 0 ⟨Nat.zero_le _, B4, S4.sub [0, 1, 2] [0, 1, 2]⟩
 rintro k0 a5 _ ⟨hcond, _, S5⟩
 by_cases hlt : k0 < n
 ·have hd := ok k0 (by omega)
  have hde : (ts.getD k0 (0, 0)).2 = (((ts.getD k0 (0, 0)).2.toNat : Nat) : Int) := by omega
  obtain ⟨hxf, hxr⟩ := ex_nat (show (ts.getD k0 (0, 0)).2.toNat ≠ 0 by omega) (cm_dvd (ts := ts) n k0 hlt (by omega))
  rw [← hde] at hxf hxr
  have hql : (digs (((cmN ts n / (ts.getD k0 (0, 0)).2.toNat : Nat) : Int)).natAbs).length ≤ 4194304 := by rw [Int.natAbs_natCast]; exact Nat.le_trans (yai (Nat.div_le_self _ _)) hcn
  have hset := yl0 (z := Is (.agg #[.bool false, .slice none 0 0])) (xs := (((tlL ts (cmN ts n)).map ZN).map (· w.heap.size))) (n := n) (by simp [tl_len, lt]) (yas (· w.heap.size) (yas ZN (tl_get' (ts := ts) (M := cmN ts n) (show k0 < ts.length by omega))))
  refine wq [kT] [.inr 0, .inr 1, .inr 2] [.inl 0, .inr 0, .inr 1, .inr 2] S5 ?_ ?_
  ·apply jj1
   ·exact yar wA (oS 2 17) (oS 1 16)
  intro B6 a6 W6 (S6 : Sta w 39 [(3, (yeh)), (4, (yeg w n ts)), (5, (yng w n ts k0))] [(18, bT), (15, (QV n ts K)), (16, iV (n : Nat)), (17, iV (k0 : Nat))] _ _ _)
  refine wp_seq (wp_cond_true (S6.bool 0 18 rfl) (wp_skip (thenN (wp_seq (wp_block ?_)))))
  refine wq [.val (iV (k0 : Nat)), .val (AtE 4 (ynh K ts k0)), .val (ynh K ts k0), .new (.box 28 zR), .val (iV (k0 : Nat)), .put (.inr 3) (.box 28 (ynh K ts k0))] [.inr 0, .inr 1, .inr 2, .inl 3] [.inl 4, .inr 1, .inr 2, .inr 3] S6 ?_ ?_
  ·apply jj6
   ·exact mS 3 17
   ·exact yae rfl wA rfl ybs (oS 1 15) (oS 3 17) (yjd (by omega)) rfl
   ·exact yag rfl wA rfl ybz (by decide) (ya5 (by decide) (ych ybc ybc)) (oO 1 20) rfl
   ·exact yat rfl wA rfl rfl (fun ρ w => ybd ρ _ w)
   ·exact mO 0 19
   ·exact ybj 3 rfl wA rfl (by kernel_rfl) rfl (oO 2 21) (yaf yah ybr (ych ybc ybc)) rfl
  intro B7 a7 W7 (S7 : Sta w 39 [(3, (yeh)), (4, (yeg w n ts)), (5, (yng w n ts k0)), (7, (.box 28 (ynh K ts k0)))] [(6, iV (k0 : Nat)), (15, (QV n ts K)), (16, iV (n : Nat)), (17, iV (k0 : Nat))] _ _ _)
  refine wq [.val ((ZN (((cmN ts n : Nat) : Int))) w.heap.size), .val (Part a7 7 2), .val (Zv ((ts.getD k0 (0, 0)).2) K), .val ((TWO (ZN (((cmN ts n / (ts.getD k0 (0, 0)).2.toNat : Nat) : Int))) (IS (.int .i64 0))) w.heap.size), .val ((TWO (ZN (((cmN ts n / (ts.getD k0 (0, 0)).2.toNat : Nat) : Int))) (IS (.int .i64 0))) w.heap.size), .val (yqg w n ts k0), .val (iV 0), .new (yeh), .put (.inr 7) (.box 26 (yqg w n ts k0)), .val (iV 0)] [.inr 0, .inr 1, .inr 2, .inr 3, .inl 7] [.inr 0, .inr 1, .inr 2, .inr 3] S7 ?_ ?_
  ·repeat' refine And.intro ?_ ?_
   ·trivial
   ·exact lod 1 wA (yau yaj ya0)
   ·exact ya2 rfl wA rfl (k := 3) rfl (by kernel_rfl) rfl (fun ρ w b h => ycj ρ _ _ w b 0 h)
   ·exact yav rfl wA rfl (oO 1 24) (k := 3) rfl (by kernel_rfl) rfl (fun ρ w b u h1 h2 h3 => yck ρ _ _ w b u h1 h2 h3)
   ·exact cc2 wA (qO 0 23 rfl) (qO 2 25 rfl) (ybo (ya1 _) (yak _)) (fun w u v h1 h2 => Gives.cast (ψ := (TWO (ZN (((cmN ts n / (ts.getD k0 (0, 0)).2.toNat : Nat) : Int))) (IS (.int .i64 0)))) (ygk (by omega) hxr (by omega) w u v ((ycy hcl) _ _ h1) ((fun _ _ h => h) _ _ h2)) (by rw [hxf]))
   ·exact mO 3 26
   ·exact e20 wA (oO 4 22)
   ·exact e21 wA (oO 4 22)
   ·exact yat rfl wA rfl rfl (fun ρ w => ybi ρ _ w)
   ·exact ybj 7 rfl wA rfl (by kernel_rfl) rfl (oO 5 27) (yaf yaj ycn ya0) rfl
   ·exact mO 6 28
  intro B8 a8 W8 (S8 : Sta w 39 [(3, (yeh)), (4, (yeg w n ts)), (5, (yng w n ts k0)), (7, (.box 28 (ynh K ts k0))), (8, (.box 26 (yqg w n ts k0)))] [(6, iV (k0 : Nat)), (15, (QV n ts K)), (16, iV (n : Nat)), (17, iV (k0 : Nat))] _ _ _)
  refine wr [.val (Is (a8.eval (.tmp 5))), .val (iV (k0 : Nat)), .val (Part a8 7 0), .val (Zv ((ts.getD k0 (0, 0)).1) K), .val (yqg w n ts k0), .val ((ZN (((ts.getD k0 (0, 0)).1) * (((cmN ts n / (ts.getD k0 (0, 0)).2.toNat : Nat) : Int)))) w.heap.size), .val (REt a8 5 (2 * k0)), .put (.inl 5) (qrpdv3 w n ts k0)] [.inr 0, .inr 1, .inr 2] [.inr 1, .inr 2, .inr 3] S8 ?_ ?_
  ·repeat' refine And.intro ?_ ?_
   ·trivial
   ·exact yct rfl wA (Or.inl rfl) (by kernel_rfl) rfl
   ·exact mS 0 6
   ·exact ya2 rfl wA rfl (k := 3) rfl (by kernel_rfl) rfl (fun ρ w b h => ydl ρ _ _ w b 0 h)
   ·exact yav rfl wA rfl (oO 2 31) (k := 3) rfl (by kernel_rfl) rfl (fun ρ w b u h1 h2 h3 => ydm ρ _ _ w b u h1 h2 h3)
   ·exact lod 4 wA (yau yaj ya0)
   ·exact cc2 wA (qO 3 32 rfl) (qO 4 33 rfl) (ya1 _) (fun w u v h1 h2 => ygl (by omega) w u v ((fun _ _ h => h) _ _ h1) ((ycy hql) _ _ h2))
   ·exact ycs rfl wA rfl yby (oO 0 29) (k := 2) rfl (by kernel_rfl) (oO 1 30) hlt rfl
   ·exact yeb rfl wA rfl yow (by decide) (oO 6 35) (k := 2) rfl (by kernel_rfl) (oO 5 34) (ya5 (by decide) ya0) hlt (by rw [hset]; rfl)
  intro _ a9 _ (S9 : Sta w 39 [(3, (yeh)), (4, (yeg w n ts)), (5, (qrpdv3 w n ts k0))] [(15, (QV n ts K)), (16, iV (n : Nat)), (17, iV (k0 : Nat))] _ _ _)
  refine inBlkN (thenN ?_)
  refine wr [.val (iV (k0 + 1 : Nat)), .val (iV (k0 + 1 : Nat))] [.inr 0, .inr 1, .inr 2] [.inl 1, .inr 0, .inr 1] S9 ?_ ?_
  ·apply jj2
   ·exact ya3 wA (oS 2 17) (yaa _)
   ·exact mO 0 36
  intro B10 a10 _ (S10 : Sta w 39 [(3, (yeh)), (4, (yeg w n ts)), (5, (qrpdv3 w n ts k0))] [(17, iV (k0 + 1 : Nat)), (15, (QV n ts K)), (16, iV (n : Nat))] _ _ _)
  refine thenN ?_
  exact ⟨k0 + 1, ⟨by omega, B10, S10.sub [0, 1, 2] [1, 2, 0]⟩, by omega⟩
 ·have hend := yky (z := Is (.agg #[.bool false, .slice none 0 0])) (xs := (((tlL ts (cmN ts n)).map ZN).map (· w.heap.size))) (n := n) (k := k0) (by simp [tl_len, lt]) (by omega)
  refine wq [kF] [.inr 0, .inr 1, .inr 2] [.inl 0, .inr 0, .inr 1, .inr 2] S5 ?_ ?_
  ·apply jj1
   ·exact yaz wA (oS 2 17) (oS 1 16)
  intro B6 a6 W6 (S6 : Sta w 39 [(3, (yeh)), (4, (yeg w n ts)), (5, (yng w n ts k0))] [(18, bF), (15, (QV n ts K)), (16, iV (n : Nat)), (17, iV (k0 : Nat))] _ _ _)
  refine wp_seq (wp_cond_false (S6.bool 0 18 rfl) (wp_exit (thenX (thenX (inBlkE (thenN ?_))))))
  obtain ⟨B7, S7⟩ : ∃ Bq, Sta w 39 [(3, (yeh)), (4, (yeg w n ts))] [(5, ((VN n (tlL ts (cmN ts n))) w.heap.size)), (18, bF), (15, (QV n ts K)), (16, iV (n : Nat)), (17, iV (k0 : Nat))] Bq a6 W6 := ⟨_, S6.freeze 2 rfl (by simp) (fun v w' xs ho hc => ydi (by decide) v w' xs ho (by rw [hend] at hc; exact hc))⟩
  obtain ⟨a7, W7, e1, e2⟩ : ∃ a W, a6 = a ∧ W6 = W := ⟨_, _, rfl, rfl⟩
  rw [e1, e2] at S7 ⊢
  clear e1 e2
  refine wq [.val ((VN n (tlL ts (cmN ts n))) w.heap.size), .val ((ZN (((cmN ts n : Nat) : Int))) w.heap.size), .val ((VN n (tlL ts (cmN ts n))) w.heap.size), .put (.inl 3) (yeg w n ts)] [.inr 0, .inr 1] [.inl 2, .inr 0, .inr 2, .inr 3, .inr 4] S7 ?_ ?_
  ·apply jj4
   ·exact mS 0 5
   ·exact lod 1 wA (yau yaj ya0)
   ·exact mO 0 37
   ·exact ya7 rfl wA rfl (k := 0) rfl (by kernel_rfl) (oO 1 38) (yaf yaj ycn ya0) rfl
  intro B8 a8 W8 (S8 : Sta w 39 [(3, (yeg w n ts)), (4, (yeg w n ts))] [(2, ((VN n (tlL ts (cmN ts n))) w.heap.size)), (5, ((VN n (tlL ts (cmN ts n))) w.heap.size)), (15, (QV n ts K)), (16, iV (n : Nat)), (17, iV (k0 : Nat))] _ _ _)
  refine wp_ret ?_
  exact yc8 S8 rfl (yay S8 0 2 rfl) (ybb S8 0 3 rfl yaj ya0)
theorem yph {n d : Nat} {X : List Int} : Fresh (LF 4 n (X.map (fun x => QQ x d))) := ygj (by decide) (fun i ψ h => by obtain ⟨z, _, rfl⟩ := yba h; exact ybh _ _)
abbrev yef (n : Nat) (K : Nat) (D : List Int) (L : List (List Int)) : Rk := .box 42 (SF [(Vv (n + 1) D K), (Mv n L K)])
abbrev yqf (w : World) (n : Nat) (D : List Int) (l : List Int) (X : List Int) (L : List (List Int)) (k0 : Nat) : Pr := (ZN (((D.getD n 0) * (l.getD (n - 1 - k0) 0)) - (sumZ (bhL X L (n - 1 - k0) k0)))) w.heap.size
theorem solv_w (w : World) (u v : Value) (n K : Nat) (D l X : List Int) (L : List (List Int)) (h : Hs w (SF [Vv (n + 1) D K, Mv n L K]) u) (hv : Hs w (Vv n l K) v) (hn : n ≤ 12) (hK : K ≤ 16777216) (lD : D.length = n + 1) (lL : L.length = n) (ll : l.length = n) (lX : X.length = n) (hdx : Dl X K) (dD : Dl D K) (dl : Dl l K) (dL : Mdl L K) (hr : ∀ j, j < n → (L.getD j []).length = j) (hd0 : ∀ i, i < n → D.getD (i + 1) 0 ≠ 0) (hx : ∀ i, i < n → D.getD n 0 * l.getD i 0 - sumZ (bhL X L i (n - 1 - i)) = D.getD (i + 1) 0 * X.getD i 0) :
  Calls Tryz.prog 19 #[u, v] w (Gives (VN n X) w) := by
 refine yam (sl := [(0, (SF [(Vv (n + 1) D K), (Mv n L K)])), (1, (Vv n l K))]) Tryz.func19 rfl Tryz.ntmps19 (by simp) (yab rfl (h) (yab rfl (hv) yaq)) ?_
 intro a0 S0
 refine wq [.new (yef n K D L), .val (Is (.slice none 0 0))] [.inl 0] [.inr 1] S0 ?_ ?_
 ·apply jj2
  ·exact ycr rfl wA rfl (oS 0 0) rfl (fun ρ w h => yn8 yb1 ρ _ _ w h)
  ·exact mC
 intro _ a1 _ (S1 : Sta w 53 [(2, (yef n K D L))] [(1, Vv n l K)] _ _ _)
 refine wq [.val (Vv n l K), .val (iV (n : Nat)), .val (iV (n : Nat))] [.inr 0] [.inl 2, .inr 0] S1 ?_ ?_
 ·apply jj3
  ·exact mS 0 1
  ·exact yal rfl wA rfl (oO 0 10) yaw Tryz.underlying39 rfl
  ·exact mO 1 11
 intro _ a2 _ (S2 : Sta w 53 [(2, (yef n K D L))] [(5, iV (n : Nat)), (1, Vv n l K)] _ _ _)
 refine wq [.val (iV (n : Nat)), .new (.row 26 2 n (CE 2 (List.replicate n zI))), .ref 1] [.inr 0, .inl 2] [.inr 0, .inr 1] S2 ?_ ?_
 ·apply jj3
  ·exact mS 0 5
  ·exact yfn rfl wA rfl Tryz.underlying39 infoInt yn9 (by decide) (oO 0 12) ⟨by omega, by unfold maxLen; omega⟩ rfl
  ·exact yea 1 rfl wA (Or.inr rfl) (by kernel_rfl) rfl rfl
 intro _ a3 _ (S3 : Sta w 53 [(2, (yef n K D L)), (6, (.row 26 2 n (CE 2 (List.replicate n zI))))] [(5, iV (n : Nat)), (1, Vv n l K)] _ _ _)
 refine wp_seq ?_
 refine wq [.val (iV (n : Nat)), .val (iV 0)] [.inr 0, .inr 1] [.inl 0, .inl 1, .inr 0, .inr 1] S3 ?_ ?_
 ·apply jj2
  ·exact mS 0 5
  ·exact mC
 intro B4 a4 _ (S4 : Sta w 53 [(2, (yef n K D L)), (6, (.row 26 2 n (CE 2 (List.replicate n zI))))] [(14, iV (n : Nat)), (15, iV 0), (5, iV (n : Nat)), (1, Vv n l K)] _ _ _)
 refine wp_block ?_
 rw [← dstart (z := Is (.agg #[.bool false, .slice none 0 0])) (xs := ((X.map ZN).map (· w.heap.size))) (n := n) (by simp [lX])] at S4
 refine yan (fun (k0 : Nat) a W => (k0 ≤ n) ∧ ∃ Bq, Sta w 53 [(2, (yef n K D L)), (6, (.row 26 2 n (CE 2 (List.replicate (n - k0) zI ++ ((X.map ZN).map (· w.heap.size)).drop (n - k0)))))] [(14, iV (n : Nat)), (15, iV (k0 : Nat)), (5, iV (n : Nat)), (1, Vv n l K)] Bq a W) (fun (k0 : Nat) => n - k0) ?_ 0 ⟨Nat.zero_le _, B4, S4.sub [0, 1] [0, 1, 2, 3]⟩
 rintro k0 a5 _ ⟨hcond, _, S5⟩
 by_cases hlt : k0 < n
 ·have hxk := hx (n - 1 - k0) (by omega)
  rw [show n - 1 - (n - 1 - k0) = k0 by omega] at hxk
  have hdn := hd0 (n - 1 - k0) (by omega)
  obtain ⟨hxf, hxr⟩ := ykz hdn hxk
  have hq1 : (digs ((D.getD n 0) * (l.getD (n - 1 - k0) 0)).natAbs).length ≤ 2 * K := by rw [Int.natAbs_mul]; exact Nat.le_trans (yap (ydc dD _) (ydc dl _)) (by omega)
  have hq2 : (digs (sumZ (bhL X L (n - 1 - k0) k0)).natAbs).length ≤ 2 * K + 12 := by have q := sumZ_len (bhL_dl hdx dL (n - 1 - k0) k0) k0; rw [List.take_of_length_le (by rw [ykq]; omega)] at q; exact Nat.le_trans q (by omega)
  have hq3 : (digs (((D.getD n 0) * (l.getD (n - 1 - k0) 0)) - (sumZ (bhL X L (n - 1 - k0) k0))).natAbs).length ≤ 2 * K + 13 := yc1 (Nat.le_trans hq1 (by omega)) hq2
  have hset := dset (z := Is (.agg #[.bool false, .slice none 0 0])) (xs := ((X.map ZN).map (· w.heap.size))) (n := n) (k := k0) (x := ZN (X.getD (n - 1 - k0) 0) w.heap.size) (by simp [lX]) hlt (yas (· w.heap.size) (yas ZN (gD (by omega))))
  refine wq [kT] [.inr 0, .inr 1] [.inl 0, .inr 0, .inr 1, .inr 2, .inr 3] S5 ?_ ?_
  ·apply jj1
   ·exact yar wA (oS 1 15) (oS 0 14)
  intro B6 a6 W6 (S6 : Sta w 53 [(2, (yef n K D L)), (6, (.row 26 2 n (CE 2 (List.replicate (n - k0) zI ++ ((X.map ZN).map (· w.heap.size)).drop (n - k0)))))] [(16, bT), (14, iV (n : Nat)), (15, iV (k0 : Nat)), (5, iV (n : Nat)), (1, Vv n l K)] _ _ _)
  refine wp_seq (wp_cond_true (S6.bool 0 16 rfl) (wp_skip (thenN (wp_seq (wp_block ?_)))))
  refine wq [.val (iV (k0 : Nat)), .val (iV (k0 : Nat))] [.inr 0, .inr 1] [.inl 1, .inr 1, .inr 2, .inr 3, .inr 4] S6 ?_ ?_
  ·apply jj2
   ·exact mS 2 15
   ·exact mO 0 17
  intro B7 a7 W7 (S7 : Sta w 53 [(2, (yef n K D L)), (6, (.row 26 2 n (CE 2 (List.replicate (n - k0) zI ++ ((X.map ZN).map (· w.heap.size)).drop (n - k0)))))] [(7, iV (k0 : Nat)), (14, iV (n : Nat)), (15, iV (k0 : Nat)), (5, iV (n : Nat)), (1, Vv n l K)] _ _ _)
  refine wq [.val (iV (n : Nat)), .val (iV ((n - 1 : Nat) : Int)), .val (iV (k0 : Nat)), .val (Is (.int .i64 (((n - 1 - k0) : Nat) : Int))), .val (Is (.int .i64 (((n - 1 - k0) : Nat) : Int)))] [.inr 0, .inr 1] [.inl 4, .inr 1, .inr 2, .inr 3, .inr 4] S7 ?_ ?_
  ·apply jj5
   ·exact mS 3 5
   ·exact ygf wA (oO 0 18) (yaa _)
   ·exact mS 0 7
   ·exact ygf wA (oO 1 19) (oO 2 20)
   ·exact mO 3 21
  intro B8 a8 W8 (S8 : Sta w 53 [(2, (yef n K D L)), (6, (.row 26 2 n (CE 2 (List.replicate (n - k0) zI ++ ((X.map ZN).map (· w.heap.size)).drop (n - k0)))))] [(8, Is (.int .i64 (((n - 1 - k0) : Nat) : Int))), (14, iV (n : Nat)), (15, iV (k0 : Nat)), (5, iV (n : Nat)), (1, Vv n l K)] _ _ _)
  refine wq [.val (Part a8 2 0), .val (Vv (n + 1) D K), .val (iV (n : Nat)), .val (AtE 2 (Zv (D.getD n 0) K)), .val (Zv (D.getD n 0) K), .val (Vv n l K), .val (Is (.int .i64 (((n - 1 - k0) : Nat) : Int))), .val (AtE 2 (Zv (l.getD (n - 1 - k0) 0) K)), .val (Zv (l.getD (n - 1 - k0) 0) K), .val ((ZN ((D.getD n 0) * (l.getD (n - 1 - k0) 0))) w.heap.size), .val (SF [(Vv (n + 1) D K), (Mv n L K)]), .val (Is (a8.eval (.tmp 6))), .val (Is (.int .i64 (((n - 1 - k0) : Nat) : Int))), .val ((ZN (sumZ (bhL X L (n - 1 - k0) k0))) w.heap.size), .val (yqf w n D l X L k0), .new (.box 26 zI), .put (.inr 15) (.box 26 (yqf w n D l X L k0))] [.inr 0, .inr 1, .inl 15] [.inr 0, .inr 1, .inr 2, .inr 3, .inr 4] S8 ?_ ?_
  ·repeat' refine And.intro ?_ ?_
   ·trivial
   ·exact ya2 rfl wA rfl (k := 0) rfl (by kernel_rfl) rfl (fun ρ w b h => ydz ρ _ _ w b 0 h)
   ·exact yav rfl wA rfl (oO 0 22) (k := 0) rfl (by kernel_rfl) rfl (fun ρ w b u h1 h2 h3 => ploadS rfl yd8 ρ _ _ w b u h1 h2 h3)
   ·exact mS 3 5
   ·exact yae rfl wA rfl yby (oO 1 23) (oO 2 24) (yhj (by omega)) rfl
   ·exact yag rfl wA rfl ycp (by decide) (ya5 (by decide) ybc) (oO 3 25) rfl
   ·exact mS 4 1
   ·exact mS 0 8
   ·exact yae rfl wA rfl yby (oO 5 27) (oO 6 28) (yhj (by omega)) rfl
   ·exact yag rfl wA rfl ycp (by decide) (ya5 (by decide) ybc) (oO 7 29) rfl
   ·exact cc2 wA (qO 4 26 rfl) (qO 8 30 rfl) (ya1 _) (fun w u v h1 h2 => ygl (by omega) w u v ((fun _ _ h => h) _ _ h1) ((fun _ _ h => h) _ _ h2))
   ·exact lod 0 wA (yau ybl yb1)
   ·exact yct rfl wA (Or.inl rfl) (by kernel_rfl) rfl
   ·exact mS 0 8
   ·exact owe_behR (t := 6) (kk := 1) rfl wA rfl (oO 10 32) (oO 11 33) (oO 12 34) rfl (by kernel_rfl) hdx lX hlt (by omega) (by omega) (by omega) (by omega) lD lL rfl hr rfl
   ·exact cc2 wA (qO 9 31 rfl) (qO 13 35 rfl) (ya1 _) (fun w u v h1 h2 => g_zsub (by omega) (by omega) w u v ((ycy hq1) _ _ h1) ((ycy hq2) _ _ h2))
   ·exact yat rfl wA rfl rfl (fun ρ w => ybi ρ _ w)
   ·exact ybj 15 rfl wA rfl (by kernel_rfl) rfl (oO 14 36) (yaf yaj ycn ya0) rfl
  intro _ a9 _ (S9 : Sta w 53 [(2, (yef n K D L)), (6, (.row 26 2 n (CE 2 (List.replicate (n - k0) zI ++ ((X.map ZN).map (· w.heap.size)).drop (n - k0))))), (9, (.box 26 (yqf w n D l X L k0)))] [(8, Is (.int .i64 (((n - 1 - k0) : Nat) : Int))), (14, iV (n : Nat)), (15, iV (k0 : Nat)), (5, iV (n : Nat)), (1, Vv n l K)] _ _ _)
  refine wr [.val (Is (a9.eval (.tmp 6))), .val (Is (.int .i64 (((n - 1 - k0) : Nat) : Int))), .val (yqf w n D l X L k0), .val (Part a9 2 0), .val (Vv (n + 1) D K), .val (Is (.int .i64 (((n - 1 - k0) : Nat) : Int))), .val (Is (.int .i64 (((n - 1 - k0) + 1 : Nat) : Int))), .val (AtE 2 (Zv (D.getD ((n - 1 - k0) + 1) 0) K)), .val (Zv (D.getD ((n - 1 - k0) + 1) 0) K), .val ((TWO (ZN (X.getD (n - 1 - k0) 0)) (IS (.int .i64 0))) w.heap.size), .val ((TWO (ZN (X.getD (n - 1 - k0) 0)) (IS (.int .i64 0))) w.heap.size), .val ((ZN (X.getD (n - 1 - k0) 0)) w.heap.size), .val (iV 0), .val (REt a9 6 (2 * ((n - 1 - k0)))), .put (.inl 6) (.row 26 2 n (CE 2 (List.replicate (n - (k0 + 1)) zI ++ ((X.map ZN).map (· w.heap.size)).drop (n - (k0 + 1)))))] [.inr 0, .inr 1] [.inr 1, .inr 2, .inr 3, .inr 4] S9 ?_ ?_
  ·repeat' refine And.intro ?_ ?_
   ·trivial
   ·exact yct rfl wA (Or.inl rfl) (by kernel_rfl) rfl
   ·exact mS 0 8
   ·exact lod 2 wA (yau yaj ya0)
   ·exact ya2 rfl wA rfl (k := 0) rfl (by kernel_rfl) rfl (fun ρ w b h => ydz ρ _ _ w b 0 h)
   ·exact yav rfl wA rfl (oO 3 41) (k := 0) rfl (by kernel_rfl) rfl (fun ρ w b u h1 h2 h3 => ploadS rfl yd8 ρ _ _ w b u h1 h2 h3)
   ·exact mS 0 8
   ·exact ya3 wA (oO 5 43) (yaa _)
   ·exact yae rfl wA rfl yby (oO 4 42) (oO 6 44) (yhj (by omega)) rfl
   ·exact yag rfl wA rfl ycp (by decide) (ya5 (by decide) ybc) (oO 7 45) rfl
   ·exact cc2 wA (qO 2 40 rfl) (qO 8 46 rfl) (ybo (ya1 _) (yak _)) (fun w u v h1 h2 => Gives.cast (ψ := (TWO (ZN (X.getD (n - 1 - k0) 0)) (IS (.int .i64 0)))) (ygk hdn hxr (by omega) w u v ((ycy hq3) _ _ h1) ((fun _ _ h => h) _ _ h2)) (by rw [hxf]))
   ·exact mO 9 47
   ·exact e20 wA (oO 10 37)
   ·exact e21 wA (oO 10 37)
   ·exact ycs rfl wA rfl yby (oO 0 38) (k := 1) rfl (by kernel_rfl) (oO 1 39) (by omega) rfl
   ·exact yeb rfl wA rfl yow (by decide) (oO 13 50) (k := 1) rfl (by kernel_rfl) (oO 11 48) (ya5 (by decide) ya0) (by omega) (by rw [hset]; rfl)
  intro _ a10 _ (S10 : Sta w 53 [(2, (yef n K D L)), (6, (.row 26 2 n (CE 2 (List.replicate (n - (k0 + 1)) zI ++ ((X.map ZN).map (· w.heap.size)).drop (n - (k0 + 1))))))] [(14, iV (n : Nat)), (15, iV (k0 : Nat)), (5, iV (n : Nat)), (1, Vv n l K)] _ _ _)
  refine inBlkN (thenN ?_)
  refine wr [.val (iV (k0 + 1 : Nat)), .val (iV (k0 + 1 : Nat))] [.inr 0, .inr 1] [.inl 1, .inr 0, .inr 2, .inr 3] S10 ?_ ?_
  ·apply jj2
   ·exact ya3 wA (oS 1 15) (yaa _)
   ·exact mO 0 51
  intro B11 a11 _ (S11 : Sta w 53 [(2, (yef n K D L)), (6, (.row 26 2 n (CE 2 (List.replicate (n - (k0 + 1)) zI ++ ((X.map ZN).map (· w.heap.size)).drop (n - (k0 + 1))))))] [(15, iV (k0 + 1 : Nat)), (14, iV (n : Nat)), (5, iV (n : Nat)), (1, Vv n l K)] _ _ _)
  refine thenN ?_
  exact ⟨k0 + 1, ⟨by omega, B11, S11.sub [0, 1] [1, 0, 2, 3]⟩, by omega⟩
 ·have hend := dend (z := Is (.agg #[.bool false, .slice none 0 0])) (xs := ((X.map ZN).map (· w.heap.size))) (n := n) (k := k0) (by omega)
  refine wq [kF] [.inr 0, .inr 1] [.inl 0, .inr 0, .inr 1, .inr 2, .inr 3] S5 ?_ ?_
  ·apply jj1
   ·exact yaz wA (oS 1 15) (oS 0 14)
  intro B6 a6 W6 (S6 : Sta w 53 [(2, (yef n K D L)), (6, (.row 26 2 n (CE 2 (List.replicate (n - k0) zI ++ ((X.map ZN).map (· w.heap.size)).drop (n - k0)))))] [(16, bF), (14, iV (n : Nat)), (15, iV (k0 : Nat)), (5, iV (n : Nat)), (1, Vv n l K)] _ _ _)
  refine wp_seq (wp_cond_false (S6.bool 0 16 rfl) (wp_exit (thenX (thenX (inBlkE (thenN ?_))))))
  obtain ⟨B7, S7⟩ : ∃ Bq, Sta w 53 [(2, (yef n K D L))] [(6, ((VN n X) w.heap.size)), (16, bF), (14, iV (n : Nat)), (15, iV (k0 : Nat)), (5, iV (n : Nat)), (1, Vv n l K)] Bq a6 W6 := ⟨_, S6.freeze 1 rfl (by simp) (fun v w' xs ho hc => ydi (by decide) v w' xs ho (by rw [hend] at hc; exact hc))⟩
  obtain ⟨a7, W7, e1, e2⟩ : ∃ a W, a6 = a ∧ W6 = W := ⟨_, _, rfl, rfl⟩
  rw [e1, e2] at S7 ⊢
  clear e1 e2
  refine wq [.val ((VN n X) w.heap.size), .val ((VN n X) w.heap.size)] [.inr 0] [.inl 1, .inr 0, .inr 2, .inr 3, .inr 4, .inr 5] S7 ?_ ?_
  ·apply jj2
   ·exact mS 0 6
   ·exact mO 0 52
  intro B8 a8 W8 (S8 : Sta w 53 [(2, (yef n K D L))] [(4, ((VN n X) w.heap.size)), (6, ((VN n X) w.heap.size)), (14, iV (n : Nat)), (15, iV (k0 : Nat)), (5, iV (n : Nat)), (1, Vv n l K)] _ _ _)
  refine wp_ret ?_
  exact ybe S8 rfl (yay S8 0 4 rfl)
abbrev ynf  : Rk := .box 42 (Is (.agg #[.slice none 0 0, .slice none 0 0]))
abbrev ykg  : Rk := .box 28 zR
theorem co_e (w : World) (u v : Value) (n m Kb K : Nat) (Bm : List (List Int)) (ts : List (Int × Int)) (h : Hs w (Mv n Bm Kb) u) (hv : Hs w (QV m ts K) v) (hn : n ≤ 1048576) (hm : m ≤ 1048576) (hK : K ≤ 1048576) (lt : ts.length = m) (e0 : Int) (he : e0 ≠ 0) (hof : OfGives n Kb Bm (TWO G0 (IS (.int .i64 e0)))) :
  Calls Tryz.prog 5 #[u, v] w (Gives (THREE (IS (.slice none 0 0)) (IS (.agg #[.bool false, .slice none 0 0, .bool false, .slice none 0 0])) (IS (.int .i64 e0))) w) := by
 refine yam (sl := [(0, (Mv n Bm Kb)), (1, (QV m ts K))]) Tryz.func5 rfl Tryz.ntmps5 (by simp) (yab rfl (h) (yab rfl (hv) yaq)) ?_
 intro a0 S0
 refine wq [.val (Is (.slice none 0 0)), .new (ykg), .val (iV 0)] [.inl 1] [.inr 0, .inr 1] S0 ?_ ?_
 ·apply jj3
  ·exact mC
  ·exact yat rfl wA rfl rfl (fun ρ w => ybd ρ _ w)
  ·exact mC
 intro _ a1 _ (S1 : Sta w 95 [(5, (ykg))] [(0, Mv n Bm Kb), (1, (QV m ts K))] _ _ _)
 refine wq [.val (Mv n Bm Kb), .val ((TWO (IS (.agg #[.slice none 0 0, .slice none 0 0])) (IS (.int .i64 e0))) w.heap.size), .val ((TWO (IS (.agg #[.slice none 0 0, .slice none 0 0])) (IS (.int .i64 e0))) w.heap.size), .val (Is (.agg #[.slice none 0 0, .slice none 0 0])), .val (iV e0), .new (ynf), .put (.inr 5) (ynf), .val (iV e0)] [.inr 0, .inl 5] [.inl 7, .inr 0, .inr 1] S1 ?_ ?_
 ·repeat' refine And.intro ?_ ?_
  ·trivial
  ·exact mS 0 0
  ·exact ch1 wA (qO 0 20 rfl) (ybo (yak _) (yak _)) (fun w u h => hof w u h)
  ·exact mO 1 21
  ·exact e20 wA (oO 2 19)
  ·exact e21 wA (oO 2 19)
  ·exact yat rfl wA rfl rfl (fun ρ w => ycv ρ _ w)
  ·exact ybj 5 rfl wA rfl (by kernel_rfl) rfl (oO 3 22) (yaf ybl yb2 yb2) rfl
  ·exact mO 4 23
 intro _ a2 _ (S2 : Sta w 95 [(5, (ykg)), (7, (ynf))] [(8, iV e0), (0, Mv n Bm Kb), (1, (QV m ts K))] _ _ _)
 refine wp_seq (wp_block ?_)
 refine wq [.val (iV e0), kT, kT] [.inr 0, .inr 1] [.inl 2, .inr 0, .inr 1, .inr 2] S2 ?_ ?_
 ·apply jj3
  ·exact mS 0 8
  ·exact yge wA (oO 0 25) (yaa _) (h := he)
  ·exact mO 1 26
 intro _ a3 _ (S3 : Sta w 95 [(5, (ykg)), (7, (ynf))] [(24, bT), (8, iV e0), (0, Mv n Bm Kb), (1, (QV m ts K))] _ _ _)
 refine wp_cond_true (S3.bool 0 24 rfl) ?_
 refine wq [.val zR, .val (iV e0), .val (Is (.slice none 0 0)), .put (.inl 5) (ykg), .val (iV e0)] [.inr 0, .inr 1] [.inl 2, .inl 4] S3 ?_ ?_
 ·apply jj5
  ·exact yc6 rfl wA rfl rfl
  ·exact mS 1 8
  ·exact mC
  ·exact ya7 rfl wA rfl (k := 0) rfl (by kernel_rfl) (oO 0 27) (yaf yah ybr ybr) rfl
  ·exact mO 1 28
 intro _ a4 _ (S4 : Sta w 95 [(5, (ykg)), (7, (ynf))] [(4, Is (.slice none 0 0)), (6, iV e0)] _ _ _)
 refine wp_ret (inBlkR (thenR ?_))
 exact yc2 S4 rfl (yay S4 0 4 rfl) (ybb S4 0 5 rfl yah ybr) (yay S4 1 6 rfl)
abbrev ynb (w : World) (n : Nat) (Bm : List (List Int)) : Rk := .box 42 (SF [((VN (n + 1) (gwD Bm n)) w.heap.size), ((MN n (gwL Bm n)) w.heap.size)])
abbrev yi9  : Rk := .box 28 zR
theorem co_s (w : World) (u v : Value) (n m Kb K : Nat) (Bm : List (List Int)) (ts : List (Int × Int)) (h : Hs w (Mv n Bm Kb) u) (hv : Hs w (QV m ts K) v) (hn : n ≤ 1048576) (hm : m ≤ 1048576) (hK : K ≤ 1048576) (lt : ts.length = m) (wd : Nat) (lB : Bm.length = n) (h0 : 0 < n) (hw0 : (Bm.getD 0 []).length = wd) (hwd : wd ≤ 12) (hne : m ≠ wd) (hof : OfGives n Kb Bm (TWO (GN n (gwD Bm n) (gwL Bm n)) (IS (.int .i64 0)))) :
  Calls Tryz.prog 5 #[u, v] w (Gives (THREE (IS (.slice none 0 0)) (IS (.agg #[.bool false, .slice none 0 0, .bool false, .slice none 0 0])) (IS (.int .i64 8))) w) := by
 refine yam (sl := [(0, (Mv n Bm Kb)), (1, (QV m ts K))]) Tryz.func5 rfl Tryz.ntmps5 (by simp) (yab rfl (h) (yab rfl (hv) yaq)) ?_
 intro a0 S0
 refine wq [.val (Is (.slice none 0 0)), .new (yi9), .val (iV 0)] [.inl 1] [.inr 0, .inr 1] S0 ?_ ?_
 ·apply jj3
  ·exact mC
  ·exact yat rfl wA rfl rfl (fun ρ w => ybd ρ _ w)
  ·exact mC
 intro _ a1 _ (S1 : Sta w 95 [(5, (yi9))] [(0, Mv n Bm Kb), (1, (QV m ts K))] _ _ _)
 refine wq [.val (Mv n Bm Kb), .val ((TWO (GN n (gwD Bm n) (gwL Bm n)) (IS (.int .i64 0))) w.heap.size), .val ((TWO (GN n (gwD Bm n) (gwL Bm n)) (IS (.int .i64 0))) w.heap.size), .val (SF [((VN (n + 1) (gwD Bm n)) w.heap.size), ((MN n (gwL Bm n)) w.heap.size)]), .val (iV 0), .new (.box 42 (Is (.agg #[.slice none 0 0, .slice none 0 0]))), .put (.inr 5) (ynb w n Bm), .val (iV 0)] [.inr 0, .inl 5] [.inl 7, .inr 0, .inr 1] S1 ?_ ?_
 ·repeat' refine And.intro ?_ ?_
  ·trivial
  ·exact mS 0 0
  ·exact ch1 wA (qO 0 20 rfl) (ybo ygi (yak _)) (fun w u h => hof w u h)
  ·exact mO 1 21
  ·exact e20 wA (oO 2 19)
  ·exact e21 wA (oO 2 19)
  ·exact yat rfl wA rfl rfl (fun ρ w => ycv ρ _ w)
  ·exact ybj 5 rfl wA rfl (by kernel_rfl) rfl (oO 3 22) (yaf ybl yb2 yb1) rfl
  ·exact mO 4 23
 intro _ a2 _ (S2 : Sta w 95 [(5, (yi9)), (7, (ynb w n Bm))] [(8, iV 0), (0, Mv n Bm Kb), (1, (QV m ts K))] _ _ _)
 refine wp_seq (wp_block ?_)
 refine wq [.val (iV 0), kF, kF] [.inr 0, .inr 1] [.inl 2, .inr 0, .inr 1, .inr 2] S2 ?_ ?_
 ·apply jj3
  ·exact mS 0 8
  ·exact ydj wA (oO 0 25) (yaa _) (h := rfl)
  ·exact mO 1 26
 intro _ a3 _ (S3 : Sta w 95 [(5, (yi9)), (7, (ynb w n Bm))] [(24, bF), (8, iV 0), (0, Mv n Bm Kb), (1, (QV m ts K))] _ _ _)
 refine wp_cond_false (S3.bool 0 24 rfl) ?_
 refine wq [.val (QV m ts K), .val (iV (m : Nat)), .val (Mv n Bm Kb), .val (AtE 1 (Vv wd (Bm.getD 0 []) Kb)), .val (Vv wd (Bm.getD 0 []) Kb), .val (iV (wd : Nat)), kT, kT] [.inr 0, .inr 1] [.inl 7, .inr 2, .inr 3] S3 ?_ ?_
 ·repeat' refine And.intro ?_ ?_
  ·trivial
  ·exact mS 3 1
  ·exact yal rfl wA rfl (oO 0 30) yaw Tryz.underlying23 rfl
  ·exact mS 2 0
  ·exact yae rfl wA rfl ya8 (oO 2 32) (yaa _) (by have q := yda (A := Bm) (K := Kb) (k := 0) (by omega); rw [hw0] at q; exact q) rfl
  ·exact yag rfl wA rfl ya9 (by decide) yb3 (oO 3 33) rfl
  ·exact yal rfl wA rfl (oO 4 34) yaw Tryz.underlying39 rfl
  ·exact yds wA (oO 1 31) (oO 5 35)
  ·exact mO 6 36
 intro _ a4 _ (S4 : Sta w 95 [(5, (yi9)), (7, (ynb w n Bm))] [(29, bT), (0, Mv n Bm Kb), (1, (QV m ts K))] _ _ _)
 refine wp_cond_true (S4.bool 0 29 rfl) ?_
 refine wq [.val zR, .val (Is (.slice none 0 0)), .put (.inl 5) (yi9), .val (iV 8)] [.inr 0, .inr 1] [.inl 1, .inl 3] S4 ?_ ?_
 ·apply jj4
  ·exact yc6 rfl wA rfl rfl
  ·exact mC
  ·exact ya7 rfl wA rfl (k := 0) rfl (by kernel_rfl) (oO 0 37) (yaf yah ybr ybr) rfl
  ·exact mC
 intro _ a5 _ (S5 : Sta w 95 [(5, (yi9)), (7, (ynb w n Bm))] [(4, Is (.slice none 0 0)), (6, iV 8)] _ _ _)
 refine wp_ret (inBlkR (thenR ?_))
 exact yc2 S5 rfl (yay S5 0 4 rfl) (ybb S5 0 5 rfl yah ybr) (yay S5 1 6 rfl)
abbrev ykd (w : World) (n : Nat) (Bm : List (List Int)) : Rk := .box 42 (SF [((VN (n + 1) (gwD Bm n)) w.heap.size), ((MN n (gwL Bm n)) w.heap.size)])
abbrev yhv  : Rk := .box 28 zR
theorem co_r (w : World) (u v : Value) (n m Kb K : Nat) (Bm : List (List Int)) (ts : List (Int × Int)) (h : Hs w (Mv n Bm Kb) u) (hv : Hs w (QV m ts K) v) (hn : n ≤ 1048576) (hm : m ≤ 1048576) (hK : K ≤ 1048576) (lt : ts.length = m) (wd : Nat) (lB : Bm.length = n) (h0 : 0 < n) (hw0 : (Bm.getD 0 []).length = wd) (hwd : wd ≤ 12) (hm2 : m = wd) (i0 : Nat) (hi : i0 < m) (ht : ∀ i, i < i0 → 0 < (ts.getD i (0, 0)).2) (hz : (ts.getD i0 (0, 0)).2 ≤ 0) (hof : OfGives n Kb Bm (TWO (GN n (gwD Bm n) (gwL Bm n)) (IS (.int .i64 0)))) :
  Calls Tryz.prog 5 #[u, v] w (Gives (THREE (IS (.slice none 0 0)) (IS (.agg #[.bool false, .slice none 0 0, .bool false, .slice none 0 0])) (IS (.int .i64 30))) w) := by
 refine yam (sl := [(0, (Mv n Bm Kb)), (1, (QV m ts K))]) Tryz.func5 rfl Tryz.ntmps5 (by simp) (yab rfl (h) (yab rfl (hv) yaq)) ?_
 intro a0 S0
 refine wq [.val (Is (.slice none 0 0)), .new (yhv), .val (iV 0)] [.inl 1] [.inr 0, .inr 1] S0 ?_ ?_
 ·apply jj3
  ·exact mC
  ·exact yat rfl wA rfl rfl (fun ρ w => ybd ρ _ w)
  ·exact mC
 intro _ a1 _ (S1 : Sta w 95 [(5, (yhv))] [(0, Mv n Bm Kb), (1, (QV m ts K))] _ _ _)
 refine wq [.val (Mv n Bm Kb), .val ((TWO (GN n (gwD Bm n) (gwL Bm n)) (IS (.int .i64 0))) w.heap.size), .val ((TWO (GN n (gwD Bm n) (gwL Bm n)) (IS (.int .i64 0))) w.heap.size), .val (SF [((VN (n + 1) (gwD Bm n)) w.heap.size), ((MN n (gwL Bm n)) w.heap.size)]), .val (iV 0), .new (.box 42 (Is (.agg #[.slice none 0 0, .slice none 0 0]))), .put (.inr 5) (ykd w n Bm), .val (iV 0)] [.inr 0, .inl 5] [.inl 7, .inr 0, .inr 1] S1 ?_ ?_
 ·repeat' refine And.intro ?_ ?_
  ·trivial
  ·exact mS 0 0
  ·exact ch1 wA (qO 0 20 rfl) (ybo ygi (yak _)) (fun w u h => hof w u h)
  ·exact mO 1 21
  ·exact e20 wA (oO 2 19)
  ·exact e21 wA (oO 2 19)
  ·exact yat rfl wA rfl rfl (fun ρ w => ycv ρ _ w)
  ·exact ybj 5 rfl wA rfl (by kernel_rfl) rfl (oO 3 22) (yaf ybl yb2 yb1) rfl
  ·exact mO 4 23
 intro _ a2 _ (S2 : Sta w 95 [(5, (yhv)), (7, (ykd w n Bm))] [(8, iV 0), (0, Mv n Bm Kb), (1, (QV m ts K))] _ _ _)
 refine wp_seq (wp_block ?_)
 refine wq [.val (iV 0), kF, kF] [.inr 0, .inr 1] [.inl 2, .inr 0, .inr 1, .inr 2] S2 ?_ ?_
 ·apply jj3
  ·exact mS 0 8
  ·exact ydj wA (oO 0 25) (yaa _) (h := rfl)
  ·exact mO 1 26
 intro _ a3 _ (S3 : Sta w 95 [(5, (yhv)), (7, (ykd w n Bm))] [(24, bF), (8, iV 0), (0, Mv n Bm Kb), (1, (QV m ts K))] _ _ _)
 refine wp_cond_false (S3.bool 0 24 rfl) ?_
 refine wq [.val (QV m ts K), .val (iV (m : Nat)), .val (Mv n Bm Kb), .val (AtE 1 (Vv wd (Bm.getD 0 []) Kb)), .val (Vv wd (Bm.getD 0 []) Kb), .val (iV (wd : Nat)), kF, kF] [.inr 0, .inr 1] [.inl 7, .inr 2, .inr 3] S3 ?_ ?_
 ·repeat' refine And.intro ?_ ?_
  ·trivial
  ·exact mS 3 1
  ·exact yal rfl wA rfl (oO 0 30) yaw Tryz.underlying23 rfl
  ·exact mS 2 0
  ·exact yae rfl wA rfl ya8 (oO 2 32) (yaa _) (by have q := yda (A := Bm) (K := Kb) (k := 0) (by omega); rw [hw0] at q; exact q) rfl
  ·exact yag rfl wA rfl ya9 (by decide) yb3 (oO 3 33) rfl
  ·exact yal rfl wA rfl (oO 4 34) yaw Tryz.underlying39 rfl
  ·exact ybm wA (oO 1 31) (oO 5 35)
  ·exact mO 6 36
 intro _ a4 _ (S4 : Sta w 95 [(5, (yhv)), (7, (ykd w n Bm))] [(29, bF), (0, Mv n Bm Kb), (1, (QV m ts K))] _ _ _)
 refine wp_cond_false (S4.bool 0 29 rfl) ?_
 refine wq [.val (QV m ts K), kF, kT, kT] [.inr 0, .inr 1] [.inl 3, .inr 1, .inr 2] S4 ?_ ?_
 ·apply jj4
  ·exact mS 2 1
  ·exact ch1 wA (qO 0 39 rfl) (yak _) (fun w u h => mayb_f w u m K ts h hm (by omega) lt i0 hi ht hz)
  ·exact yie wA (oO 1 40)
  ·exact mO 2 41
 intro _ a5 _ (S5 : Sta w 95 [(5, (yhv)), (7, (ykd w n Bm))] [(38, bT), (0, Mv n Bm Kb), (1, (QV m ts K))] _ _ _)
 refine wp_cond_true (S5.bool 0 38 rfl) ?_
 refine wq [.val zR, .val (Is (.slice none 0 0)), .put (.inl 5) (yhv), .val (iV 30)] [.inr 0, .inr 1] [.inl 1, .inl 3] S5 ?_ ?_
 ·apply jj4
  ·exact yc6 rfl wA rfl rfl
  ·exact mC
  ·exact ya7 rfl wA rfl (k := 0) rfl (by kernel_rfl) (oO 0 42) (yaf yah ybr ybr) rfl
  ·exact mC
 intro _ a6 _ (S6 : Sta w 95 [(5, (yhv)), (7, (ykd w n Bm))] [(4, Is (.slice none 0 0)), (6, iV 30)] _ _ _)
 refine wp_ret (inBlkR (thenR ?_))
 exact yc2 S6 rfl (yay S6 0 4 rfl) (ybb S6 0 5 rfl yah ybr) (yay S6 1 6 rfl)
abbrev yek (w : World) (n : Nat) (m : Nat) (Bm : List (List Int)) (ts : List (Int × Int)) : Rk := .box 26 ((ZN (tk (gwD Bm n) (lfL (gwD Bm n) (gwL Bm n) Bm (tlL ts (cmN ts m)) n) (lfL (gwD Bm n) (gwL Bm n) Bm (tlL ts (cmN ts m)) n) (dotR (tlL ts (cmN ts m)) (tlL ts (cmN ts m))) n)) w.heap.size)
abbrev ydn (w : World) (n : Nat) (Bm : List (List Int)) : Rk := .box 42 (SF [((VN (n + 1) (gwD Bm n)) w.heap.size), ((MN n (gwL Bm n)) w.heap.size)])
abbrev yi7 (w : World) (n : Nat) (m : Nat) (Bm : List (List Int)) (ts : List (Int × Int)) (dn : Nat) : Pr := (QQ (tk (gwD Bm n) (lfL (gwD Bm n) (gwL Bm n) Bm (tlL ts (cmN ts m)) n) (lfL (gwD Bm n) (gwL Bm n) Bm (tlL ts (cmN ts m)) n) (dotR (tlL ts (cmN ts m)) (tlL ts (cmN ts m))) n) (dn * cmN ts m * cmN ts m)) w.heap.size
abbrev yee (w : World) (m : Nat) (ts : List (Int × Int)) : Rk := .box 26 ((ZN (((cmN ts m : Nat) : Int))) w.heap.size)
abbrev yev (w : World) (m : Nat) (ts : List (Int × Int)) (dn : Nat) : Rk := .box 26 ((ZN (((dn * cmN ts m : Nat) : Int))) w.heap.size)
abbrev ydg  : Rk := .box 28 zR
abbrev ym8 (w : World) (n : Nat) (m : Nat) (ts : List (Int × Int)) (dn : Nat) (X : List Int) (k0 : Nat) : Rk := .row 28 4 n (CE 4 (((X.map (fun x => QQ x (dn * cmN ts m))).map (· w.heap.size)).take k0 ++ List.replicate (n - k0) zR))
abbrev ykb (w : World) (n : Nat) (m : Nat) (Bm : List (List Int)) (ts : List (Int × Int)) : Pr := (VN n (lfL (gwD Bm n) (gwL Bm n) Bm (tlL ts (cmN ts m)) n)) w.heap.size
abbrev q4e088 (w : World) (n : Nat) (m : Nat) (ts : List (Int × Int)) (dn : Nat) (X : List Int) (k0 : Nat) : Rk := .row 28 4 n (CE 4 (((X.map (fun x => QQ x (dn * cmN ts m))).map (· w.heap.size)).take (k0 + 1) ++ List.replicate (n - (k0 + 1)) zR))
theorem co_w (w : World) (u v : Value) (n m Kb K : Nat) (Bm : List (List Int)) (ts : List (Int × Int)) (h : Hs w (Mv n Bm Kb) u) (hv : Hs w (QV m ts K) v) (hm : m ≤ 1048576) (hK : K ≤ 1048576) (lt : ts.length = m) (wd : Nat) (lB : Bm.length = n) (hw0 : (Bm.getD 0 []).length = wd) (hwd : wd ≤ 12) (hm2 : m = wd) (hok : OfOk Bm n) (hrx : ∀ j, j < n → (Bm.getD j []).length = wd) (ok : DenOk ts) (hS : dsum ts m ≤ 4194304) (KL : Nat) (hKL : KL ≤ 8388608) (hKb : Kb ≤ KL) (h196 : 196 ≤ KL) (dT : Dl (tlL ts (cmN ts m)) KL) (hlf : LfOk (gwD Bm n) (gwL Bm n) Bm (tlL ts (cmN ts m)) n KL) (dn : Nat) (hdn : (gwD Bm n).getD n 0 = (dn : Int)) (hdz : dn ≠ 0) (hdl : (digs dn).length ≤ 196) (X : List Int) (lX : X.length = n) (dX : Dl X KL) (hx : ∀ i, i < n → (gwD Bm n).getD n 0 * (lfL (gwD Bm n) (gwL Bm n) Bm (tlL ts (cmN ts m)) n).getD i 0 - sumZ (bhL X (gwL Bm n) i (n - 1 - i)) = (gwD Bm n).getD (i + 1) 0 * X.getD i 0) (hof : OfGives n Kb Bm (TWO (GN n (gwD Bm n) (gwL Bm n)) (IS (.int .i64 0)))) :
  Calls Tryz.prog 5 #[u, v] w (Gives (THREE (LF 4 n (X.map (fun x => QQ x (dn * cmN ts m)))) (QQ (tk (gwD Bm n) (lfL (gwD Bm n) (gwL Bm n) Bm (tlL ts (cmN ts m)) n) (lfL (gwD Bm n) (gwL Bm n) Bm (tlL ts (cmN ts m)) n) (dotR (tlL ts (cmN ts m)) (tlL ts (cmN ts m))) n) (dn * cmN ts m * cmN ts m)) (IS (.int .i64 0))) w) := by
 have gd := gw_good hok
 have h12 := hok.top
 have h0 := hok.pos
 obtain ⟨dD, dL, _⟩ := gl_ok hok
 have dD2 : Dl (gwD Bm n) KL := fun i z hz => Nat.le_trans (dD i z hz) h196
 have dL2 : Mdl (gwL Bm n) KL := fun i r hr => fun j z hz => Nat.le_trans (dL i r hr j z hz) h196
 have hcn : (digs (cmN ts m)).length ≤ 4194304 := Nat.le_trans (yjy ok m (by omega)) hS
 have hcl : (digs (((cmN ts m : Nat) : Int)).natAbs).length ≤ 4194304 := by rw [Int.natAbs_natCast]; exact hcn
 have hMz := cm_ne ok m (by omega)
 have hdm : dn * cmN ts m ≠ 0 := Nat.mul_ne_zero hdz hMz
 have hdmm : dn * cmN ts m * cmN ts m ≠ 0 := Nat.mul_ne_zero hdm hMz
 have hl1 : (digs (((dn * cmN ts m : Nat) : Int)).natAbs).length ≤ 4195000 := by rw [Int.natAbs_natCast]; exact Nat.le_trans (yap hdl hcn) (by omega)
 have hl2 : (digs (((dn * cmN ts m * cmN ts m : Nat) : Int)).natAbs).length ≤ 8390000 := by rw [Int.natAbs_natCast] at hl1 ⊢; exact Nat.le_trans (yap hl1 hcn) (by omega)
 have dlf := lf_dl hlf n (Nat.le_refl _)
 have hdd : (digs (tk (gwD Bm n) (lfL (gwD Bm n) (gwL Bm n) Bm (tlL ts (cmN ts m)) n) (lfL (gwD Bm n) (gwL Bm n) Bm (tlL ts (cmN ts m)) n) (dotR (tlL ts (cmN ts m)) (tlL ts (cmN ts m))) n).natAbs).length ≤ KL := hlf.last.dl n (Nat.le_refl _)
 have hgl := yhm Bm n
 have hlD : (digs ((gwD Bm n).getD n 0).natAbs).length ≤ KL := ydc dD2 _
 refine yam (sl := [(0, (Mv n Bm Kb)), (1, (QV m ts K))]) Tryz.func5 rfl Tryz.ntmps5 (by simp) (yab rfl (h) (yab rfl (hv) yaq)) ?_
 intro a0 S0
 refine wq [.val (Is (.slice none 0 0)), .new (ydg), .val (iV 0)] [.inl 1] [.inr 0, .inr 1] S0 ?_ ?_
 ·apply jj3
  ·exact mC
  ·exact yat rfl wA rfl rfl (fun ρ w => ybd ρ _ w)
  ·exact mC
 intro _ a1 _ (S1 : Sta w 95 [(5, (ydg))] [(0, Mv n Bm Kb), (1, (QV m ts K))] _ _ _)
 refine wq [.val (Mv n Bm Kb), .val ((TWO (GN n (gwD Bm n) (gwL Bm n)) (IS (.int .i64 0))) w.heap.size), .val ((TWO (GN n (gwD Bm n) (gwL Bm n)) (IS (.int .i64 0))) w.heap.size), .val (SF [((VN (n + 1) (gwD Bm n)) w.heap.size), ((MN n (gwL Bm n)) w.heap.size)]), .val (iV 0), .new (.box 42 (Is (.agg #[.slice none 0 0, .slice none 0 0]))), .put (.inr 5) (ydn w n Bm), .val (iV 0)] [.inr 0, .inl 5] [.inl 7, .inr 0, .inr 1] S1 ?_ ?_
 ·repeat' refine And.intro ?_ ?_
  ·trivial
  ·exact mS 0 0
  ·exact ch1 wA (qO 0 20 rfl) (ybo ygi (yak _)) (fun w u h => hof w u h)
  ·exact mO 1 21
  ·exact e20 wA (oO 2 19)
  ·exact e21 wA (oO 2 19)
  ·exact yat rfl wA rfl rfl (fun ρ w => ycv ρ _ w)
  ·exact ybj 5 rfl wA rfl (by kernel_rfl) rfl (oO 3 22) (yaf ybl yb2 yb1) rfl
  ·exact mO 4 23
 intro _ a2 _ (S2 : Sta w 95 [(5, (ydg)), (7, (ydn w n Bm))] [(8, iV 0), (0, Mv n Bm Kb), (1, (QV m ts K))] _ _ _)
 refine wp_seq (wp_block ?_)
 refine wq [.val (iV 0), kF, kF] [.inr 0, .inr 1] [.inl 2, .inr 0, .inr 1, .inr 2] S2 ?_ ?_
 ·apply jj3
  ·exact mS 0 8
  ·exact ydj wA (oO 0 25) (yaa _) (h := rfl)
  ·exact mO 1 26
 intro _ a3 _ (S3 : Sta w 95 [(5, (ydg)), (7, (ydn w n Bm))] [(24, bF), (8, iV 0), (0, Mv n Bm Kb), (1, (QV m ts K))] _ _ _)
 refine wp_cond_false (S3.bool 0 24 rfl) ?_
 refine wq [.val (QV m ts K), .val (iV (m : Nat)), .val (Mv n Bm Kb), .val (AtE 1 (Vv wd (Bm.getD 0 []) Kb)), .val (Vv wd (Bm.getD 0 []) Kb), .val (iV (wd : Nat)), kF, kF] [.inr 0, .inr 1] [.inl 7, .inr 2, .inr 3] S3 ?_ ?_
 ·repeat' refine And.intro ?_ ?_
  ·trivial
  ·exact mS 3 1
  ·exact yal rfl wA rfl (oO 0 30) yaw Tryz.underlying23 rfl
  ·exact mS 2 0
  ·exact yae rfl wA rfl ya8 (oO 2 32) (yaa _) (by have q := yda (A := Bm) (K := Kb) (k := 0) (by omega); rw [hw0] at q; exact q) rfl
  ·exact yag rfl wA rfl ya9 (by decide) yb3 (oO 3 33) rfl
  ·exact yal rfl wA rfl (oO 4 34) yaw Tryz.underlying39 rfl
  ·exact ybm wA (oO 1 31) (oO 5 35)
  ·exact mO 6 36
 intro _ a4 _ (S4 : Sta w 95 [(5, (ydg)), (7, (ydn w n Bm))] [(29, bF), (0, Mv n Bm Kb), (1, (QV m ts K))] _ _ _)
 refine wp_cond_false (S4.bool 0 29 rfl) ?_
 refine wq [.val (QV m ts K), kT, kF, kF] [.inr 0, .inr 1] [.inl 3, .inr 1, .inr 2] S4 ?_ ?_
 ·apply jj4
  ·exact mS 2 1
  ·exact ch1 wA (qO 0 39 rfl) (yak _) (fun w u h => mayb_t w u m K ts h hm (by omega) lt (fun i hi => ok i (by omega)))
  ·exact yie wA (oO 1 40)
  ·exact mO 2 41
 intro _ a5 _ (S5 : Sta w 95 [(5, (ydg)), (7, (ydn w n Bm))] [(38, bF), (0, Mv n Bm Kb), (1, (QV m ts K))] _ _ _)
 refine wp_cond_false (S5.bool 0 38 rfl) (wp_skip (inBlkN (thenN ?_)))
 refine wq [.val (QV m ts K), .val ((TWO (VN m (tlL ts (cmN ts m))) (ZN (((cmN ts m : Nat) : Int)))) w.heap.size), .val ((TWO (VN m (tlL ts (cmN ts m))) (ZN (((cmN ts m : Nat) : Int)))) w.heap.size), .val ((VN m (tlL ts (cmN ts m))) w.heap.size), .val ((ZN (((cmN ts m : Nat) : Int))) w.heap.size), .new (.box 26 zI), .val ((VN m (tlL ts (cmN ts m))) w.heap.size), .put (.inr 5) (yee w m ts)] [.inr 0, .inr 1, .inl 5] [.inl 6, .inr 1] S5 ?_ ?_
 ·repeat' refine And.intro ?_ ?_
  ·trivial
  ·exact mS 2 1
  ·exact ch1 wA (qO 0 44 rfl) (ybo fresh_vn (ya1 _)) (fun w u h => whol_w w u m K ts h hm hK lt ok hS)
  ·exact mO 1 45
  ·exact e20 wA (oO 2 43)
  ·exact e21 wA (oO 2 43)
  ·exact yat rfl wA rfl rfl (fun ρ w => ybi ρ _ w)
  ·exact mO 3 46
  ·exact ybj 5 rfl wA rfl (by kernel_rfl) rfl (oO 4 47) (yaf yaj ycn ya0) rfl
 intro _ a6 _ (S6 : Sta w 95 [(5, (ydg)), (7, (ydn w n Bm)), (10, (yee w m ts))] [(9, ((VN m (tlL ts (cmN ts m))) w.heap.size)), (0, Mv n Bm Kb)] _ _ _)
 refine wq [.val (SF [((VN (n + 1) (gwD Bm n)) w.heap.size), ((MN n (gwL Bm n)) w.heap.size)]), .val (Mv n Bm Kb), .val ((VN m (tlL ts (cmN ts m))) w.heap.size), .val ((TWO (VN n (lfL (gwD Bm n) (gwL Bm n) Bm (tlL ts (cmN ts m)) n)) (ZN (tk (gwD Bm n) (lfL (gwD Bm n) (gwL Bm n) Bm (tlL ts (cmN ts m)) n) (lfL (gwD Bm n) (gwL Bm n) Bm (tlL ts (cmN ts m)) n) (dotR (tlL ts (cmN ts m)) (tlL ts (cmN ts m))) n))) w.heap.size), .val ((TWO (VN n (lfL (gwD Bm n) (gwL Bm n) Bm (tlL ts (cmN ts m)) n)) (ZN (tk (gwD Bm n) (lfL (gwD Bm n) (gwL Bm n) Bm (tlL ts (cmN ts m)) n) (lfL (gwD Bm n) (gwL Bm n) Bm (tlL ts (cmN ts m)) n) (dotR (tlL ts (cmN ts m)) (tlL ts (cmN ts m))) n))) w.heap.size), .val (ykb w n m Bm ts), .val ((ZN (tk (gwD Bm n) (lfL (gwD Bm n) (gwL Bm n) Bm (tlL ts (cmN ts m)) n) (lfL (gwD Bm n) (gwL Bm n) Bm (tlL ts (cmN ts m)) n) (dotR (tlL ts (cmN ts m)) (tlL ts (cmN ts m))) n)) w.heap.size), .new (.box 26 zI), .val (ykb w n m Bm ts), .put (.inr 7) (yek w n m Bm ts)] [.inr 0, .inr 1, .inr 2, .inl 7] [.inl 8, .inr 1] S6 ?_ ?_
 ·repeat' refine And.intro ?_ ?_
  ·trivial
  ·exact lod 1 wA (yau ybl yb1)
  ·exact mS 1 0
  ·exact mS 0 9
  ·exact ch3 wA ((qO 0 49 rfl).imp (yqs (yju dD2) (mn_mv dL2))) ((qO 1 50 rfl).imp (mv_mono hKb)) ((qO 2 51 rfl).imp (yju dT)) (ybo fresh_vn (ya1 _)) (fun w u v t h1 h2 h3 => left_w w u v t n n m KL (gwD Bm n) (gwL Bm n) Bm (tlL ts (cmN ts m)) h1 h2 h3 (Nat.le_refl _) (by omega) hm (by omega) hgl.2 lB (fun j hj => yis Bm n j hj) (fun j hj => by rw [hrx j hj, hm2]) hlf)
  ·exact mO 3 52
  ·exact e20 wA (oO 4 48)
  ·exact e21 wA (oO 4 48)
  ·exact yat rfl wA rfl rfl (fun ρ w => ybi ρ _ w)
  ·exact mO 5 53
  ·exact ybj 7 rfl wA rfl (by kernel_rfl) rfl (oO 6 54) (yaf yaj ycn ya0) rfl
 intro _ a7 _ (S7 : Sta w 95 [(5, (ydg)), (7, (ydn w n Bm)), (10, (yee w m ts)), (12, (yek w n m Bm ts))] [(11, (ykb w n m Bm ts)), (0, Mv n Bm Kb)] _ _ _)
 refine wq [.val (Part a7 7 0), .val ((VN (n + 1) (gwD Bm n)) w.heap.size), .val (Mv n Bm Kb), .val (iV (n : Nat)), .val (AtE 2 ((ZN ((gwD Bm n).getD n 0)) w.heap.size)), .val ((ZN ((gwD Bm n).getD n 0)) w.heap.size), .val ((ZN (((cmN ts m : Nat) : Int))) w.heap.size), .val ((ZN (((dn * cmN ts m : Nat) : Int))) w.heap.size), .new (.box 26 zI), .put (.inr 8) (yev w m ts dn)] [.inr 0, .inr 1, .inr 2, .inr 3, .inl 8] [.inr 0, .inr 1] S7 ?_ ?_
 ·repeat' refine And.intro ?_ ?_
  ·trivial
  ·exact ya2 rfl wA rfl (k := 1) rfl (by kernel_rfl) rfl (fun ρ w b h => ydz ρ _ _ w b 0 h)
  ·exact yav rfl wA rfl (oO 0 55) (k := 1) rfl (by kernel_rfl) rfl (fun ρ w b u h1 h2 h3 => ploadS rfl yd8 ρ _ _ w b u h1 h2 h3)
  ·exact mS 1 0
  ·exact yal rfl wA rfl (oO 2 57) yaw Tryz.underlying22 rfl
  ·exact yae rfl wA rfl yby ((oO 1 56).imp yg8) (oO 3 58) (yas (· w.heap.size) (yas ZN (gD (by omega)))) rfl
  ·exact yag rfl wA rfl ycp (by decide) (ya5 (by decide) ya0) (oO 4 59) rfl
  ·exact lod 2 wA (yau yaj ya0)
  ·exact cc2 wA (qO 5 60 rfl) (qO 6 61 rfl) (ya1 _) (fun w u0 u1 h0 h1 => Gives.cast (ψ := (ZN (((dn * cmN ts m : Nat) : Int)))) ((fun w u v h1 h2 => ygl (by omega) w u v ((ycy hlD) _ _ h1) ((ycy hcl) _ _ h2)) w u0 u1 h0 h1) (by rw [hdn, Int.natCast_mul]))
  ·exact yat rfl wA rfl rfl (fun ρ w => ybi ρ _ w)
  ·exact ybj 8 rfl wA rfl (by kernel_rfl) rfl (oO 7 62) (yaf yaj ycn ya0) rfl
 intro _ a8 _ (S8 : Sta w 95 [(5, (ydg)), (7, (ydn w n Bm)), (10, (yee w m ts)), (12, (yek w n m Bm ts)), (13, (yev w m ts dn))] [(11, (ykb w n m Bm ts)), (0, Mv n Bm Kb)] _ _ _)
 refine wq [.val (Mv n Bm Kb), .val (iV (n : Nat)), .new (.row 28 4 n (CE 4 (List.replicate n zR))), .ref 2] [.inr 0, .inr 1, .inr 2, .inr 3, .inr 4, .inl 3] [.inr 0] S8 ?_ ?_
 ·apply jj4
  ·exact mS 1 0
  ·exact yal rfl wA rfl (oO 0 63) yaw Tryz.underlying22 rfl
  ·exact yfn rfl wA rfl Tryz.underlying23 infoRat celv_r0 (by decide) (oO 1 64) ⟨by omega, by unfold maxLen; omega⟩ rfl
  ·exact yea 2 rfl wA (Or.inr rfl) (by kernel_rfl) rfl rfl
 intro _ a9 _ (S9 : Sta w 95 [(5, (ydg)), (7, (ydn w n Bm)), (10, (yee w m ts)), (12, (yek w n m Bm ts)), (13, (yev w m ts dn)), (14, (.row 28 4 n (CE 4 (List.replicate n zR))))] [(11, (ykb w n m Bm ts))] _ _ _)
 refine wp_seq ?_
 refine wq [.val (SF [((VN (n + 1) (gwD Bm n)) w.heap.size), ((MN n (gwL Bm n)) w.heap.size)]), .val (ykb w n m Bm ts), .val ((VN n X) w.heap.size), .val (iV (n : Nat)), .val (iV 0)] [.inr 0, .inr 1, .inr 2, .inr 3, .inr 4, .inr 5] [.inl 2, .inl 3, .inl 4] S9 ?_ ?_
 ·apply jj5
  ·exact lod 1 wA (yau ybl yb1)
  ·exact mS 0 11
  ·exact ch2 wA ((qO 0 66 rfl).imp (yqs (yju dD2) (mn_mv dL2))) ((qO 1 67 rfl).imp (yju dlf)) fresh_vn (fun w u v h1 h2 => solv_w w u v n KL (gwD Bm n) (lfL (gwD Bm n) (gwL Bm n) Bm (tlL ts (cmN ts m)) n) X (gwL Bm n) h1 h2 h12 (by omega) hgl.1 hgl.2 (yg7 _ _ _ _ _) lX dX dD2 dlf dL2 (fun j hj => yis Bm n j hj) (fun i hi => by have q := dN_eq gd (i := i + 1) (by omega); have q1 := q.1; have q2 := q.2; omega) hx)
  ·exact yal rfl wA rfl (oO 2 68) yj5 Tryz.underlying39 rfl
  ·exact mC
 intro B10 a10 _ (S10 : Sta w 95 [(5, (ydg)), (7, (ydn w n Bm)), (10, (yee w m ts)), (12, (yek w n m Bm ts)), (13, (yev w m ts dn)), (14, (.row 28 4 n (CE 4 (List.replicate n zR))))] [(68, ((VN n X) w.heap.size)), (69, iV (n : Nat)), (70, iV 0)] _ _ _)
 refine wp_block ?_
 refine yan (fun (k0 : Nat) a W => (k0 ≤ n) ∧ ∃ Bq, Sta w 95 [(5, (ydg)), (7, (ydn w n Bm)), (10, (yee w m ts)), (12, (yek w n m Bm ts)), (13, (yev w m ts dn)), (14, (ym8 w n m ts dn X k0))] [(68, ((VN n X) w.heap.size)), (69, iV (n : Nat)), (70, iV (k0 : Nat))] Bq a W) (fun (k0 : Nat) => n - k0) ?_ 0 ⟨Nat.zero_le _, B10, S10.sub [0, 1, 2, 3, 4, 5] [0, 1, 2]⟩
 rintro k0 a11 _ ⟨hcond, _, S11⟩
 by_cases hlt : k0 < n
 ·have hxk : (digs (X.getD k0 0).natAbs).length ≤ KL := ydc dX _
  have hset := yl0 (z := Is (.agg #[.bool false, .slice none 0 0, .bool false, .slice none 0 0])) (xs := ((X.map (fun x => QQ x (dn * cmN ts m))).map (· w.heap.size))) (n := n) (by simp [lX]) (yas (· w.heap.size) (yas (fun x => QQ x (dn * cmN ts m)) (gD (l := X) (d := 0) (show k0 < X.length by omega))))
  refine wq [kT] [.inr 0, .inr 1, .inr 2, .inr 3, .inr 4, .inr 5] [.inl 0, .inr 0, .inr 1, .inr 2] S11 ?_ ?_
  ·apply jj1
   ·exact yar wA (oS 2 70) (oS 1 69)
  intro B12 a12 W12 (S12 : Sta w 95 [(5, (ydg)), (7, (ydn w n Bm)), (10, (yee w m ts)), (12, (yek w n m Bm ts)), (13, (yev w m ts dn)), (14, (ym8 w n m ts dn X k0))] [(71, bT), (68, ((VN n X) w.heap.size)), (69, iV (n : Nat)), (70, iV (k0 : Nat))] _ _ _)
  refine wp_seq (wp_cond_true (S12.bool 0 71 rfl) (wp_skip (thenN (wp_seq (wp_block ?_)))))
  refine wq [.val (iV (k0 : Nat)), .val (AtE 2 ((ZN (X.getD k0 0)) w.heap.size)), .val ((ZN (X.getD k0 0)) w.heap.size), .new (.box 26 zI), .val (iV (k0 : Nat)), .put (.inr 3) (.box 26 ((ZN (X.getD k0 0)) w.heap.size))] [.inr 0, .inr 1, .inr 2, .inr 3, .inr 4, .inr 5, .inl 3] [.inl 4, .inr 1, .inr 2, .inr 3] S12 ?_ ?_
  ·apply jj6
   ·exact mS 3 70
   ·exact yae rfl wA rfl yby ((oS 1 68).imp yg8) (oS 3 70) (yas (· w.heap.size) (yas ZN (gD (by omega)))) rfl
   ·exact yag rfl wA rfl ycp (by decide) (ya5 (by decide) ya0) (oO 1 73) rfl
   ·exact yat rfl wA rfl rfl (fun ρ w => ybi ρ _ w)
   ·exact mO 0 72
   ·exact ybj 3 rfl wA rfl (by kernel_rfl) rfl (oO 2 74) (yaf yaj ycn ya0) rfl
  intro B13 a13 W13 (S13 : Sta w 95 [(5, (ydg)), (7, (ydn w n Bm)), (10, (yee w m ts)), (12, (yek w n m Bm ts)), (13, (yev w m ts dn)), (14, (ym8 w n m ts dn X k0)), (16, (.box 26 ((ZN (X.getD k0 0)) w.heap.size)))] [(15, iV (k0 : Nat)), (68, ((VN n X) w.heap.size)), (69, iV (n : Nat)), (70, iV (k0 : Nat))] _ _ _)
  refine wr [.val (Is (a13.eval (.tmp 14))), .val (iV (k0 : Nat)), .val ((ZN (X.getD k0 0)) w.heap.size), .val ((ZN (((dn * cmN ts m : Nat) : Int))) w.heap.size), .val ((TWO (QQ (X.getD k0 0) (dn * cmN ts m)) (IS (.int .i64 0))) w.heap.size), .val ((TWO (QQ (X.getD k0 0) (dn * cmN ts m)) (IS (.int .i64 0))) w.heap.size), .val ((QQ (X.getD k0 0) (dn * cmN ts m)) w.heap.size), .val (iV 0), .val (REt a13 14 (4 * k0)), .put (.inl 14) (q4e088 w n m ts dn X k0)] [.inr 0, .inr 1, .inr 2, .inr 3, .inr 4, .inr 5] [.inr 1, .inr 2, .inr 3] S13 ?_ ?_
  ·repeat' refine And.intro ?_ ?_
   ·trivial
   ·exact yct rfl wA (Or.inl rfl) (by kernel_rfl) rfl
   ·exact mS 0 15
   ·exact lod 6 wA (yau yaj ya0)
   ·exact lod 4 wA (yau yaj ya0)
   ·exact cc2 wA (qO 2 78 rfl) (qO 3 79 rfl) (ybo (ybh _ _) (yak _)) (fun w u v h1 h2 => ymr hdm (by omega) (by omega) w u v ((ycy hxk) _ _ h1) ((ycy hl1) _ _ h2))
   ·exact mO 4 80
   ·exact e20 wA (oO 5 75)
   ·exact e21 wA (oO 5 75)
   ·exact ycs rfl wA rfl ybs (oO 0 76) (k := 5) rfl (by kernel_rfl) (oO 1 77) hlt rfl
   ·exact yeb rfl wA rfl yqx (by decide) (oO 8 83) (k := 5) rfl (by kernel_rfl) (oO 6 81) (ya5 (by decide) ya6) hlt (by rw [hset]; rfl)
  intro B14 a14 W14 (S14 : Sta w 95 [(5, (ydg)), (7, (ydn w n Bm)), (10, (yee w m ts)), (12, (yek w n m Bm ts)), (13, (yev w m ts dn)), (14, (q4e088 w n m ts dn X k0))] [(68, ((VN n X) w.heap.size)), (69, iV (n : Nat)), (70, iV (k0 : Nat))] _ _ _)
  refine inBlkN (thenN ?_)
  refine wr [.val (iV (k0 + 1 : Nat)), .val (iV (k0 + 1 : Nat))] [.inr 0, .inr 1, .inr 2, .inr 3, .inr 4, .inr 5] [.inl 1, .inr 0, .inr 1] S14 ?_ ?_
  ·apply jj2
   ·exact ya3 wA (oS 2 70) (yaa _)
   ·exact mO 0 84
  intro B15 a15 W15 (S15 : Sta w 95 [(5, (ydg)), (7, (ydn w n Bm)), (10, (yee w m ts)), (12, (yek w n m Bm ts)), (13, (yev w m ts dn)), (14, (q4e088 w n m ts dn X k0))] [(70, iV (k0 + 1 : Nat)), (68, ((VN n X) w.heap.size)), (69, iV (n : Nat))] _ _ _)
  refine thenN ?_
  exact ⟨k0 + 1, ⟨by omega, B15, S15.sub [0, 1, 2, 3, 4, 5] [1, 2, 0]⟩, by omega⟩
 ·have hend := yky (z := Is (.agg #[.bool false, .slice none 0 0, .bool false, .slice none 0 0])) (xs := ((X.map (fun x => QQ x (dn * cmN ts m))).map (· w.heap.size))) (n := n) (k := k0) (by simp [lX]) (by omega)
  refine wq [kF] [.inr 0, .inr 1, .inr 2, .inr 3, .inr 4, .inr 5] [.inl 0, .inr 0, .inr 1, .inr 2] S11 ?_ ?_
  ·apply jj1
   ·exact yaz wA (oS 2 70) (oS 1 69)
  intro B12 a12 W12 (S12 : Sta w 95 [(5, (ydg)), (7, (ydn w n Bm)), (10, (yee w m ts)), (12, (yek w n m Bm ts)), (13, (yev w m ts dn)), (14, (ym8 w n m ts dn X k0))] [(71, bF), (68, ((VN n X) w.heap.size)), (69, iV (n : Nat)), (70, iV (k0 : Nat))] _ _ _)
  refine wp_seq (wp_cond_false (S12.bool 0 71 rfl) (wp_exit (thenX (thenX (inBlkE (thenN ?_))))))
  refine wq [.val ((ZN (tk (gwD Bm n) (lfL (gwD Bm n) (gwL Bm n) Bm (tlL ts (cmN ts m)) n) (lfL (gwD Bm n) (gwL Bm n) Bm (tlL ts (cmN ts m)) n) (dotR (tlL ts (cmN ts m)) (tlL ts (cmN ts m))) n)) w.heap.size), .val ((ZN (((dn * cmN ts m : Nat) : Int))) w.heap.size), .val ((ZN (((cmN ts m : Nat) : Int))) w.heap.size), .val ((ZN (((dn * cmN ts m * cmN ts m : Nat) : Int))) w.heap.size), .val ((TWO (QQ (tk (gwD Bm n) (lfL (gwD Bm n) (gwL Bm n) Bm (tlL ts (cmN ts m)) n) (lfL (gwD Bm n) (gwL Bm n) Bm (tlL ts (cmN ts m)) n) (dotR (tlL ts (cmN ts m)) (tlL ts (cmN ts m))) n) (dn * cmN ts m * cmN ts m)) (IS (.int .i64 0))) w.heap.size), .val ((TWO (QQ (tk (gwD Bm n) (lfL (gwD Bm n) (gwL Bm n) Bm (tlL ts (cmN ts m)) n) (lfL (gwD Bm n) (gwL Bm n) Bm (tlL ts (cmN ts m)) n) (dotR (tlL ts (cmN ts m)) (tlL ts (cmN ts m))) n) (dn * cmN ts m * cmN ts m)) (IS (.int .i64 0))) w.heap.size), .val (yi7 w n m Bm ts dn), .val (iV 0), .new (ydg), .put (.inr 8) (.box 28 (yi7 w n m Bm ts dn)), .val (iV 0)] [.inr 0, .inr 1, .inr 2, .inr 3, .inr 4, .inr 5, .inl 8] [.inr 1, .inr 2, .inr 3] S12 ?_ ?_
  ·repeat' refine And.intro ?_ ?_
   ·trivial
   ·exact lod 3 wA (yau yaj ya0)
   ·exact lod 4 wA (yau yaj ya0)
   ·exact lod 2 wA (yau yaj ya0)
   ·exact cc2 wA (qO 1 87 rfl) (qO 2 88 rfl) (ya1 _) (fun w u0 u1 h0 h1 => Gives.cast (ψ := (ZN (((dn * cmN ts m * cmN ts m : Nat) : Int)))) ((fun w u v h1 h2 => ygl (by omega) w u v ((ycy hl1) _ _ h1) ((ycy hcl) _ _ h2)) w u0 u1 h0 h1) (by rw [Int.natCast_mul (dn * cmN ts m)]))
   ·exact cc2 wA (qO 0 86 rfl) (qO 3 89 rfl) (ybo (ybh _ _) (yak _)) (fun w u v h1 h2 => ymr hdmm (by omega) (by omega) w u v ((ycy hdd) _ _ h1) ((ycy hl2) _ _ h2))
   ·exact mO 4 90
   ·exact e20 wA (oO 5 85)
   ·exact e21 wA (oO 5 85)
   ·exact yat rfl wA rfl rfl (fun ρ w => ybd ρ _ w)
   ·exact ybj 8 rfl wA rfl (by kernel_rfl) rfl (oO 6 91) (yaf yah ybr ya6) rfl
   ·exact mO 7 92
  intro B13 a13 W13 (S13 : Sta w 95 [(5, (ydg)), (7, (ydn w n Bm)), (10, (yee w m ts)), (12, (yek w n m Bm ts)), (13, (yev w m ts dn)), (14, (ym8 w n m ts dn X k0)), (17, (.box 28 (yi7 w n m Bm ts dn)))] [(68, ((VN n X) w.heap.size)), (69, iV (n : Nat)), (70, iV (k0 : Nat))] _ _ _)
  obtain ⟨B14, S14⟩ : ∃ Bq, Sta w 95 [(5, (ydg)), (7, (ydn w n Bm)), (10, (yee w m ts)), (12, (yek w n m Bm ts)), (13, (yev w m ts dn)), (17, (.box 28 (yi7 w n m Bm ts dn)))] [(14, ((LF 4 n (X.map (fun x => QQ x (dn * cmN ts m)))) w.heap.size)), (68, ((VN n X) w.heap.size)), (69, iV (n : Nat)), (70, iV (k0 : Nat))] Bq a13 W13 := ⟨_, S13.freeze 5 rfl (by simp) (fun v w' xs ho hc => ydi (by decide) v w' xs ho (by rw [hend] at hc; exact hc))⟩
  obtain ⟨a14, W14, e1, e2⟩ : ∃ a W, a13 = a ∧ W13 = W := ⟨_, _, rfl, rfl⟩
  rw [e1, e2] at S14 ⊢
  clear e1 e2
  refine wq [.val ((LF 4 n (X.map (fun x => QQ x (dn * cmN ts m)))) w.heap.size), .val (yi7 w n m Bm ts dn), .val ((LF 4 n (X.map (fun x => QQ x (dn * cmN ts m)))) w.heap.size), .put (.inl 5) (.box 28 (yi7 w n m Bm ts dn)), .val (iV 0)] [.inr 0, .inr 1, .inr 2, .inr 3, .inr 4] [.inl 2, .inl 4, .inr 0, .inr 1, .inr 2, .inr 3] S14 ?_ ?_
  ·apply jj5
   ·exact mS 0 14
   ·exact lod 5 wA (yau yah ya6)
   ·exact mO 0 93
   ·exact ya7 rfl wA rfl (k := 0) rfl (by kernel_rfl) (oO 1 94) (yaf yah ybr ya6) rfl
   ·exact mC
  intro B15 a15 W15 (S15 : Sta w 95 [(5, (.box 28 (yi7 w n m Bm ts dn))), (7, (ydn w n Bm)), (10, (yee w m ts)), (12, (yek w n m Bm ts)), (13, (yev w m ts dn))] [(4, ((LF 4 n (X.map (fun x => QQ x (dn * cmN ts m)))) w.heap.size)), (6, iV 0), (14, ((LF 4 n (X.map (fun x => QQ x (dn * cmN ts m)))) w.heap.size)), (68, ((VN n X) w.heap.size)), (69, iV (n : Nat)), (70, iV (k0 : Nat))] _ _ _)
  refine wp_ret ?_
  exact yc2 S15 rfl (yay S15 0 4 rfl) (ybb S15 0 5 rfl yah ya6) (yay S15 1 6 rfl)
end Go.Proofs.YtdiagoaakadniaaGreat
