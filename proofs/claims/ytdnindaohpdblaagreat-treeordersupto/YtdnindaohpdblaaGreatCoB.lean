import Derived.Test.YtdnindaohpdblaaGreatJaB
set_option linter.all false
namespace Go.Proofs.YtdnindaohpdblaaGreat
open Go Go.RowKit Nt
set_option maxRecDepth 20000
set_option maxHeartbeats 16000000
abbrev yr1 (w : World) (ts : List (Int × Int)) (k0 : Nat) : Pr := (ZN ((((ts.getD k0 (0, 0)).2.toNat / Nat.gcd (cmN ts k0) (ts.getD k0 (0, 0)).2.toNat : Nat) : Int))) w.heap.size
theorem yzw (w : World) (u : Value) (n K : Nat) (ts : List (Int × Int)) (h : Hs w (QV n ts K) u) (hn : n ≤ 1048576) (hK : K ≤ 1048576) (lt : ts.length = n) (ok : DenOk ts) (hS : dsum ts n ≤ 4194304) :
  CG 115 #[u] w (ZN (((cmN ts n : Nat) : Int))) := by
 refine yap (sl := [(0, (QV n ts K))]) Tryz.func115 rfl Tryz.ntmps115 (by simp) (yai rfl (h) yat) ?_
 intro a0 S0
 refine wq [.new (.box 24 zI)] [.inl 0] [.inr 0] S0 ?_ ?_
 ·exact jj1 (nwA wA yal)
 intro _ a1 _ (S1 : Zt [_] [_])
 refine wq [Fw (ZN (((cmN ts 0 : Nat) : Int))) w, .new (.box 24 zI), .put (.inr 1) (.box 24 ((ZN (((cmN ts 0 : Nat) : Int))) w.heap.size))] [.inr 0, .inl 1] [.inr 0] S1 ?_ ?_
 ·exact jj3 (cc1 wA (yac _) (yaf _) (fun w u0 h0 => Gives.cast (ψ := (ZN (((cmN ts 0 : Nat) : Int)))) ((yio (1) (by omega) (by omega)) w u0 h0) (by rw [show ((cmN ts 0 : Nat) : Int) = 1 from rfl]))) (nwA wA yal) (puA 1 wA (oO 0 8) yab yau yae)
 intro _ a2 _ (S2 : Zt [_,_] [_])
 refine wp_seq ?_
 refine wq [V (QV n ts K), V (iV (n : Nat)), V (iV 0)] ur2 [.inl 0, .inl 1, .inl 2] S2 ?_ ?_
 ·exact jj3 (mS 0 0) (lnA wA (oO 0 9) Tryz.underlying39) mC
 intro B3 a3 _ (S3 : Zt [_,_] [_,_,_])
 refine wp_block ?_
 refine ycd (fun (k0 : Nat) a W => (k0 ≤ n) ∧ ∃ Bq, Sta w 30 [(2, (.box 24 zI)), (3, (.box 24 ((ZN (((cmN ts k0 : Nat) : Int))) w.heap.size)))] [(9, (QV n ts K)), (10, iV (n : Nat)), (11, iV (k0 : Nat))] Bq a W) (fun (k0 : Nat) => n - k0) ?_ 0 ⟨zd7 _, B3, S3.sub [0, 1] [0, 1, 2]⟩
 rintro k0 a4 _ ⟨hcond, _, S4⟩
 by_cases hlt : k0 < n
 ·have hd := ok k0 (by omega)
  have hds := ylb ts (show k0 ≤ n by omega)
  have hq := (za0 h.now (i := k0) (by omega)).2
  have hcl : (digs (((cmN ts k0 : Nat) : Int)).natAbs).length ≤ 4194304 := by rw [zd0]; exact zdf (yk8 ok k0 (by omega)) (by omega)
  have hde : (ts.getD k0 (0, 0)).2 = (((ts.getD k0 (0, 0)).2.toNat : Nat) : Int) := by omega
  have hg0 : Nat.gcd (cmN ts k0) (ts.getD k0 (0, 0)).2.toNat ≠ 0 := fun e => by have := yvy (cmN ts k0) (ts.getD k0 (0, 0)).2.toNat; rw [e, Nat.zero_mul] at this; omega
  obtain ⟨hgf, hgr⟩ := yvu hg0 (zft (cmN ts k0) (ts.getD k0 (0, 0)).2.toNat)
  rw [← hde] at hgf hgr
  have hgl : (digs (((Nat.gcd (cmN ts k0) (ts.getD k0 (0, 0)).2.toNat : Nat) : Int)).natAbs).length ≤ K := by rw [zd0]; exact zdf (yag (zdf (Nat.gcd_le_right _ (by omega)) (by omega))) hq
  have hql : (digs ((((ts.getD k0 (0, 0)).2.toNat / Nat.gcd (cmN ts k0) (ts.getD k0 (0, 0)).2.toNat : Nat) : Int)).natAbs).length ≤ K := by rw [zd0]; exact zdf (yag (zdf (zef _ _) (by omega))) hq
  refine wq [kT] ur2 (.inl 0 :: ur3) S4 ?_ ?_
  ·exact jj1 (ybu wA (oS 2 11) (oS 1 10))
  intro B5 a5 W5 (S5 : Zt [_,_] [_,_,_,_])
  refine wp_seq (wp_cond_true (S5.bool 0 12 rfl) (wp_skip (thenN (wp_seq (wp_block ?_)))))
  refine wq [V (AtE 4 (PR (Zv ((ts.getD k0 (0, 0)).1) K) (Zv ((ts.getD k0 (0, 0)).2) K))), V (PR (Zv ((ts.getD k0 (0, 0)).1) K) (Zv ((ts.getD k0 (0, 0)).2) K)), .new (.box 26 zR), .put (.inr 2) (.box 26 (PR (Zv ((ts.getD k0 (0, 0)).1) K) (Zv ((ts.getD k0 (0, 0)).2) K)))] [.inr 0, .inr 1, .inl 2] [.inr 1, .inr 2, .inr 3] S5 ?_ ?_
  ·exact jj4 (axA wA yj1 (oS 1 9) (oS 3 11) (yus (by omega)) rfl) (alC wA ye0 (yay yaj yaj) (oO 0 13)) (nwA wA yb4) (puA 2 wA (oO 1 14) yas yd7 (yay yaj yaj))
  intro B6 a6 W6 (S6 : Zt [_,_,_] [_,_,_])
  refine wq [V (Part a6 5 2), V (Zv ((ts.getD k0 (0, 0)).2) K), Fw (ZN (((cmN ts k0 : Nat) : Int))) w, V (Part a6 5 2), V (Zv ((ts.getD k0 (0, 0)).2) K), Fw (ZN (((Nat.gcd (cmN ts k0) (ts.getD k0 (0, 0)).2.toNat : Nat) : Int))) w, Fw (TWO (ZN ((((ts.getD k0 (0, 0)).2.toNat / Nat.gcd (cmN ts k0) (ts.getD k0 (0, 0)).2.toNat : Nat) : Int))) (IS (.int .i64 0))) w, Fw (TWO (ZN ((((ts.getD k0 (0, 0)).2.toNat / Nat.gcd (cmN ts k0) (ts.getD k0 (0, 0)).2.toNat : Nat) : Int))) (IS (.int .i64 0))) w, V (yr1 w ts k0), V (iV 0), .new (.box 24 zI), .put (.inr 10) (.box 24 (yr1 w ts k0)), V (iV 0)] [.inr 0, .inr 1, .inl 10] ur3 S6 ?_ ?_
  ·exact ⟨⟨⟨⟨⟨jj8 (ptA wA 2 yco) (plA wA (oO 0 16) 2 rfl rfl ycp) (loA 1 wA yab yae) (ptA wA 2 yco) (plA wA (oO 3 19) 2 rfl rfl ycp) (cc2 wA (qO 2 18 rfl) (qO 4 20 rfl) (yaf _) (fun w u v h1 h2 => Gives.cast (ψ := ZN ((Nat.gcd (cmN ts k0) (ts.getD k0 (0, 0)).2.toNat : Nat) : Int)) (yz5 (by omega) (by omega) w u v ((ya0 hcl) _ _ h1) ((fun _ _ h => h) _ _ h2)) (by rw [zd0, yuh hd]))) (cc2 wA (qO 1 17 rfl) (qO 5 21 rfl) (ybj (yaf _) (yah _)) (fun w u v h1 h2 => Gives.cast (ψ := (TWO (ZN ((((ts.getD k0 (0, 0)).2.toNat / Nat.gcd (cmN ts k0) (ts.getD k0 (0, 0)).2.toNat : Nat) : Int))) (IS (.int .i64 0)))) (yhu (by omega) hgr (by omega) w u v ((fun _ _ h => h) _ _ h1) ((ya0 hgl) _ _ h2)) (by rw [hgf]))) (mO 6 22), e20 wA (oO 7 15)⟩, e21 wA (oO 7 15)⟩, nwA wA yal⟩, puA 10 wA (oO 8 23) yab yau yae⟩, mO 9 24⟩
  intro _ a7 _ (S7 : Zt [_,_,_] [_,_,_])
  refine wr [Fw (ZN (((cmN ts k0 : Nat) : Int))) w, V (yr1 w ts k0), Fw (ZN (((cmN ts (k0 + 1) : Nat) : Int))) w, .put (.inl 3) (.box 24 ((ZN (((cmN ts (k0 + 1) : Nat) : Int))) w.heap.size))] ur2 ur3 S7 ?_ ?_
  ·exact jj4 (loA 1 wA yab yae) (loA 2 wA yab yae) (cc2 wA (qO 0 25 rfl) (qO 1 26 rfl) (yaf _) (fun w u0 u1 h0 h1 => Gives.cast (ψ := (ZN (((cmN ts (k0 + 1) : Nat) : Int)))) ((fun w u v h1 h2 => yc5 (by omega) w u v ((ya0 hcl) _ _ h1) ((ya0 hql) _ _ h2)) w u0 u1 h0 h1) (by rw [cmN, zd2]))) (seA 1 wA (oO 2 27) yab yae yae)
  intro _ a8 _ (S8 : Zt [_,_] [_,_,_])
  refine inBlkN (thenN ?_)
  refine wr [V (iV (k0 + 1 : Nat)), V (iV (k0 + 1 : Nat))] ur2 (.inl 1 :: ur2) S8 ?_ ?_
  ·exact jj2 (ybc wA (oS 2 11) (yac _)) (mO 0 28)
  intro B9 a9 _ (S9 : Zt [_,_] [_,_,_])
  refine thenN ?_
  exact ⟨k0 + 1, ⟨by omega, B9, S9.sub [0, 1] [1, 2, 0]⟩, by omega⟩
 ·have ek : k0 = n := by omega
  rw [ek] at S4
  refine wq [kF] ur2 (.inl 0 :: ur3) S4 ?_ ?_
  ·exact jj1 (ya8 wA (oS 2 11) (oS 1 10))
  intro B5 a5 W5 (S5 : Zt [_,_] [_,_,_,_])
  refine wp_seq (wp_cond_false (S5.bool 0 12 rfl) (wp_exit (thenX (thenX (inBlkE (thenN ?_))))))
  refine wq [Fw (ZN (((cmN ts n : Nat) : Int))) w, .put (.inl 2) (.box 24 ((ZN (((cmN ts n : Nat) : Int))) w.heap.size))] ur2 [.inr 1, .inr 2, .inr 3] S5 ?_ ?_
  ·exact jj2 (loA 1 wA yab yae) (seA 0 wA (oO 0 29) yab yau yae)
  intro B6 a6 W6 (S6 : Zt [_,_] [_,_,_])
  refine wp_ret ?_
  exact ya3 S6 rfl (ya2 S6 0 2 rfl yab yae)
abbrev yl3 (w : World) (n : Nat) (ts : List (Int × Int)) : Rk := .box 24 ((ZN (((cmN ts n : Nat) : Int))) w.heap.size)
abbrev yjc  : Rk := .box 24 zI
theorem ywt (w : World) (u : Value) (n K : Nat) (ts : List (Int × Int)) (h : Hs w (QV n ts K) u) (hn : n ≤ 1048576) (hK : K ≤ 1048576) (lt : ts.length = n) (ok : DenOk ts) (hS : dsum ts n ≤ 4194304) :
  CG 93 #[u] w (TWO (VN n (tlL ts (cmN ts n))) (ZN (((cmN ts n : Nat) : Int)))) := by
 have hcn : (digs (cmN ts n)).length ≤ 4194304 := zdf (yk8 ok n (by omega)) hS
 have hcl : (digs (((cmN ts n : Nat) : Int)).natAbs).length ≤ 4194304 := by rw [zd0]; exact hcn
 refine yap (sl := [(0, (QV n ts K))]) Tryz.func93 rfl Tryz.ntmps93 (by simp) (yai rfl (h) yat) ?_
 intro a0 S0
 refine wq [V (Is (.slice none 0 0)), .new (yjc)] [.inl 1] [.inr 0] S0 ?_ ?_
 ·exact jj2 mC (nwA wA yal)
 intro _ a1 _ (S1 : Zt [_] [_])
 refine wq [V (QV n ts K), Fw (ZN (((cmN ts n : Nat) : Int))) w, .new (yjc), .put (.inr 2) (yl3 w n ts)] [.inr 0, .inl 2] [.inr 0] S1 ?_ ?_
 ·exact jj4 (mS 0 0) (ch1 wA (qO 0 10 rfl) (yaf _) (fun w u h => yzw w u n K ts h hn hK lt ok hS)) (nwA wA yal) (puA 2 wA (oO 1 11) yab yau yae)
 intro _ a2 _ (S2 : Zt [_,_] [_])
 refine wq [V (QV n ts K), V (iV (n : Nat)), .new (.row 24 2 n (CE 2 (List.replicate n zI))), .ref 2] [.inr 0, .inr 1, .inl 3] [.inr 0] S2 ?_ ?_
 ·exact jj4 (mS 0 0) (lnA wA (oO 0 12) Tryz.underlying39) (yh5 rfl wA rfl Tryz.underlying35 infoInt ymv (by decide) (oO 1 13) ⟨by omega, by unfold maxLen; omega⟩ rfl) (ym7 2 rfl wA (Or.inr rfl) (by kernel_rfl) rfl rfl)
 intro _ a3 _ (S3 : Zt [_,_,_] [_])
 refine wp_seq ?_
 refine wq [V (QV n ts K), V (iV (n : Nat)), V (iV 0)] ur3 [.inl 0, .inl 1, .inl 2] S3 ?_ ?_
 ·exact jj3 (mS 0 0) (lnA wA (oO 0 15) Tryz.underlying39) mC
 intro B4 a4 _ (S4 : Zt [_,_,_] [_,_,_])
 refine wp_block ?_
 refine ycd (fun (k0 : Nat) a W => (k0 ≤ n) ∧ ∃ Bq, Sta w 39 [(3, (yjc)), (4, (yl3 w n ts)), (5, (.row 24 2 n (CE 2 ((((tlL ts (cmN ts n)).map ZN).map (· w.heap.size)).take k0 ++ List.replicate (n - k0) zI))))] [(15, (QV n ts K)), (16, iV (n : Nat)), (17, iV (k0 : Nat))] Bq a W) (fun (k0 : Nat) => n - k0) ?_ 0 ⟨zd7 _, B4, S4.sub [0, 1, 2] [0, 1, 2]⟩
 rintro k0 a5 _ ⟨hcond, _, S5⟩
 by_cases hlt : k0 < n
 ·have hd := ok k0 (by omega)
  have hde : (ts.getD k0 (0, 0)).2 = (((ts.getD k0 (0, 0)).2.toNat : Nat) : Int) := by omega
  obtain ⟨hxf, hxr⟩ := yvu (show (ts.getD k0 (0, 0)).2.toNat ≠ 0 by omega) (yvr (ts := ts) n k0 hlt (by omega))
  rw [← hde] at hxf hxr
  have hql : (digs (((cmN ts n / (ts.getD k0 (0, 0)).2.toNat : Nat) : Int)).natAbs).length ≤ 4194304 := by rw [zd0]; exact zdf (yag (zef _ _)) hcn
  have hset := yo0 (z := Is (.agg #[.bool false, .slice none 0 0])) (xs := (((tlL ts (cmN ts n)).map ZN).map (· w.heap.size))) (n := n) (by simp [yo4, lt]) (yf2 (· w.heap.size) (yf2 ZN (ysz (ts := ts) (M := cmN ts n) (show k0 < ts.length by omega))))
  refine wq [kT] ur3 (.inl 0 :: ur3) S5 ?_ ?_
  ·exact jj1 (ybu wA (oS 2 17) (oS 1 16))
  intro B6 a6 W6 (S6 : Zt [_,_,_] [_,_,_,_])
  refine wp_seq (wp_cond_true (S6.bool 0 18 rfl) (wp_skip (thenN (wp_seq (wp_block ?_)))))
  refine wq [V (iV (k0 : Nat)), V (AtE 4 (PR (Zv ((ts.getD k0 (0, 0)).1) K) (Zv ((ts.getD k0 (0, 0)).2) K))), V (PR (Zv ((ts.getD k0 (0, 0)).1) K) (Zv ((ts.getD k0 (0, 0)).2) K)), .new (.box 26 zR), V (iV (k0 : Nat)), .put (.inr 3) (.box 26 (PR (Zv ((ts.getD k0 (0, 0)).1) K) (Zv ((ts.getD k0 (0, 0)).2) K)))] [.inr 0, .inr 1, .inr 2, .inl 3] [.inl 4, .inr 1, .inr 2, .inr 3] S6 ?_ ?_
  ·exact jj6 (mS 3 17) (axA wA yj1 (oS 1 15) (oS 3 17) (yus (by omega)) rfl) (alC wA ye0 (yay yaj yaj) (oO 1 20)) (nwA wA yb4) (mO 0 19) (puA 3 wA (oO 2 21) yas yd7 (yay yaj yaj))
  intro B7 a7 W7 (S7 : Zt [_,_,_,_] [_,_,_,_])
  refine wq [Fw (ZN (((cmN ts n : Nat) : Int))) w, V (Part a7 7 2), V (Zv ((ts.getD k0 (0, 0)).2) K), Fw (TWO (ZN (((cmN ts n / (ts.getD k0 (0, 0)).2.toNat : Nat) : Int))) (IS (.int .i64 0))) w, Fw (TWO (ZN (((cmN ts n / (ts.getD k0 (0, 0)).2.toNat : Nat) : Int))) (IS (.int .i64 0))) w, Fw (ZN (((cmN ts n / (ts.getD k0 (0, 0)).2.toNat : Nat) : Int))) w, V (iV 0), .new (yjc), .put (.inr 7) (.box 24 ((ZN (((cmN ts n / (ts.getD k0 (0, 0)).2.toNat : Nat) : Int))) w.heap.size)), V (iV 0)] [.inr 0, .inr 1, .inr 2, .inr 3, .inl 7] ur4 S7 ?_ ?_
  ·exact ⟨⟨jj8 (loA 1 wA yab yae) (ptA wA 3 yco) (plA wA (oO 1 24) 3 rfl rfl ycp) (cc2 wA (qO 0 23 rfl) (qO 2 25 rfl) (ybj (yaf _) (yah _)) (fun w u v h1 h2 => Gives.cast (ψ := (TWO (ZN (((cmN ts n / (ts.getD k0 (0, 0)).2.toNat : Nat) : Int))) (IS (.int .i64 0)))) (yhu (by omega) hxr (by omega) w u v ((ya0 hcl) _ _ h1) ((fun _ _ h => h) _ _ h2)) (by rw [hxf]))) (mO 3 26) (e20 wA (oO 4 22)) (e21 wA (oO 4 22)) (nwA wA yal), puA 7 wA (oO 5 27) yab yau yae⟩, mO 6 28⟩
  intro B8 a8 W8 (S8 : Zt [_,_,_,_,_] [_,_,_,_])
  refine wr [V (Is (a8.eval (.tmp 5))), V (iV (k0 : Nat)), V (Part a8 7 0), V (Zv ((ts.getD k0 (0, 0)).1) K), Fw (ZN (((cmN ts n / (ts.getD k0 (0, 0)).2.toNat : Nat) : Int))) w, Fw (ZN (((ts.getD k0 (0, 0)).1) * (((cmN ts n / (ts.getD k0 (0, 0)).2.toNat : Nat) : Int)))) w, V (REt a8 5 (2 * k0)), .put (.inl 5) (.row 24 2 n (CE 2 ((((tlL ts (cmN ts n)).map ZN).map (· w.heap.size)).take (k0 + 1) ++ List.replicate (n - (k0 + 1)) zI)))] ur3 [.inr 1, .inr 2, .inr 3] S8 ?_ ?_
  ·repeat' refine And.intro ?_ ?_
   ·trivial
   ·exact yoo rfl wA (Or.inl rfl) (by kernel_rfl) rfl
   ·exact mS 0 6
   ·exact ptZ wA 3 ycx
   ·exact plA wA (oO 2 31) 3 rfl rfl yde
   ·exact loA 4 wA yab yae
   ·exact cc2 wA (qO 3 32 rfl) (qO 4 33 rfl) (yaf _) (fun w u v h1 h2 => yc5 (by omega) w u v ((fun _ _ h => h) _ _ h1) ((ya0 hql) _ _ h2))
   ·exact yh6 rfl wA rfl yb2 (oO 0 29) (k := 2) rfl (by kernel_rfl) (oO 1 30) hlt rfl
   ·exact yh7 rfl wA rfl ygu (by decide) (oO 6 35) (k := 2) rfl (by kernel_rfl) (oO 5 34) (ybf (by decide) yae) hlt (by rw [hset]; rfl)
  intro _ a9 _ (S9 : Zt [_,_,_] [_,_,_])
  refine inBlkN (thenN ?_)
  refine wr [V (iV (k0 + 1 : Nat)), V (iV (k0 + 1 : Nat))] ur3 (.inl 1 :: ur2) S9 ?_ ?_
  ·exact jj2 (ybc wA (oS 2 17) (yac _)) (mO 0 36)
  intro B10 a10 _ (S10 : Zt [_,_,_] [_,_,_])
  refine thenN ?_
  exact ⟨k0 + 1, ⟨by omega, B10, S10.sub [0, 1, 2] [1, 2, 0]⟩, by omega⟩
 ·have hend := yn1 (z := Is (.agg #[.bool false, .slice none 0 0])) (xs := (((tlL ts (cmN ts n)).map ZN).map (· w.heap.size))) (n := n) (k := k0) (by simp [yo4, lt]) (by omega)
  refine wq [kF] ur3 (.inl 0 :: ur3) S5 ?_ ?_
  ·exact jj1 (ya8 wA (oS 2 17) (oS 1 16))
  intro B6 a6 W6 (S6 : Sta w 39 [(3, (yjc)), (4, (yl3 w n ts)), (5, (.row 24 2 n (CE 2 ((((tlL ts (cmN ts n)).map ZN).map (· w.heap.size)).take k0 ++ List.replicate (n - k0) zI))))] [(18, bF), (15, (QV n ts K)), (16, iV (n : Nat)), (17, iV (k0 : Nat))] _ _ _)
  refine wp_seq (wp_cond_false (S6.bool 0 18 rfl) (wp_exit (thenX (thenX (inBlkE (thenN ?_))))))
  obtain ⟨B7, S7⟩ : ∃ Bq, Sta w 39 [(3, (yjc)), (4, (yl3 w n ts))] [(5, ((VN n (tlL ts (cmN ts n))) w.heap.size)), (18, bF), (15, (QV n ts K)), (16, iV (n : Nat)), (17, iV (k0 : Nat))] Bq a6 W6 := ⟨_, S6.freeze 2 rfl (by simp) (fun v w' xs ho hc => yl7 (by decide) v w' xs ho (by rw [hend] at hc; exact hc))⟩
  obtain ⟨a7, W7, e1, e2⟩ : ∃ a W, a6 = a ∧ W6 = W := ⟨_, _, rfl, rfl⟩
  rw [e1, e2] at S7 ⊢
  clear e1 e2
  refine wq [Fw (VN n (tlL ts (cmN ts n))) w, Fw (ZN (((cmN ts n : Nat) : Int))) w, Fw (VN n (tlL ts (cmN ts n))) w, .put (.inl 3) (yl3 w n ts)] ur2 [.inl 2, .inr 0, .inr 2, .inr 3, .inr 4] S7 ?_ ?_
  ·exact jj4 (mS 0 5) (loA 1 wA yab yae) (mO 0 37) (seA 0 wA (oO 1 38) yab yau yae)
  intro B8 a8 W8 (S8 : Zt [_,_] [_,_,_,_,_])
  refine wp_ret ?_
  exact ydo S8 rfl (ya7 S8 0 2 rfl) (ya2 S8 0 3 rfl yab yae)
end Go.Proofs.YtdnindaohpdblaaGreat
