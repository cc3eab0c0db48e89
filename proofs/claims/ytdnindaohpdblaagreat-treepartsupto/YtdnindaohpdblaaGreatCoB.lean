import Derived.Test.YtdnindaohpdblaaGreatJaB
set_option linter.all false
namespace Go.Proofs.YtdnindaohpdblaaGreat
open Go Go.RowKit Nt
set_option maxRecDepth 20000
set_option maxHeartbeats 16000000
abbrev yt7 (w:World)(ts:List (Int × Int))(k0:Nat):Pr:=(ZN ((((ts.getD k0 (0,0)).2.toNat / Nat.gcd (cmN ts k0) (ts.getD k0 (0,0)).2.toNat:Nat):Int))) w.heap.size
theorem zce (w:World)(u:Value)(n K:Nat)(ts:List (Int × Int))(h:Hs w (QV n ts K) u)(hn:n<=1048576)(hK:K<=1048576)(lt:ts.length=n)(ok:DenOk ts)(hS:dsum ts n<=4194304):
  CG 115 #[u] w (ZN (((cmN ts n:Nat):Int))):=by
 refine yak (sl:=[(0,(QV n ts K))]) Tryz.func115 rfl Tryz.ntmps115 (by simp) (yae rfl (h) yao) ?_
 intro a0 S0
 refine wq [.new (.box 24 zI)] [.inl 0] [.inr 0] S0 ?_ ?_
 ·exact jj1 (nwA wA yar)
 intro _ a1 _ (S1:Zt [_] [_])
 refine wq [Fw (ZN (((cmN ts 0:Nat):Int))) w,.new (.box 24 zI),.put (.inr 1) (.box 24 ((ZN (((cmN ts 0:Nat):Int))) w.heap.size))] [.inr 0,.inl 1] [.inr 0] S1 ?_ ?_
 ·exact jj3 (cc1 wA (yaa _) (yah _) (fun w u0 h0=>Gives.cast (ψ:=(ZN (((cmN ts 0:Nat):Int)))) ((yjz (1) (by omega) (by omega)) w u0 h0) (by rw [show ((cmN ts 0:Nat):Int)=1 from rfl]))) (nwA wA yar) (puA 1 wA (oO 0 8) yad ya9 yai)
 intro _ a2 _ (S2:Zt [_,_] [_])
 refine wp_seq ?_
 refine wq [V (QV n ts K),V (iV (n:Nat)),V (iV 0)] ur2 [.inl 0,.inl 1,.inl 2] S2 ?_ ?_
 ·exact jj3 (mS 0 0) (lnA wA (oO 0 9) Tryz.underlying39) mC
 intro B3 a3 _ (S3:Zt [_,_] [_,_,_])
 refine wp_block ?_
 refine ybi (fun (k0:Nat) a W=>(k0<=n)/\∃ Bq,Sta w 30 [(2,(.box 24 zI)),(3,(.box 24 ((ZN (((cmN ts k0:Nat):Int))) w.heap.size)))] [(9,(QV n ts K)),(10,iV (n:Nat)),(11,iV (k0:Nat))] Bq a W) (fun (k0:Nat)=>n-k0) ?_ 0 ⟨zhs _,B3,S3.sub [0,1] [0,1,2]⟩
 rintro k0 a4 _ ⟨hcond,_,S4⟩
 by_cases hlt:k0 < n
 ·have hd:=ok k0 (by omega)
  have hds:=ymm ts (show k0<=n by omega)
  have hq:=(zd8 h.now (i:=k0) (by omega)).2
  have hcl:(digs (((cmN ts k0:Nat):Int)).natAbs).length<=4194304:=by rw [zhy]; exact zhb (yj5 ok k0 (by omega)) (by omega)
  have hde:(ts.getD k0 (0,0)).2=(((ts.getD k0 (0,0)).2.toNat:Nat):Int):=by omega
  have hg0:Nat.gcd (cmN ts k0) (ts.getD k0 (0,0)).2.toNat≠0:=fun e=>by have:=ysu (cmN ts k0) (ts.getD k0 (0,0)).2.toNat; rw [e,Nat.zero_mul] at this; omega
  obtain ⟨hgf,hgr⟩:=yx0 hg0 (zjm (cmN ts k0) (ts.getD k0 (0,0)).2.toNat)
  rw [← hde] at hgf hgr
  have hgl:(digs (((Nat.gcd (cmN ts k0) (ts.getD k0 (0,0)).2.toNat:Nat):Int)).natAbs).length<=K:=by rw [zhy]; exact zhb (yag (zhb (Nat.gcd_le_right _ (by omega)) (by omega))) hq
  have hql:(digs ((((ts.getD k0 (0,0)).2.toNat / Nat.gcd (cmN ts k0) (ts.getD k0 (0,0)).2.toNat:Nat):Int)).natAbs).length<=K:=by rw [zhy]; exact zhb (yag (zhb (zia _ _) (by omega))) hq
  refine wq [kT] ur2 (.inl 0 :: ur3) S4 ?_ ?_
  ·exact jj1 (ya8 wA (oS 2 11) (oS 1 10))
  intro B5 a5 W5 (S5:Zt [_,_] [_,_,_,_])
  refine wp_seq (wp_cond_true (S5.bool 0 12 rfl) (wp_skip (thenN (wp_seq (wp_block ?_)))))
  refine wq [V (AtE 4 (PR (Zv ((ts.getD k0 (0,0)).1) K) (Zv ((ts.getD k0 (0,0)).2) K))),V (PR (Zv ((ts.getD k0 (0,0)).1) K) (Zv ((ts.getD k0 (0,0)).2) K)),.new (.box 26 zR),.put (.inr 2) (.box 26 (PR (Zv ((ts.getD k0 (0,0)).1) K) (Zv ((ts.getD k0 (0,0)).2) K)))] [.inr 0,.inr 1,.inl 2] [.inr 1,.inr 2,.inr 3] S5 ?_ ?_
  ·exact jj4 (axA wA ydd (oS 1 9) (oS 3 11) (ygt (by omega)) rfl) (alC wA yc6 (ybm yan yan) (oO 0 13)) (nwA wA ya3) (puA 2 wA (oO 1 14) yaj ybk (ybm yan yan))
  intro B6 a6 W6 (S6:Zt [_,_,_] [_,_,_])
  refine wq [V (Part a6 5 2),V (Zv ((ts.getD k0 (0,0)).2) K),Fw (ZN (((cmN ts k0:Nat):Int))) w,V (Part a6 5 2),V (Zv ((ts.getD k0 (0,0)).2) K),Fw (ZN (((Nat.gcd (cmN ts k0) (ts.getD k0 (0,0)).2.toNat:Nat):Int))) w,Fw (TWO (ZN ((((ts.getD k0 (0,0)).2.toNat / Nat.gcd (cmN ts k0) (ts.getD k0 (0,0)).2.toNat:Nat):Int))) (IS (.int .i64 0))) w,Fw (TWO (ZN ((((ts.getD k0 (0,0)).2.toNat / Nat.gcd (cmN ts k0) (ts.getD k0 (0,0)).2.toNat:Nat):Int))) (IS (.int .i64 0))) w,V (yt7 w ts k0),V (iV 0),.new (.box 24 zI),.put (.inr 10) (.box 24 (yt7 w ts k0)),V (iV 0)] [.inr 0,.inr 1,.inl 10] ur3 S6 ?_ ?_
  ·exact ⟨⟨⟨⟨⟨jj8 (ptA wA 2 ycg) (plA wA (oO 0 16) 2 rfl rfl ycj) (loA 1 wA yad yai) (ptA wA 2 ycg) (plA wA (oO 3 19) 2 rfl rfl ycj) (cc2 wA (qO 2 18 rfl) (qO 4 20 rfl) (yah _) (fun w u v h1 h2=>Gives.cast (ψ:=ZN ((Nat.gcd (cmN ts k0) (ts.getD k0 (0,0)).2.toNat:Nat):Int)) (zc3 (by omega) (by omega) w u v ((ybf hcl) _ _ h1) ((fun _ _ h=>h) _ _ h2)) (by rw [zhy,ywo hd]))) (cc2 wA (qO 1 17 rfl) (qO 5 21 rfl) (ya5 (yah _) (yab _)) (fun w u v h1 h2=>Gives.cast (ψ:=(TWO (ZN ((((ts.getD k0 (0,0)).2.toNat / Nat.gcd (cmN ts k0) (ts.getD k0 (0,0)).2.toNat:Nat):Int))) (IS (.int .i64 0)))) (yi2 (by omega) hgr (by omega) w u v ((fun _ _ h=>h) _ _ h1) ((ybf hgl) _ _ h2)) (by rw [hgf]))) (mO 6 22),e20 wA (oO 7 15)⟩,e21 wA (oO 7 15)⟩,nwA wA yar⟩,puA 10 wA (oO 8 23) yad ya9 yai⟩,mO 9 24⟩
  intro _ a7 _ (S7:Zt [_,_,_] [_,_,_])
  refine wr [Fw (ZN (((cmN ts k0:Nat):Int))) w,V (yt7 w ts k0),Fw (ZN (((cmN ts (k0+1):Nat):Int))) w,.put (.inl 3) (.box 24 ((ZN (((cmN ts (k0+1):Nat):Int))) w.heap.size))] ur2 ur3 S7 ?_ ?_
  ·exact jj4 (loA 1 wA yad yai) (loA 2 wA yad yai) (cc2 wA (qO 0 25 rfl) (qO 1 26 rfl) (yah _) (fun w u0 u1 h0 h1=>Gives.cast (ψ:=(ZN (((cmN ts (k0+1):Nat):Int)))) ((fun w u v h1 h2=>ydv (by omega) w u v ((ybf hcl) _ _ h1) ((ybf hql) _ _ h2)) w u0 u1 h0 h1) (by rw [cmN,zho]))) (seA 1 wA (oO 2 27) yad yai yai)
  intro _ a8 _ (S8:Zt [_,_] [_,_,_])
  refine inBlkN (thenN ?_)
  refine wr [V (iV (k0+1:Nat)),V (iV (k0+1:Nat))] ur2 (.inl 1 :: ur2) S8 ?_ ?_
  ·exact jj2 (ya7 wA (oS 2 11) (yaa _)) (mO 0 28)
  intro B9 a9 _ (S9:Zt [_,_] [_,_,_])
  refine thenN ?_
  exact ⟨k0+1,⟨by omega,B9,S9.sub [0,1] [1,2,0]⟩,by omega⟩
 ·have ek:k0=n:=by omega
  rw [ek] at S4
  refine wq [kF] ur2 (.inl 0 :: ur3) S4 ?_ ?_
  ·exact jj1 (ybc wA (oS 2 11) (oS 1 10))
  intro B5 a5 W5 (S5:Zt [_,_] [_,_,_,_])
  refine wp_seq (wp_cond_false (S5.bool 0 12 rfl) (wp_exit (thenX (thenX (inBlkE (thenN ?_))))))
  refine wq [Fw (ZN (((cmN ts n:Nat):Int))) w,.put (.inl 2) (.box 24 ((ZN (((cmN ts n:Nat):Int))) w.heap.size))] ur2 [.inr 1,.inr 2,.inr 3] S5 ?_ ?_
  ·exact jj2 (loA 1 wA yad yai) (seA 0 wA (oO 0 29) yad ya9 yai)
  intro B6 a6 W6 (S6:Zt [_,_] [_,_,_])
  refine wp_ret ?_
  exact yav S6 rfl (ybb S6 0 2 rfl yad yai)
abbrev ynf (w:World)(n:Nat)(ts:List (Int × Int)):Rk:=.box 24 ((ZN (((cmN ts n:Nat):Int))) w.heap.size)
abbrev ykp  : Rk:=.box 24 zI
theorem yy8 (w:World)(u:Value)(n K:Nat)(ts:List (Int × Int))(h:Hs w (QV n ts K) u)(hn:n<=1048576)(hK:K<=1048576)(lt:ts.length=n)(ok:DenOk ts)(hS:dsum ts n<=4194304):
  CG 93 #[u] w (TWO (VN n (tlL ts (cmN ts n))) (ZN (((cmN ts n:Nat):Int)))):=by
 have hcn:(digs (cmN ts n)).length<=4194304:=zhb (yj5 ok n (by omega)) hS
 have hcl:(digs (((cmN ts n:Nat):Int)).natAbs).length<=4194304:=by rw [zhy]; exact hcn
 refine yak (sl:=[(0,(QV n ts K))]) Tryz.func93 rfl Tryz.ntmps93 (by simp) (yae rfl (h) yao) ?_
 intro a0 S0
 refine wq [V (Is (.slice none 0 0)),.new (ykp)] [.inl 1] [.inr 0] S0 ?_ ?_
 ·exact jj2 mC (nwA wA yar)
 intro _ a1 _ (S1:Zt [_] [_])
 refine wq [V (QV n ts K),Fw (ZN (((cmN ts n:Nat):Int))) w,.new (ykp),.put (.inr 2) (ynf w n ts)] [.inr 0,.inl 2] [.inr 0] S1 ?_ ?_
 ·exact jj4 (mS 0 0) (ch1 wA (qO 0 10 rfl) (yah _) (fun w u h=>zce w u n K ts h hn hK lt ok hS)) (nwA wA yar) (puA 2 wA (oO 1 11) yad ya9 yai)
 intro _ a2 _ (S2:Zt [_,_] [_])
 refine wq [V (QV n ts K),V (iV (n:Nat)),.new (.row 24 2 n (CE 2 (List.replicate n zI))),.ref 2] [.inr 0,.inr 1,.inl 3] [.inr 0] S2 ?_ ?_
 ·exact jj4 (mS 0 0) (lnA wA (oO 0 12) Tryz.underlying39) (yjd rfl wA rfl Tryz.underlying35 infoInt yn5 (by decide) (oO 1 13) ⟨by omega,by unfold maxLen; omega⟩ rfl) (yog 2 rfl wA (Or.inr rfl) (by kernel_rfl) rfl rfl)
 intro _ a3 _ (S3:Zt [_,_,_] [_])
 refine wp_seq ?_
 refine wq [V (QV n ts K),V (iV (n:Nat)),V (iV 0)] ur3 [.inl 0,.inl 1,.inl 2] S3 ?_ ?_
 ·exact jj3 (mS 0 0) (lnA wA (oO 0 15) Tryz.underlying39) mC
 intro B4 a4 _ (S4:Zt [_,_,_] [_,_,_])
 refine wp_block ?_
 refine ybi (fun (k0:Nat) a W=>(k0<=n)/\∃ Bq,Sta w 39 [(3,(ykp)),(4,(ynf w n ts)),(5,(.row 24 2 n (CE 2 ((((tlL ts (cmN ts n)).map ZN).map (· w.heap.size)).take k0 ++ List.replicate (n-k0) zI))))] [(15,(QV n ts K)),(16,iV (n:Nat)),(17,iV (k0:Nat))] Bq a W) (fun (k0:Nat)=>n-k0) ?_ 0 ⟨zhs _,B4,S4.sub [0,1,2] [0,1,2]⟩
 rintro k0 a5 _ ⟨hcond,_,S5⟩
 by_cases hlt:k0 < n
 ·have hd:=ok k0 (by omega)
  have hde:(ts.getD k0 (0,0)).2=(((ts.getD k0 (0,0)).2.toNat:Nat):Int):=by omega
  obtain ⟨hxf,hxr⟩:=yx0 (show (ts.getD k0 (0,0)).2.toNat≠0 by omega) (yr9 (ts:=ts) n k0 hlt (by omega))
  rw [← hde] at hxf hxr
  have hql:(digs (((cmN ts n / (ts.getD k0 (0,0)).2.toNat:Nat):Int)).natAbs).length<=4194304:=by rw [zhy]; exact zhb (yag (zia _ _)) hcn
  have hset:=yqb (z:=Is (.agg #[.bool false,.slice none 0 0])) (xs:=(((tlL ts (cmN ts n)).map ZN).map (· w.heap.size))) (n:=n) (by simp [yqg,lt]) (ye0 (· w.heap.size) (ye0 ZN (yu8 (ts:=ts) (M:=cmN ts n) (show k0 < ts.length by omega))))
  refine wq [kT] ur3 (.inl 0 :: ur3) S5 ?_ ?_
  ·exact jj1 (ya8 wA (oS 2 17) (oS 1 16))
  intro B6 a6 W6 (S6:Zt [_,_,_] [_,_,_,_])
  refine wp_seq (wp_cond_true (S6.bool 0 18 rfl) (wp_skip (thenN (wp_seq (wp_block ?_)))))
  refine wq [V (iV (k0:Nat)),V (AtE 4 (PR (Zv ((ts.getD k0 (0,0)).1) K) (Zv ((ts.getD k0 (0,0)).2) K))),V (PR (Zv ((ts.getD k0 (0,0)).1) K) (Zv ((ts.getD k0 (0,0)).2) K)),.new (.box 26 zR),V (iV (k0:Nat)),.put (.inr 3) (.box 26 (PR (Zv ((ts.getD k0 (0,0)).1) K) (Zv ((ts.getD k0 (0,0)).2) K)))] [.inr 0,.inr 1,.inr 2,.inl 3] [.inl 4,.inr 1,.inr 2,.inr 3] S6 ?_ ?_
  ·exact jj6 (mS 3 17) (axA wA ydd (oS 1 15) (oS 3 17) (ygt (by omega)) rfl) (alC wA yc6 (ybm yan yan) (oO 1 20)) (nwA wA ya3) (mO 0 19) (puA 3 wA (oO 2 21) yaj ybk (ybm yan yan))
  intro B7 a7 W7 (S7:Zt [_,_,_,_] [_,_,_,_])
  refine wq [Fw (ZN (((cmN ts n:Nat):Int))) w,V (Part a7 7 2),V (Zv ((ts.getD k0 (0,0)).2) K),Fw (TWO (ZN (((cmN ts n / (ts.getD k0 (0,0)).2.toNat:Nat):Int))) (IS (.int .i64 0))) w,Fw (TWO (ZN (((cmN ts n / (ts.getD k0 (0,0)).2.toNat:Nat):Int))) (IS (.int .i64 0))) w,Fw (ZN (((cmN ts n / (ts.getD k0 (0,0)).2.toNat:Nat):Int))) w,V (iV 0),.new (ykp),.put (.inr 7) (.box 24 ((ZN (((cmN ts n / (ts.getD k0 (0,0)).2.toNat:Nat):Int))) w.heap.size)),V (iV 0)] [.inr 0,.inr 1,.inr 2,.inr 3,.inl 7] ur4 S7 ?_ ?_
  ·exact ⟨⟨jj8 (loA 1 wA yad yai) (ptA wA 3 ycg) (plA wA (oO 1 24) 3 rfl rfl ycj) (cc2 wA (qO 0 23 rfl) (qO 2 25 rfl) (ya5 (yah _) (yab _)) (fun w u v h1 h2=>Gives.cast (ψ:=(TWO (ZN (((cmN ts n / (ts.getD k0 (0,0)).2.toNat:Nat):Int))) (IS (.int .i64 0)))) (yi2 (by omega) hxr (by omega) w u v ((ybf hcl) _ _ h1) ((fun _ _ h=>h) _ _ h2)) (by rw [hxf]))) (mO 3 26) (e20 wA (oO 4 22)) (e21 wA (oO 4 22)) (nwA wA yar),puA 7 wA (oO 5 27) yad ya9 yai⟩,mO 6 28⟩
  intro B8 a8 W8 (S8:Zt [_,_,_,_,_] [_,_,_,_])
  refine wr [V (Is (a8.eval (.tmp 5))),V (iV (k0:Nat)),V (Part a8 7 0),V (Zv ((ts.getD k0 (0,0)).1) K),Fw (ZN (((cmN ts n / (ts.getD k0 (0,0)).2.toNat:Nat):Int))) w,Fw (ZN (((ts.getD k0 (0,0)).1)*(((cmN ts n / (ts.getD k0 (0,0)).2.toNat:Nat):Int)))) w,V (REt a8 5 (2*k0)),.put (.inl 5) (.row 24 2 n (CE 2 ((((tlL ts (cmN ts n)).map ZN).map (· w.heap.size)).take (k0+1) ++ List.replicate (n-(k0+1)) zI)))] ur3 [.inr 1,.inr 2,.inr 3] S8 ?_ ?_
  ·repeat' refine And.intro ?_ ?_
   ·trivial
   ·exact ypx rfl wA (Or.inl rfl) (by kernel_rfl) rfl
   ·exact mS 0 6
   ·exact ptZ wA 3 yca
   ·exact plA wA (oO 2 31) 3 rfl rfl ydo
   ·exact loA 4 wA yad yai
   ·exact cc2 wA (qO 3 32 rfl) (qO 4 33 rfl) (yah _) (fun w u v h1 h2=>ydv (by omega) w u v ((fun _ _ h=>h) _ _ h1) ((ybf hql) _ _ h2))
   ·exact yje rfl wA rfl yb5 (oO 0 29) (k:=2) rfl (by kernel_rfl) (oO 1 30) hlt rfl
   ·exact yjf rfl wA rfl yh3 (by decide) (oO 6 35) (k:=2) rfl (by kernel_rfl) (oO 5 34) (yb6 (by decide) yai) hlt (by rw [hset]; rfl)
  intro _ a9 _ (S9:Zt [_,_,_] [_,_,_])
  refine inBlkN (thenN ?_)
  refine wr [V (iV (k0+1:Nat)),V (iV (k0+1:Nat))] ur3 (.inl 1 :: ur2) S9 ?_ ?_
  ·exact jj2 (ya7 wA (oS 2 17) (yaa _)) (mO 0 36)
  intro B10 a10 _ (S10:Zt [_,_,_] [_,_,_])
  refine thenN ?_
  exact ⟨k0+1,⟨by omega,B10,S10.sub [0,1,2] [1,2,0]⟩,by omega⟩
 ·have hend:=ypc (z:=Is (.agg #[.bool false,.slice none 0 0])) (xs:=(((tlL ts (cmN ts n)).map ZN).map (· w.heap.size))) (n:=n) (k:=k0) (by simp [yqg,lt]) (by omega)
  refine wq [kF] ur3 (.inl 0 :: ur3) S5 ?_ ?_
  ·exact jj1 (ybc wA (oS 2 17) (oS 1 16))
  intro B6 a6 W6 (S6:Sta w 39 [(3,(ykp)),(4,(ynf w n ts)),(5,(.row 24 2 n (CE 2 ((((tlL ts (cmN ts n)).map ZN).map (· w.heap.size)).take k0 ++ List.replicate (n-k0) zI))))] [(18,bF),(15,(QV n ts K)),(16,iV (n:Nat)),(17,iV (k0:Nat))] _ _ _)
  refine wp_seq (wp_cond_false (S6.bool 0 18 rfl) (wp_exit (thenX (thenX (inBlkE (thenN ?_))))))
  obtain ⟨B7,S7⟩:∃ Bq,Sta w 39 [(3,(ykp)),(4,(ynf w n ts))] [(5,((VN n (tlL ts (cmN ts n))) w.heap.size)),(18,bF),(15,(QV n ts K)),(16,iV (n:Nat)),(17,iV (k0:Nat))] Bq a6 W6:=⟨_,S6.freeze 2 rfl (by simp) (fun v w' xs ho hc=>ynj (by decide) v w' xs ho (by rw [hend] at hc; exact hc))⟩
  obtain ⟨a7,W7,e1,e2⟩:∃ a W,a6=a/\W6=W:=⟨_,_,rfl,rfl⟩
  rw [e1,e2] at S7 ⊢
  clear e1 e2
  refine wq [Fw (VN n (tlL ts (cmN ts n))) w,Fw (ZN (((cmN ts n:Nat):Int))) w,Fw (VN n (tlL ts (cmN ts n))) w,.put (.inl 3) (ynf w n ts)] ur2 [.inl 2,.inr 0,.inr 2,.inr 3,.inr 4] S7 ?_ ?_
  ·exact jj4 (mS 0 5) (loA 1 wA yad yai) (mO 0 37) (seA 0 wA (oO 1 38) yad ya9 yai)
  intro B8 a8 W8 (S8:Zt [_,_] [_,_,_,_,_])
  refine wp_ret ?_
  exact ydi S8 rfl (yay S8 0 2 rfl) (ybb S8 0 3 rfl yad yai)
theorem ylm {M:Nat}(hM:M≠0):RN 0 1=QQ 0 M:=by
 rw [qq_1]
 exact ynd (by decide) hM (by simp)
section
variable {ops:Array Oper} {l:List Kd} {bx:Bxs} {sl:List (Tmp × Pr)} {i:Nat} {o:Oper} {Q:Exit->Act->World->Prop} {a0:Act} {n:Nat} {w0:World}
end




section
variable {n m Kb K:Nat} {Bm:List (List Int)} {ts:List (Int × Int)}
end
end Go.Proofs.YtdnindaohpdblaaGreat

namespace Go.Proofs.YtdnindaohpdblaaGreat
open Go.ChangeShapes Go.WideShapes Go.ChangeAt Go.RowKit Nt
set_option maxRecDepth 20000
set_option maxHeartbeats 16000000
structure Ra where
 x:El
 y:El
instance:Inhabited Ra:=⟨⟨default,default⟩⟩
structure Qs (w:World) (p:Option Addr) (n c:Nat) (rs:List Ra):Prop where
 len:rs.length=n
 cap:n<=c
 max:c<=maxLen
 nil:p=none->c=0
 lie:∀ i r,rs[i]? = some r->∃ b o,p=some ⟨b,o,none⟩/\(w.cell? ⟨b,o+4*i,none⟩=some (.bool r.x.s)/\w.cell? ⟨b,o+4*i+1,none⟩=some (.slice r.x.p r.x.n r.x.c)/\w.cell? ⟨b,o+4*i+2,none⟩=some (.bool r.y.s)/\w.cell? ⟨b,o+4*i+3,none⟩=some (.slice r.y.p r.y.n r.y.c))/\Sl w r.x.p r.x.n r.x.c r.x.xs/\Sl w r.y.p r.y.n r.y.c r.y.xs
def ReadsQ {H:Type}(d:DataW H)(c:Nat)(rs:List Ra):Prop:=
 (d=.nil/\c=0)\/∃ ds sp:List (DataW H),d=.slice ds sp/\c=ds.length+sp.length/\∀ (i:Nat) (r:Ra),rs[i]? = some r->∃ d1 d2,ds[i]? = some (DataW.agg [.agg [.lit (.bool r.x.s),d1],.agg [.lit (.bool r.y.s),d2]])/\Reads d1 r.x.c/\Reads d2 r.y.c
theorem zgh {w w':World}{p:Option Addr}{n c:Nat}{rs:List Ra}(h:Qs w p n c rs)(e:Ev (fun _=>False) w w'):Qs w' p n c rs:=
 ⟨h.len,h.cap,h.max,h.nil,fun i x hx=>by
  obtain ⟨b,o,e1,⟨h1,h2,h3,h4⟩,h5,h6⟩:=h.lie i x hx
  exact ⟨b,o,e1,⟨yfr h1 e,yfr h2 e,yfr h3 e,yfr h4 e⟩,yj1 h5 (fun _ _ _ _ h=>h) e,yj1 h6 (fun _ _ _ _ h=>h) e⟩⟩
abbrev qz (rs:List Ra):List (Int × Int):=rs.map (fun r=>(r.x.z,r.y.z))
theorem zgj {w:World}{p:Option Addr}{n c k:Nat}{rs:List Ra}(h:Qs w p n c rs)(hk:∀ (i:Nat) r,rs[i]? = some r->r.x.n<=k/\r.y.n<=k):QV n (qz rs) k (.slice p n c) w:=
 ⟨p,c,rfl,by simp [h.len],⟨h.cap,h.max,h.nil⟩,fun i φ hφ=>by
  obtain ⟨e,he,rfl⟩:=ybs hφ
  obtain ⟨r,hr,rfl⟩:=ybs he
  obtain ⟨b,o,e1,⟨h1,h2,h3,h4⟩,h5,h6⟩:=h.lie i r hr
  obtain ⟨k1,k2⟩:=hk i r hr
  refine ⟨b,o,.agg #[.bool r.x.s,.slice r.x.p r.x.n r.x.c,.bool r.y.s,.slice r.y.p r.y.n r.y.c],e1,fun j x hx=>?_,rfl,?_⟩
  ·match j,hx with
   | 0,hx=>simp [Value.cells] at hx; subst hx; exact h1
   | 1,hx=>simp [Value.cells] at hx; subst hx; exact h2
   | 2,hx=>simp [Value.cells] at hx; subst hx; exact h3
   | 3,hx=>simp [Value.cells] at hx; subst hx; exact h4
   | j+4,hx=>simp [Value.cells] at hx
  ·exact ⟨_,_,_,_,rfl,⟨_,_,_,_,_,rfl,h5,rfl,k1⟩,⟨_,_,_,_,_,rfl,h6,rfl,k2⟩⟩⟩
theorem zgi {w:World}{p:Option Addr}{n c k:Nat}{rs:List Ra}(h:Qs w p n c rs)(hk:∀ (i:Nat) r,rs[i]? = some r->r.x.n<=k/\r.y.n<=k):Hs w (QV n (qz rs) k) (.slice p n c):=fun w' e=>zgj (zgh h e) hk
end Go.Proofs.YtdnindaohpdblaaGreat

namespace Go.Proofs.YtdnindaohpdblaaGreat
open Go Go.RowKit Nt
set_option maxRecDepth 20000
set_option maxHeartbeats 16000000
theorem zbm:∀ (rq:List Ra),(rq.map (fun r=>r.x.c)).sum+(rq.map (fun r=>r.y.c)).sum+rq.length=(rq.map (fun r=>r.x.c+r.y.c+1)).sum
 | []=>rfl
 | a :: r=>by
  have:=zbm r
  simp only [zje,zjs,zie]
  omega
theorem yhv {α:Type}(f:α->Nat):∀ {l:List α} {i:Nat} {a:α},l[i]? = some a->f a<=(l.map f).sum
 | b :: r,0,a,h=>by
  simp at h
  subst h
  simp only [zje,zjs]
  omega
 | b :: r,i+1,a,h=>by
  have:=yhv f (l:=r) (i:=i) (a:=a) (by simpa using h)
  simp only [zje,zjs]
  omega
theorem yt9 {rq:List Ra}{k:Nat}{r:Ra}(h:rq[k]? = some r):(qz rq).getD k (0,0)=(r.x.z,r.y.z):=by
 rw [zhc,zhi,h]
 rfl
theorem yiz {w:World}{p:Option Addr}{n c:Nat}{rq:List Ra}(s:Qs w p n c rq):∀ k,k<=n->dsum (qz rq) k<=1+((rq.take k).map (fun r=>r.y.c)).sum
 | 0,_=>zha _
 | k+1,hk=>by
  have ih:=yiz s k (by omega)
  have hr:rq[k]? = some (rq[k]'(by have:=s.len; omega)):=zhj _
  generalize rq[k]'(by have:=s.len; omega)=r at hr
  obtain ⟨b,o,_,_,_,h6⟩:=s.lie k r hr
  have h7:(digs (r.y.z).natAbs).length<=r.y.n:=yj0 h6
  have h8:=h6.cap
  rw [dsum,yt9 hr,zke,hr]
  simp only [Option.toList_some,ziy,zje,List.map_nil,List.sum_append,zjs,List.sum_nil]
  omega
theorem zcd {w:World}{p:Option Addr}{n c:Nat}{rq:List Ra}(s:Qs w p n c rq)(t:(rq.map (fun r=>r.x.c+r.y.c+1)).sum<=1048576):
  n<=1048576/\(∀ (i:Nat) r,rq[i]? = some r->r.x.n<=1048576/\r.y.n<=1048576)/\dsum (qz rq) n<=1048577/\∀ k,k < n->(digs ((qz rq).getD k (0,0)).1.natAbs).length+dsum (qz rq) n<=1048577:=by
 have hl:=s.len
 have h1:=zbm rq
 have h2:=yiz s n (zha _)
 rw [zhg (by omega)] at h2
 refine ⟨by omega,fun i r hr=>?_,by omega,fun k hk=>?_⟩
 ·obtain ⟨b,o,_,_,h5,h6⟩:=s.lie i r hr
  have h3:=yhv (fun r:Ra=>r.x.c) hr
  have h4:=yhv (fun r:Ra=>r.y.c) hr
  have:=h5.cap
  have:=h6.cap
  have h3':r.x.c<=(rq.map (fun r=>r.x.c)).sum:=h3
  have h4':r.y.c<=(rq.map (fun r=>r.y.c)).sum:=h4
  omega
 ·have hr:rq[k]? = some (rq[k]'(by omega)):=zhj _
  generalize rq[k]'(by omega)=r at hr
  obtain ⟨b,o,_,_,h5,h6⟩:=s.lie k r hr
  have h3:=yhv (fun r:Ra=>r.x.c) hr
  have h7:(digs (r.x.z).natAbs).length<=r.x.n:=yj0 h5
  have:=h5.cap
  rw [yt9 hr]
  show (digs (r.x.z).natAbs).length+_<=_
  have h3':r.x.c<=(rq.map (fun r=>r.x.c)).sum:=h3
  omega
end Go.Proofs.YtdnindaohpdblaaGreat
