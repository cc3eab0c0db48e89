import Derived.Test.YtdnindaohpdblaaGreatFnB
import Derived.Test.YtdnindaohpdblaaGreatTzH
set_option linter.all false
namespace Go.Proofs.YtdnindaohpdblaaGreat
open Go Go.RowKit Nt
set_option maxRecDepth 20000
set_option maxHeartbeats 16000000
theorem zfk {T:Int}{d:Nat}(hd:d≠0)(h:T=0):RN 0 1=QQ T d:=by rw [h]; exact ylm hd
theorem zfj {T p:Int}{d q:Nat}(hd:d≠0)(hq:q≠0)(h:T*(q:Int)=p*(d:Int)):QQ p q=QQ T d:=ynd hq hd h.symm
theorem zdw {X T S:Int}{d:Nat}(hd:d≠0)(h:S=X*(d:Int)-T):QQ (X*(d:Int)+(-T)*((1:Nat):Int)) (1*d)=QQ S d:=by
 rw [h,ziv,show X*(d:Int)+(-T)*((1:Nat):Int)=X*(d:Int)-T by rw [Int.natCast_one]; omega]
theorem zfp {T D1:Int}{d d1:Nat}(hd:d≠0)(h1:d1≠0)(e:D1=(d1:Int)):QQ T d=QQ (T*D1-0) (d*d1):=by
 refine ynd hd (zh2 hd h1) ?_
 rw [e,zho,Int.sub_zero,zj7,zjb (d1:Int)]
theorem yv0 {A P S:Int}{d d1:Nat}(hd:d≠0)(h1:d1≠0):QQ (A*((d1*d:Nat):Int)+(-(P*S))*((d*d1:Nat):Int)) (d*d1*(d1*d))=QQ (A-S*P) (d*d1):=by
 refine ynd (zh2 (zh2 hd h1) (zh2 h1 hd)) (zh2 hd h1) ?_
 simp only [zho]
 generalize (d:Int)=x
 generalize (d1:Int)=y
 grind
theorem zcu {sh:List Int}{L:List (List Int)}{n i k:Nat}{C:Int}:C-sumZ (fbL sh L n i k)-sh.getD k 0*(L.getD (n-1-k) []).getD i 0=C-sumZ (fbL sh L n i (k+1)):=by
 rw [fbL,yjt]
 have:∀ z:Int,sumZ [z]=z:=fun z=>by show z+0=z; omega
 rw [this]
 omega
theorem yx2 {sh:List Int}{L:List (List Int)}{n i k Ks K:Nat}(hs:Dl sh Ks)(hL:Mdl L K):(digs (sumZ (fbL sh L n i k)).natAbs).length<=Ks+K+k:=by
 have q:=yl9 (ypb hs hL n i k) k
 rw [zhg (by rw [yfs]; omega)] at q
 omega
theorem yww {D sh x τ:List Int}{L:List (List Int)}{n k dn:Nat}{C:Int}(hd:dn≠0)(h1:dN D (n-1-k+1)≠0)(e1:D.getD (n-1-k+1) 0=(dN D (n-1-k+1):Int))(hs:sh.getD k 0=x.getD k 0*(dn:Int)-τ.getD (n-1-k) 0)(hC:C=τ.getD (n-1-k) 0*D.getD (n-1-k+1) 0-sumZ (fbL sh L n (n-1-k) k)):
  QQ (x.getD k 0*((dn*dN D (n-1-k+1):Nat):Int)+(-C)*((1:Nat):Int)) (1*(dn*dN D (n-1-k+1)))=QQ (fW D sh L n k) (dn*dN D (n-1-k+1)):=by
 rw [ziv]
 congr 1
 rw [fW,hs,hC,e1,zho,Int.natCast_one]
 generalize (dN D (n-1-k+1):Int)=y
 generalize (dn:Int)=z
 grind
theorem zbn {x:List Int}{j k:Nat}(h:j < k):(x.take k).getD j 0=x.getD j 0:=by
 rw [zhc,zhc,List.getElem?_take_of_lt h]
theorem zby (w:World)(u:Value)(nD nL nT K:Nat)(D:List Int)(L:List (List Int))(ts:List (Int × Int))(rn rd:Int)(h:Hs w (TR (Vv nD D K) (Mv nL L K) (QV nT ts K) (PR (Zv rn K) (Zv rd K))) u)(hD:nD<=1048576)(hL:nL<=1048576)(hT:nT<=1048576)(hK:K<=1048576)(lD:D.length=nD)(lL:L.length=nL)(lT:ts.length=nT)(g:TGood D L ts rn rd)(τ:List Int)(dn:Nat)(hdn:dn≠0)(bdn:(digs dn).length<=1048576)(tok:TauOk ts τ dn)(bτ:Dl τ 2097152)(i:Nat)(hi:i < nL):
  CG 47 #[u,.int .i64 (i:Nat)] w (QQ (τ.getD i 0) dn):=by
 refine yak (sl:=[(0,(TR (Vv nD D K) (Mv nL L K) (QV nT ts K) (PR (Zv rn K) (Zv rd K)))),(1,(iV (i:Nat)))]) Tryz.func47 rfl Tryz.ntmps47 (by simp) (yae rfl (h) (yae rfl (ycy _) yao)) ?_
 intro a0 S0
 refine wq [.new (.box 41 (TR (Vv nD D K) (Mv nL L K) (QV nT ts K) (PR (Zv rn K) (Zv rd K)))),.new (.box 26 zR)] [.inl 0,.inl 1] [.inr 1] S0 ?_ ?_
 ·exact jj2 (bxA wA (oS 0 0) (ybe yax)) (nwA wA ya3)
 intro _ a1 _ (S1:Zt [_,_] [_])
 by_cases h0:nT=0
 ·skip
  have hT0:τ.getD i 0=0:=tok.1 (by omega) _
  refine wp_seq ?_
  refine wq [V (Part a1 2 2),V (QV nT ts K),V (iV (nT:Nat)),kT] ur2 [.inl 3,.inr 0] S1 ?_ ?_
  ·exact jj4 (ptA wA 0 yap) (plA wA (oO 0 5) 0 rfl rfl yat) (lnA wA (oO 1 6) Tryz.underlying39) (ycl wA (oO 2 7) (yaa _))
  intro B2 a2 W2 (S2:Zt [_,_] [_,_])
  refine wp_cond_true (S2.bool 0 8 rfl) ?_
  refine wq [.val zI,Fw (QQ (τ.getD i 0) dn) w,.put (.inl 4) (.box 26 ((QQ (τ.getD i 0) dn) w.heap.size))] ur2 [] S2 ?_ ?_
  ·exact jj3 (yde rfl wA rfl rfl) (cc1 wA (qO 0 9 rfl) (ybr _ _) (fun w u h=>Gives.cast (ypg (A:=0) (k:=0) (by omega) w u (ymd _ _ h)) (zfk (d:=dn) hdn hT0))) (seA 1 wA (oO 1 10) yaj ybk ych)
  intro B3 a3 W3 (S3:Zt [_,_] [])
  refine wp_ret (thenR ?_)
  exact yav S3 rfl (ybb S3 1 4 rfl yaj ych)
 ·skip
  have hlen:=g.len
  have hdp:=g.t i (by omega)
  have hd:(ts.getD i (0,0)).2=(((ts.getD i (0,0)).2.toNat:Nat):Int):=by omega
  have hdz:(ts.getD i (0,0)).2.toNat≠0:=by omega
  have hTk:=tok.2 i (by omega)
  rw [hd] at hTk
  refine wp_seq ?_
  refine wq [V (Part a1 2 2),V (QV nT ts K),V (iV (nT:Nat)),kF] ur2 [.inl 3,.inr 0] S1 ?_ ?_
  ·exact jj4 (ptA wA 0 yap) (plA wA (oO 0 5) 0 rfl rfl yat) (lnA wA (oO 1 6) Tryz.underlying39) (ycd wA (oO 2 7) (yaa _))
  intro B2 a2 W2 (S2:Zt [_,_] [_,_])
  refine wp_cond_false (S2.bool 0 8 rfl) (wp_skip (thenN ?_))
  refine wq [V (Part a2 2 2),V (QV nT ts K),V (iV (i:Nat)),V (AtE 4 (PR (Zv ((ts.getD i (0,0)).1) K) (Zv ((ts.getD i (0,0)).2) K))),V (AtE 2 (Zv ((ts.getD i (0,0)).1) K)),V (Zv ((ts.getD i (0,0)).1) K),V (Part a2 2 2),V (QV nT ts K),V (iV (i:Nat)),V (AtE 4 (PR (Zv ((ts.getD i (0,0)).1) K) (Zv ((ts.getD i (0,0)).2) K))),V (AtE 2 (Zv ((ts.getD i (0,0)).2) K)),V (Zv ((ts.getD i (0,0)).2) K),Fw (QQ (τ.getD i 0) dn) w,.put (.inl 4) (.box 26 ((QQ (τ.getD i 0) dn) w.heap.size))] ur2 [] S2 ?_ ?_
  ·exact ⟨⟨⟨⟨⟨⟨jj8 (ptA wA 0 yap) (plA wA (oO 0 11) 0 rfl rfl yat) (mS 1 1) (axA wA ydd (oO 1 12) (oO 2 13) (ygt (by omega)) rfl) (ybu (d:=0) rfl wA rfl (oO 3 14) (fun ρ w b k h=>yca ρ _ _ w b k h) (zd4 yan yan) rfl) (alC wA yba yan (oO 4 15)) (ptA wA 0 yap) (plA wA (oO 6 17) 0 rfl rfl yat),mS 1 1⟩,axA wA ydd (oO 7 18) (oO 8 19) (ygt (by omega)) rfl⟩,ybu (d:=2) rfl wA rfl (oO 9 20) (fun ρ w b k h=>ycg ρ _ _ w b k h) (zd5 yan yan) rfl⟩,alC wA yba yan (oO 10 21)⟩,cc2 wA (qO 5 16 rfl) (qO 11 22 rfl) (ybr _ _) (fun w u v h1 h2=>by rw [hd] at h2; exact Gives.cast (yss (k:=K) (k':=K) hdz (by omega) (by omega) w u v h1 h2) (zfj hdn hdz hTk))⟩,seA 1 wA (oO 12 23) yaj ybk ych⟩
  intro B3 a3 W3 (S3:Zt [_,_] [])
  refine wp_ret ?_
  exact yav S3 rfl (ybb S3 1 4 rfl yaj ych)
theorem zca (w:World)(u:Value)(nD nL nT K:Nat)(D:List Int)(L:List (List Int))(ts:List (Int × Int))(rn rd:Int)(h:Hs w (TR (Vv nD D K) (Mv nL L K) (QV nT ts K) (PR (Zv rn K) (Zv rd K))) u)(hD:nD<=1048576)(hL:nL<=1048576)(hT:nT<=1048576)(hK:K<=1048576)(lD:D.length=nD)(lL:L.length=nL)(lT:ts.length=nT)(g:TGood D L ts rn rd)(τ:List Int)(dn:Nat)(hdn:dn≠0)(bdn:(digs dn).length<=1048576)(tok:TauOk ts τ dn)(bτ:Dl τ 2097152)(m Ks:Nat)(x sh:List Int)(v:Value)(hv:Hs w (Vv m x Ks) v)(lx:x.length=m)(hKs:Ks<=4194304)(hsh:∀ j,j < m->sh.getD j 0=x.getD j 0*(dn:Int)-τ.getD (nL-1-j) 0)(Kz:Nat)(hKz:Kz<=4194304)(bsh:Dl sh Kz)(hml:m < nL):
  CG 20 #[u,v] w (QQ (τ.getD (nL-1-m) 0*D.getD (nL-1-m+1) 0-sumZ (fbL sh L nL (nL-1-m) m)) (dn*dN D (nL-1-m+1))):=by
 have hgl:=g.g.len
 have hdim:=g.dim
 have dD:Dl D K:=by
  obtain ⟨_,_,_,_,_,_,_,_,_,q,_,_,_⟩:=h.now
  exact yie q
 have dL:Mdl L K:=by
  obtain ⟨_,_,_,_,_,_,_,_,_,_,q,_,_⟩:=h.now
  exact ytg q
 obtain ⟨hd1,hz1⟩:=yqy g.g (i:=nL-1-m+1) (by omega)
 have bd1:(digs (dN D (nL-1-m+1))).length<=K:=by have q:=yb2 dD (nL-1-m+1); rw [hd1,zhy] at q; exact q
 have hM:dn*dN D (nL-1-m+1)≠0:=zh2 hdn hz1
 have hM2:dN D (nL-1-m+1)*dn≠0:=zh2 hz1 hdn
 have bM:(digs (dn*dN D (nL-1-m+1))).length<=2097152:=zhb (yaq bdn bd1) (by omega)
 have bM2:(digs (dN D (nL-1-m+1)*dn)).length<=2097152:=zhb (yaq bd1 bdn) (by omega)
 have bC:∀ k,k<=12->(digs (τ.getD (nL-1-m) 0*D.getD (nL-1-m+1) 0-sumZ (fbL sh L nL (nL-1-m) k)).natAbs).length<=8388608:=fun k hk=>zhb (ysj (k:=5242892) (zhb (yet (yb2 bτ _) (yb2 dD _)) (by omega)) (zhb (yx2 bsh dL) (by omega))) (by omega)
 refine yak (sl:=[(0,(TR (Vv nD D K) (Mv nL L K) (QV nT ts K) (PR (Zv rn K) (Zv rd K)))),(1,(Vv m x Ks))]) Tryz.func20 rfl Tryz.ntmps20 (by simp) (yae rfl (h) (yae rfl (hv) yao)) ?_
 intro a0 S0
 refine wq [.new (.box 41 (TR (Vv nD D K) (Mv nL L K) (QV nT ts K) (PR (Zv rn K) (Zv rd K)))),.new (.box 26 zR)] [.inl 0,.inl 1] [.inr 1] S0 ?_ ?_
 ·exact jj2 (bxA wA (oS 0 0) (ybe yax)) (nwA wA ya3)
 intro _ a1 _ (S1:Zt [_,_] [_])
 refine wq [V (Part a1 2 0),V (Part a1 2 1),V (Mv nL L K),V (iV (nL:Nat)),V (iV (nL:Nat))] ur2 [.inl 4,.inr 0] S1 ?_ ?_
 ·exact jj5 (ptZ wA 0 yas) (ya6 rfl wA rfl (oO 0 11) rfl (fun ρ w b h=>yaw ρ _ _ w b 0 h)) (plA wA (oO 1 12) 0 rfl rfl ybj) (lnA wA (oO 2 13) Tryz.underlying36) (mO 3 14)
 intro _ a2 _ (S2:Zt [_,_] [_,_])
 refine wq [V (iV (nL:Nat)),V (iV ((nL-1:Nat):Int)),V (Vv m x Ks),V (iV (m:Nat)),V (iV ((nL-1-m:Nat):Int)),V (iV ((nL-1-m:Nat):Int))] ur2 (.inl 5 :: ur2) S2 ?_ ?_
 ·exact jj6 (mS 0 5) (ydu wA (oO 0 15) (yaa _)) (mS 1 1) (lnA wA (oO 2 17) Tryz.underlying35) (ydu wA (oO 1 16) (oO 3 18)) (mO 4 19)
 intro _ a3 _ (S3:Zt [_,_] [_,_,_])
 refine wq [V (TR (Vv nD D K) (Mv nL L K) (QV nT ts K) (PR (Zv rn K) (Zv rd K))),V (iV ((nL-1-m:Nat):Int)),Fw (QQ (τ.getD (nL-1-m) 0*D.getD (nL-1-m+1) 0-sumZ (fbL sh L nL (nL-1-m) 0)) (dn*dN D (nL-1-m+1))) w,.new (.box 26 zR),.put (.inr 3) (.box 26 ((QQ (τ.getD (nL-1-m) 0*D.getD (nL-1-m+1) 0-sumZ (fbL sh L nL (nL-1-m) 0)) (dn*dN D (nL-1-m+1))) w.heap.size))] [.inr 0,.inr 1,.inl 3] ur3 S3 ?_ ?_
 ·exact jj5 (loA 0 wA yal yax) (mS 0 6) (ch2 wA (qO 0 20 rfl) (qO 1 21 rfl) (ybr _ _) (fun w u0 u1 h0 h1=>by obtain rfl:u1=_:=h1.now; exact Gives.cast (zby w u0 nD nL nT K D L ts rn rd h0 hD hL hT hK lD lL lT g τ dn hdn bdn tok bτ (nL-1-m) (by omega)) (zfp hdn hz1 hd1))) (nwA wA ya3) (puA 3 wA (oO 2 22) yaj ybk ych)
 intro _ a4 _ (S4:Zt [_,_,_] [_,_,_])
 refine wp_seq ?_
 refine wq [V (iV 0)] ur3 (.inl 0 :: ur3) S4 ?_ ?_
 ·exact jj1 mC
 intro B5 a5 _ (S5:Zt [_,_,_] [_,_,_,_])
 refine wp_block ?_
 refine ybi (fun (k0:Nat) a W=>(k0<=m)/\∃ Bq,Sta w 52 [(2,(.box 41 (TR (Vv nD D K) (Mv nL L K) (QV nT ts K) (PR (Zv rn K) (Zv rd K))))),(4,(.box 26 zR)),(7,(.box 26 ((QQ (τ.getD (nL-1-m) 0*D.getD (nL-1-m+1) 0-sumZ (fbL sh L nL (nL-1-m) k0)) (dn*dN D (nL-1-m+1))) w.heap.size)))] [(8,iV (k0:Nat)),(6,iV ((nL-1-m:Nat):Int)),(5,iV (nL:Nat)),(1,Vv m x Ks)] Bq a W) (fun (k0:Nat)=>m-k0) ?_ 0 ⟨zhs _,B5,S5.sub [0,1,2] [0,1,2,3]⟩
 rintro k0 a6 _ ⟨hcond,_,S6⟩
 by_cases hlt:k0 < m
 ·have bx:(digs (x.getD k0 0).natAbs).length<=Ks:=yb2 (yie hv.now) k0
  refine wp_seq ?_
  refine wq [V (iV (k0:Nat)),V (Vv m x Ks),V (iV (m:Nat)),kT] ur3 (.inl 3 :: ur4) S6 ?_ ?_
  ·exact jj4 (mS 0 8) (mS 3 1) (lnA wA (oO 1 24) Tryz.underlying35) (ya8 wA (oO 0 23) (oO 2 25))
  intro B7 a7 W7 (S7:Zt [_,_,_] [_,_,_,_,_])
  refine wp_cond_true (S7.bool 0 26 rfl) (wp_skip (thenN (wp_seq (wp_block ?_))))
  refine wq [V (iV (nL:Nat)),V (iV ((nL-1:Nat):Int)),V (iV (k0:Nat)),V (iV ((nL-1-k0:Nat):Int)),V (iV ((nL-1-k0:Nat):Int))] ur3 [.inl 4,.inr 1,.inr 2,.inr 3,.inr 4] S7 ?_ ?_
  ·exact jj5 (mS 3 5) (ydu wA (oO 0 29) (yaa _)) (mS 1 8) (ydu wA (oO 1 30) (oO 2 31)) (mO 3 32)
  intro B8 a8 W8 (S8:Zt [_,_,_] [_,_,_,_,_])
  refine wq [V (Vv m x Ks),V (iV (k0:Nat)),V (AtE 2 (Zv (x.getD k0 0) Ks)),V (Zv (x.getD k0 0) Ks),Fw (QQ (x.getD k0 0) 1) w,V (TR (Vv nD D K) (Mv nL L K) (QV nT ts K) (PR (Zv rn K) (Zv rd K))),V (iV ((nL-1-k0:Nat):Int)),Fw (QQ (τ.getD (nL-1-k0) 0) dn) w,Fw (QQ (sh.getD k0 0) dn) w,.new (.box 26 zR),.put (.inr 9) (.box 26 ((QQ (sh.getD k0 0) dn) w.heap.size))] [.inr 0,.inr 1,.inr 2,.inl 9] ur5 S8 ?_ ?_
  ·exact ⟨⟨⟨jj8 (mS 4 1) (mS 1 8) (axA wA yb5 (oO 0 33) (oO 1 34) (yej (by omega)) rfl) (alC wA yba yan (oO 2 35)) (cc1 wA (qO 3 36 rfl) (ybr _ _) (fun w u h1=>Gives.cast (ψ:=(QQ (x.getD k0 0) 1)) (ypg (A:=x.getD k0 0) (k:=Ks) (by omega) w u h1) (qq_1 _))) (loA 0 wA yal yax) (mS 0 9) (ch2 wA (qO 5 38 rfl) (qO 6 39 rfl) (ybr _ _) (fun w u0 u1 h0 h1=>by obtain rfl:u1=_:=h1.now; exact zby w u0 nD nL nT K D L ts rn rd h0 hD hL hT hK lD lL lT g τ dn hdn bdn tok bτ (nL-1-k0) (by omega))),cc2 wA (qO 4 37 rfl) (qO 7 40 rfl) (ybr _ _) (fun w u v h1 h2=>Gives.cast (ψ:=(QQ (sh.getD k0 0) dn)) (yt6 (k:=4194304) (k':=2097152) Nat.one_ne_zero hdn (zhb bx hKs) (zhb yf0 (by omega)) (yb2 bτ _) (zhb bdn (by omega)) (by omega) (by omega) w u v h1 h2) (zdw hdn (hsh k0 hlt)))⟩,nwA wA ya3⟩,puA 9 wA (oO 8 41) yaj ybk ych⟩
  intro _ a9 _ (S9:Zt [_,_,_,_] [_,_,_,_,_])
  refine wr [Fw (QQ (τ.getD (nL-1-m) 0*D.getD (nL-1-m+1) 0-sumZ (fbL sh L nL (nL-1-m) k0)) (dn*dN D (nL-1-m+1))) w,V (Part a9 2 0),V (SF [(Vv nD D K),(Mv nL L K)]),V (iV ((nL-1-k0:Nat):Int)),V (iV ((nL-1-m:Nat):Int)),Fw (QQ ((L.getD (nL-1-k0) []).getD (nL-1-m) 0) (dN D (nL-1-m+1))) w,Fw (QQ (sh.getD k0 0) dn) w,Fw (QQ ((L.getD (nL-1-k0) []).getD (nL-1-m) 0*sh.getD k0 0) (dN D (nL-1-m+1)*dn)) w,Fw (QQ (τ.getD (nL-1-m) 0*D.getD (nL-1-m+1) 0-sumZ (fbL sh L nL (nL-1-m) (k0+1))) (dn*dN D (nL-1-m+1))) w,.put (.inl 7) (.box 26 ((QQ (τ.getD (nL-1-m) 0*D.getD (nL-1-m+1) 0-sumZ (fbL sh L nL (nL-1-m) (k0+1))) (dn*dN D (nL-1-m+1))) w.heap.size))] ur3 [.inr 1,.inr 2,.inr 3,.inr 4] S9 ?_ ?_
  ·exact ⟨⟨jj8 (loA 2 wA yaj ych) (ptZ wA 0 yas) (plA wA (oO 1 43) 0 rfl rfl ycb) (mS 0 9) (mS 2 6) (ch3 wA (qO 2 44 rfl) (qO 3 45 rfl) (qO 4 46 rfl) (ybr _ _) (fun w u0 u1 u2 h0 h1 h2=>by obtain rfl:u1=_:=h1.now; obtain rfl:u2=_:=h2.now; exact zgm w u0 nD nL K D L h0 hD hL hK lD lL (nL-1-k0) (nL-1-m) (dN D (nL-1-m+1)) g.g (by omega) (by omega) hd1 hz1)) (loA 3 wA yaj ych) (cc2 wA (qO 5 47 rfl) (qO 6 48 rfl) (ybr _ _) (fun w u v h1 h2=>yt5 (k:=1048576) (k':=4194304) hz1 hdn (zhb (yb2 (yle dL _) _) hK) (zhb bd1 hK) (zhb (yb2 bsh _) hKz) (zhb bdn (by omega)) (by omega) (by omega) w u v h1 h2)),cc2 wA (qO 0 42 rfl) (qO 7 49 rfl) (ybr _ _) (fun w u v h1 h2=>Gives.cast (ψ:=(QQ (τ.getD (nL-1-m) 0*D.getD (nL-1-m+1) 0-sumZ (fbL sh L nL (nL-1-m) (k0+1))) (dn*dN D (nL-1-m+1)))) (yt6 (k:=8388608) (k':=8388608) hM hM2 (bC k0 (by omega)) (by omega) (zhb (yet (yb2 (yle dL _) _) (yb2 bsh _)) (by omega)) (by omega) (zha _) (zha _) w u v h1 h2) (by rw [yv0 hdn hz1,zcu]))⟩,seA 2 wA (oO 8 50) yaj ych ych⟩
  intro _ a10 _ (S10:Zt [_,_,_] [_,_,_,_])
  refine inBlkN (thenN ?_)
  refine wr [V (iV (k0:Nat)),V (iV (k0+1:Nat)),V (iV (k0+1:Nat))] ur3 [.inl 2,.inr 1,.inr 2,.inr 3] S10 ?_ ?_
  ·exact jj3 (mS 0 8) (ya7 wA (oO 0 27) (yaa _)) (mO 1 28)
  intro B11 a11 _ (S11:Zt [_,_,_] [_,_,_,_])
  refine thenN ?_
  exact ⟨k0+1,⟨by omega,B11,S11.sub [0,1,2] [0,1,2,3]⟩,by omega⟩
 ·have ek:k0=m:=by omega
  rw [ek] at S6
  refine wp_seq ?_
  refine wq [V (iV (m:Nat)),V (Vv m x Ks),V (iV (m:Nat)),kF] ur3 (.inl 3 :: ur4) S6 ?_ ?_
  ·exact jj4 (mS 0 8) (mS 3 1) (lnA wA (oO 1 24) Tryz.underlying35) (ybc wA (oO 0 23) (oO 2 25))
  intro B7 a7 W7 (S7:Zt [_,_,_] [_,_,_,_,_])
  refine wp_cond_false (S7.bool 0 26 rfl) (wp_exit (thenX (thenX (inBlkE (thenN ?_)))))
  refine wq [Fw (QQ (τ.getD (nL-1-m) 0*D.getD (nL-1-m+1) 0-sumZ (fbL sh L nL (nL-1-m) m)) (dn*dN D (nL-1-m+1))) w,.put (.inl 4) (.box 26 ((QQ (τ.getD (nL-1-m) 0*D.getD (nL-1-m+1) 0-sumZ (fbL sh L nL (nL-1-m) m)) (dn*dN D (nL-1-m+1))) w.heap.size))] ur3 [.inr 1,.inr 2,.inr 3,.inr 4] S7 ?_ ?_
  ·exact jj2 (loA 2 wA yaj ych) (seA 1 wA (oO 0 51) yaj ybk ych)
  intro B8 a8 W8 (S8:Zt [_,_,_] [_,_,_,_])
  refine wp_ret ?_
  exact yav S8 rfl (ybb S8 1 4 rfl yaj ych)
theorem zd1 (w:World)(u:Value)(nD nL nT K:Nat)(D:List Int)(L:List (List Int))(ts:List (Int × Int))(rn rd:Int)(h:Hs w (TR (Vv nD D K) (Mv nL L K) (QV nT ts K) (PR (Zv rn K) (Zv rd K))) u)(hD:nD<=1048576)(hL:nL<=1048576)(hT:nT<=1048576)(hK:K<=1048576)(lD:D.length=nD)(lL:L.length=nL)(lT:ts.length=nT)(g:TGood D L ts rn rd)(τ:List Int)(dn:Nat)(hdn:dn≠0)(bdn:(digs dn).length<=1048576)(tok:TauOk ts τ dn)(bτ:Dl τ 2097152)(m Ks:Nat)(x sh:List Int)(v:Value)(hv:Hs w (Vv m x Ks) v)(lx:x.length=m)(hKs:Ks<=4194304)(hsh:∀ j,j < m->sh.getD j 0=x.getD j 0*(dn:Int)-τ.getD (nL-1-j) 0)(Kz:Nat)(hKz:Kz<=4194304)(bsh:Dl sh Kz)(hml:m<=nL)(bW:∀ k,k < m->(digs (fW D sh L nL k).natAbs).length<=3145820)(bN:∀ k,k<=m->(digs (fS D sh L nL k).1.natAbs).length<=8388608)(bq:∀ k,k<=m->(digs (qF D sh L nL dn k)).length<=8388608):
  CG 18 #[u,v] w (QQ ((fS D sh L nL m).1) (qF D sh L nL dn m)):=by
 have hgl:=g.g.len
 have hdim:=g.dim
 have dD:Dl D K:=by
  obtain ⟨_,_,_,_,_,_,_,_,_,q,_,_,_⟩:=h.now
  exact yie q
 have dL:Mdl L K:=by
  obtain ⟨_,_,_,_,_,_,_,_,_,_,q,_,_⟩:=h.now
  exact ytg q
 refine yak (sl:=[(0,(TR (Vv nD D K) (Mv nL L K) (QV nT ts K) (PR (Zv rn K) (Zv rd K)))),(1,(Vv m x Ks))]) Tryz.func18 rfl Tryz.ntmps18 (by simp) (yae rfl (h) (yae rfl (hv) yao)) ?_
 intro a0 S0
 refine wq [.new (.box 41 (TR (Vv nD D K) (Mv nL L K) (QV nT ts K) (PR (Zv rn K) (Zv rd K)))),.new (.box 26 zR)] [.inl 0,.inl 1] [.inr 1] S0 ?_ ?_
 ·exact jj2 (bxA wA (oS 0 0) (ybe yax)) (nwA wA ya3)
 intro _ a1 _ (S1:Zt [_,_] [_])
 refine wq [.val zI,Fw (QQ ((fS D sh L nL 0).1) (qF D sh L nL dn 0)) w,.new (.box 26 zR),.put (.inr 2) (.box 26 ((QQ ((fS D sh L nL 0).1) (qF D sh L nL dn 0)) w.heap.size))] [.inr 0,.inr 1,.inl 2] [.inr 0] S1 ?_ ?_
 ·exact jj4 (yde rfl wA rfl rfl) (cc1 wA (qO 0 9 rfl) (ybr _ _) (fun w u h=>Gives.cast (ypg (A:=0) (k:=0) (by omega) w u (ymd _ _ h)) (ylm (yt3 (sh:=sh) (k:=0) (n:=nL) g.g (by omega) hdn (by omega)).1))) (nwA wA ya3) (puA 2 wA (oO 1 10) yaj ybk ych)
 intro _ a2 _ (S2:Zt [_,_,_] [_])
 refine wp_seq ?_
 refine wq [V (iV 0)] ur3 [.inl 0,.inr 0] S2 ?_ ?_
 ·exact jj1 mC
 intro B3 a3 _ (S3:Zt [_,_,_] [_,_])
 refine wp_block ?_
 refine ybi (fun (k0:Nat) a W=>(k0<=m)/\∃ Bq,Sta w 46 [(2,(.box 41 (TR (Vv nD D K) (Mv nL L K) (QV nT ts K) (PR (Zv rn K) (Zv rd K))))),(4,(.box 26 zR)),(5,(.box 26 ((QQ ((fS D sh L nL k0).1) (qF D sh L nL dn k0)) w.heap.size)))] [(6,iV (k0:Nat)),(1,Vv m x Ks)] Bq a W) (fun (k0:Nat)=>m-k0) ?_ 0 ⟨zhs _,B3,S3.sub [0,1,2] [0,1]⟩
 rintro k0 a4 _ ⟨hcond,_,S4⟩
 by_cases hlt:k0 < m
 ·obtain ⟨hd0,hz0⟩:=yqy g.g (i:=nL-1-k0) (by omega)
  obtain ⟨hd1,hz1⟩:=yqy g.g (i:=nL-1-k0+1) (by omega)
  have bx:(digs (x.getD k0 0).natAbs).length<=Ks:=yb2 (yie hv.now) k0
  have bd0:(digs (dN D (nL-1-k0))).length<=K:=by have q:=yb2 dD (nL-1-k0); rw [hd0,zhy] at q; exact q
  have bd1:(digs (dN D (nL-1-k0+1))).length<=K:=by have q:=yb2 dD (nL-1-k0+1); rw [hd1,zhy] at q; exact q
  have hM:dn*dN D (nL-1-k0+1)≠0:=zh2 hdn hz1
  have bM:(digs (dn*dN D (nL-1-k0+1))).length<=2097152:=zhb (yaq bdn bd1) (by omega)
  have bw:=bW k0 (by omega)
  obtain ⟨hq0,_⟩:=yt3 (sh:=sh) g.g (k:=k0) (n:=nL) (by omega) hdn (by omega)
  have bww:(digs (fW D sh L nL k0*fW D sh L nL k0).natAbs).length<=6291640:=zhb (yet bw bw) (by omega)
  have bMM:(digs (dn*dN D (nL-1-k0+1)*(dn*dN D (nL-1-k0+1)))).length<=4194304:=zhb (yaq bM bM) (by omega)
  have bC:(digs (τ.getD (nL-1-k0) 0*D.getD (nL-1-k0+1) 0-sumZ (fbL sh L nL (nL-1-k0) k0)).natAbs).length<=8388608:=zhb (ysj (k:=5242892) (zhb (yet (yb2 bτ _) (yb2 dD _)) (by omega)) (zhb (yx2 bsh dL) (by omega))) (by omega)
  refine wp_seq ?_
  refine wq [V (iV (k0:Nat)),V (Vv m x Ks),V (iV (m:Nat)),kT] ur3 (.inl 3 :: ur2) S4 ?_ ?_
  ·exact jj4 (mS 0 6) (mS 1 1) (lnA wA (oO 1 12) Tryz.underlying35) (ya8 wA (oO 0 11) (oO 2 13))
  intro B5 a5 W5 (S5:Zt [_,_,_] [_,_,_])
  refine wp_cond_true (S5.bool 0 14 rfl) (wp_skip (thenN (wp_seq (wp_block ?_))))
  refine wq [V (Part a5 2 0),V (Part a5 2 1),V (Mv nL L K),V (iV (nL:Nat)),V (iV ((nL-1:Nat):Int)),V (iV (k0:Nat)),V (iV ((nL-1-k0:Nat):Int)),V (iV ((nL-1-k0:Nat):Int))] ur3 [.inl 7,.inr 1,.inr 2] S5 ?_ ?_
  ·repeat' refine And.intro ?_ ?_
   ·trivial
   ·exact ptZ wA 0 yas
   ·exact ya6 rfl wA rfl (oO 0 17) rfl (fun ρ w b h=>yaw ρ _ _ w b 0 h)
   ·exact plA wA (oO 1 18) 0 rfl rfl ybj
   ·exact lnA wA (oO 2 19) Tryz.underlying36
   ·exact ydu wA (oO 3 20) (yaa _)
   ·exact mS 1 6
   ·exact ydu wA (oO 4 21) (oO 5 22)
   ·exact mO 6 23
  intro B6 a6 W6 (S6:Zt [_,_,_] [_,_,_])
  refine wq [V (Vv m x Ks),V (iV (k0:Nat)),V (AtE 2 (Zv (x.getD k0 0) Ks)),V (Zv (x.getD k0 0) Ks),Fw (QQ (x.getD k0 0) 1) w,V (TR (Vv nD D K) (Mv nL L K) (QV nT ts K) (PR (Zv rn K) (Zv rd K))),V (Vv m x Ks),V (iV (k0:Nat)),V (Vv k0 (x.take k0) Ks),Fw (QQ (τ.getD (nL-1-k0) 0*D.getD (nL-1-k0+1) 0-sumZ (fbL sh L nL (nL-1-k0) k0)) (dn*dN D (nL-1-k0+1))) w,Fw (QQ (fW D sh L nL k0) (dn*dN D (nL-1-k0+1))) w,.new (.box 26 zR),.put (.inr 11) (.box 26 ((QQ (fW D sh L nL k0) (dn*dN D (nL-1-k0+1))) w.heap.size))] [.inr 0,.inr 1,.inr 2,.inl 11] ur3 S6 ?_ ?_
  ·exact ⟨⟨⟨⟨⟨jj8 (mS 2 1) (mS 1 6) (axA wA yb5 (oO 0 24) (oO 1 25) (yej (by omega)) rfl) (alC wA yba yan (oO 2 26)) (cc1 wA (qO 3 27 rfl) (ybr _ _) (fun w u h1=>Gives.cast (ψ:=(QQ (x.getD k0 0) 1)) (ypg (A:=x.getD k0 0) (k:=Ks) (by omega) w u h1) (qq_1 _))) (loA 0 wA yal yax) (mS 2 1) (mS 1 6),ywr rfl wA rfl (oO 6 30) (oO 7 31) ⟨by omega,by omega⟩ (by rw [← List.map_take]; rfl)⟩,ch2 wA (qO 5 29 rfl) (qO 8 32 rfl) (ybr _ _) (fun w u0 u1 h0 h1=>by exact zca w u0 nD nL nT K D L ts rn rd h0 hD hL hT hK lD lL lT g τ dn hdn bdn tok bτ k0 Ks (x.take k0) sh u1 h1 (by rw [zh6]; omega) hKs (fun j hj=>by rw [zbn hj]; exact hsh j (by omega)) Kz hKz bsh (by omega))⟩,cc2 wA (qO 4 28 rfl) (qO 9 33 rfl) (ybr _ _) (fun w u v h1 h2=>Gives.cast (ψ:=(QQ (fW D sh L nL k0) (dn*dN D (nL-1-k0+1)))) (yt6 (k:=4194304) (k':=8388608) Nat.one_ne_zero hM (zhb bx hKs) (zhb yf0 (by omega)) bC (by omega) (by omega) (zha _) w u v h1 h2) (yww hdn hz1 hd1 (hsh k0 hlt) rfl))⟩,nwA wA ya3⟩,puA 11 wA (oO 10 34) yaj ybk ych⟩
  intro _ a7 _ (S7:Zt [_,_,_,_] [_,_,_])
  refine wr [Fw (QQ ((fS D sh L nL k0).1) (qF D sh L nL dn k0)) w,Fw (QQ (fW D sh L nL k0) (dn*dN D (nL-1-k0+1))) w,Fw (QQ (fW D sh L nL k0) (dn*dN D (nL-1-k0+1))) w,Fw (QQ (fW D sh L nL k0*fW D sh L nL k0) (dn*dN D (nL-1-k0+1)*(dn*dN D (nL-1-k0+1)))) w,V (Part a7 2 0),V (SF [(Vv nD D K),(Mv nL L K)]),V (iV ((nL-1-k0:Nat):Int)),Fw (QQ (D.getD (nL-1-k0+1) 0) (dN D (nL-1-k0))) w,Fw (QQ (fW D sh L nL k0*fW D sh L nL k0*D.getD (nL-1-k0+1) 0) (dn*dN D (nL-1-k0+1)*(dn*dN D (nL-1-k0+1))*dN D (nL-1-k0))) w,Fw (QQ ((fS D sh L nL (k0+1)).1) (qF D sh L nL dn (k0+1))) w,.put (.inl 5) (.box 26 ((QQ ((fS D sh L nL (k0+1)).1) (qF D sh L nL dn (k0+1))) w.heap.size))] ur3 [.inr 1,.inr 2] S7 ?_ ?_
  ·exact ⟨⟨⟨jj8 (loA 2 wA yaj ych) (loA 3 wA yaj ych) (loA 3 wA yaj ych) (cc2 wA (qO 1 36 rfl) (qO 2 37 rfl) (ybr _ _) (fun w u v h1 h2=>yt5 (k:=8388608) (k':=8388608) hM hM (by omega) (by omega) (by omega) (by omega) (zha _) (zha _) w u v h1 h2)) (ptZ wA 0 yas) (plA wA (oO 4 39) 0 rfl rfl ycb) (mS 0 7) (ch2 wA (qO 5 40 rfl) (qO 6 41 rfl) (ybr _ _) (fun w u0 u1 h0 h1=>by obtain rfl:u1=_:=h1.now; exact za5 w u0 nD nL K D L h0 hD hL hK lD lL (nL-1-k0) (dN D (nL-1-k0)) g.g (by omega) hd0 hz0)),cc2 wA (qO 3 38 rfl) (qO 7 42 rfl) (ybr _ _) (fun w u v h1 h2=>yt5 (k:=8388608) (k':=8388608) (zh2 hM hM) hz0 (by omega) (by omega) (zhb (yb2 dD _) (by omega)) (by omega) (zha _) (zha _) w u v h1 h2)⟩,cc2 wA (qO 0 35 rfl) (qO 8 43 rfl) (ybr _ _) (fun w u v h1 h2=>Gives.cast (ψ:=(QQ ((fS D sh L nL (k0+1)).1) (qF D sh L nL dn (k0+1)))) (zd6 (k:=8388608) (k':=8388608) hq0 (zh2 (zh2 hM hM) hz0) (bN k0 (by omega)) (bq k0 (by omega)) (zhb (yet bww (yb2 dD _)) (by omega)) (zhb (yaq bMM bd0) (by omega)) (zha _) (zha _) w u v h1 h2) (yto g.g (by omega) hdn (by omega)))⟩,seA 2 wA (oO 9 44) yaj ych ych⟩
  intro _ a8 _ (S8:Zt [_,_,_] [_,_])
  refine inBlkN (thenN ?_)
  refine wr [V (iV (k0:Nat)),V (iV (k0+1:Nat)),V (iV (k0+1:Nat))] ur3 [.inl 2,.inr 1] S8 ?_ ?_
  ·exact jj3 (mS 0 6) (ya7 wA (oO 0 15) (yaa _)) (mO 1 16)
  intro B9 a9 _ (S9:Zt [_,_,_] [_,_])
  refine thenN ?_
  exact ⟨k0+1,⟨by omega,B9,S9.sub [0,1,2] [0,1]⟩,by omega⟩
 ·have ek:k0=m:=by omega
  rw [ek] at S4
  refine wp_seq ?_
  refine wq [V (iV (m:Nat)),V (Vv m x Ks),V (iV (m:Nat)),kF] ur3 (.inl 3 :: ur2) S4 ?_ ?_
  ·exact jj4 (mS 0 6) (mS 1 1) (lnA wA (oO 1 12) Tryz.underlying35) (ybc wA (oO 0 11) (oO 2 13))
  intro B5 a5 W5 (S5:Zt [_,_,_] [_,_,_])
  refine wp_cond_false (S5.bool 0 14 rfl) (wp_exit (thenX (thenX (inBlkE (thenN ?_)))))
  refine wq [Fw (QQ ((fS D sh L nL m).1) (qF D sh L nL dn m)) w,.put (.inl 4) (.box 26 ((QQ ((fS D sh L nL m).1) (qF D sh L nL dn m)) w.heap.size))] ur3 [.inr 1,.inr 2] S5 ?_ ?_
  ·exact jj2 (loA 2 wA yaj ych) (seA 1 wA (oO 0 45) yaj ybk ych)
  intro B6 a6 W6 (S6:Zt [_,_,_] [_,_])
  refine wp_ret ?_
  exact yav S6 rfl (ybb S6 1 4 rfl yaj ych)
theorem in_t (w:World)(u:Value)(nD nL nT K:Nat)(D:List Int)(L:List (List Int))(ts:List (Int × Int))(rn rd:Int)(h:Hs w (TR (Vv nD D K) (Mv nL L K) (QV nT ts K) (PR (Zv rn K) (Zv rd K))) u)(hD:nD<=1048576)(hL:nL<=1048576)(hT:nT<=1048576)(hK:K<=1048576)(lD:D.length=nD)(lL:L.length=nL)(lT:ts.length=nT)(m Ks:Nat)(x:List Int)(v:Value)(hv:Hs w (Vv m x Ks) v)(rd0:Nat)(hrd:rd=(rd0:Int))(hr0:rd0≠0)(N:Int)(q:Nat)(hq:q≠0)(bN:(digs N.natAbs).length<=8388608)(bq:(digs q).length<=8388608)(hno:∀ (w:World) (u v:Value),Hs w (TR (Vv nD D K) (Mv nL L K) (QV nT ts K) (PR (Zv rn K) (Zv rd K))) u->Hs w (Vv m x Ks) v->CG 18 #[u,v] w (QQ N q))(hle:N*(rd0:Int)<=rn*(q:Int)):
  CG 19 #[u,v] w (IS (.bool true)):=by
 have hsg:(N*(rd0:Int)-rn*(q:Int)).sign<=0:=yel (by omega)
 refine yak (sl:=[(0,(TR (Vv nD D K) (Mv nL L K) (QV nT ts K) (PR (Zv rn K) (Zv rd K)))),(1,(Vv m x Ks))]) Tryz.func19 rfl Tryz.ntmps19 (by simp) (yae rfl (h) (yae rfl (hv) yao)) ?_
 intro a0 S0
 refine wq [.new (.box 41 (TR (Vv nD D K) (Mv nL L K) (QV nT ts K) (PR (Zv rn K) (Zv rd K)))),kF] [.inl 0] [.inr 1] S0 ?_ ?_
 ·exact jj2 (bxA wA (oS 0 0) (ybe yax)) mC
 intro _ a1 _ (S1:Zt [_] [_])
 refine wq [V (TR (Vv nD D K) (Mv nL L K) (QV nT ts K) (PR (Zv rn K) (Zv rd K))),V (Vv m x Ks),Fw (QQ N q) w,V (Part a1 2 3),V (PR (Zv rn K) (Zv rd K)),V (iV ((N*(rd0:Int)-rn*(q:Int)).sign)),kT,kT] [.inr 0] [.inl 7] S1 ?_ ?_
 ·repeat' refine And.intro ?_ ?_
  ·trivial
  ·exact loA 0 wA yal yax
  ·exact mS 0 1
  ·exact ch2 wA (qO 0 5 rfl) (qO 1 6 rfl) (ybr _ _) (fun w u0 u1 h0 h1=>hno w u0 u1 h0 h1)
  ·exact ptA wA 0 ybp
  ·exact plA wA (oO 3 8) 0 rfl rfl ycp
  ·exact cc2 wA (qO 2 7 rfl) (qO 4 9 rfl) (yab _) (fun w u v h1 h2=>by rw [hrd] at h2; exact Gives.cast (ψ:=IS (.int .i64 (N*(rd0:Int)-rn*(q:Int)).sign)) (yph (k1:=8388608) (k2:=8388608) (k3:=K) (k4:=K) (yf3 hq) hr0 (zha _) (zha _) (by omega) (by omega) w u v (yne bN bq _ _ h1) h2) (by rw [ytc hq]))
  ·exact yer wA (oO 5 10) (yaa _)
  ·exact mO 6 11
 intro _ a2 _ (S2:Zt [_] [_])
 refine wp_ret ?_
 exact yav S2 rfl (yay S2 0 4 rfl)
theorem in_f (w:World)(u:Value)(nD nL nT K:Nat)(D:List Int)(L:List (List Int))(ts:List (Int × Int))(rn rd:Int)(h:Hs w (TR (Vv nD D K) (Mv nL L K) (QV nT ts K) (PR (Zv rn K) (Zv rd K))) u)(hD:nD<=1048576)(hL:nL<=1048576)(hT:nT<=1048576)(hK:K<=1048576)(lD:D.length=nD)(lL:L.length=nL)(lT:ts.length=nT)(m Ks:Nat)(x:List Int)(v:Value)(hv:Hs w (Vv m x Ks) v)(rd0:Nat)(hrd:rd=(rd0:Int))(hr0:rd0≠0)(N:Int)(q:Nat)(hq:q≠0)(bN:(digs N.natAbs).length<=8388608)(bq:(digs q).length<=8388608)(hno:∀ (w:World) (u v:Value),Hs w (TR (Vv nD D K) (Mv nL L K) (QV nT ts K) (PR (Zv rn K) (Zv rd K))) u->Hs w (Vv m x Ks) v->CG 18 #[u,v] w (QQ N q))(hle:rn*(q:Int) < N*(rd0:Int)):
  CG 19 #[u,v] w (IS (.bool false)):=by
 have hsg:0 < (N*(rd0:Int)-rn*(q:Int)).sign:=by rw [zh7 (by omega)]; decide
 refine yak (sl:=[(0,(TR (Vv nD D K) (Mv nL L K) (QV nT ts K) (PR (Zv rn K) (Zv rd K)))),(1,(Vv m x Ks))]) Tryz.func19 rfl Tryz.ntmps19 (by simp) (yae rfl (h) (yae rfl (hv) yao)) ?_
 intro a0 S0
 refine wq [.new (.box 41 (TR (Vv nD D K) (Mv nL L K) (QV nT ts K) (PR (Zv rn K) (Zv rd K)))),kF] [.inl 0] [.inr 1] S0 ?_ ?_
 ·exact jj2 (bxA wA (oS 0 0) (ybe yax)) mC
 intro _ a1 _ (S1:Zt [_] [_])
 refine wq [V (TR (Vv nD D K) (Mv nL L K) (QV nT ts K) (PR (Zv rn K) (Zv rd K))),V (Vv m x Ks),Fw (QQ N q) w,V (Part a1 2 3),V (PR (Zv rn K) (Zv rd K)),V (iV ((N*(rd0:Int)-rn*(q:Int)).sign)),kF,kF] [.inr 0] [.inl 7] S1 ?_ ?_
 ·repeat' refine And.intro ?_ ?_
  ·trivial
  ·exact loA 0 wA yal yax
  ·exact mS 0 1
  ·exact ch2 wA (qO 0 5 rfl) (qO 1 6 rfl) (ybr _ _) (fun w u0 u1 h0 h1=>hno w u0 u1 h0 h1)
  ·exact ptA wA 0 ybp
  ·exact plA wA (oO 3 8) 0 rfl rfl ycp
  ·exact cc2 wA (qO 2 7 rfl) (qO 4 9 rfl) (yab _) (fun w u v h1 h2=>by rw [hrd] at h2; exact Gives.cast (ψ:=IS (.int .i64 (N*(rd0:Int)-rn*(q:Int)).sign)) (yph (k1:=8388608) (k2:=8388608) (k3:=K) (k4:=K) (yf3 hq) hr0 (zha _) (zha _) (by omega) (by omega) w u v (yne bN bq _ _ h1) h2) (by rw [ytc hq]))
  ·exact yd4 wA (oO 5 10) (yaa _)
  ·exact mO 6 11
 intro _ a2 _ (S2:Zt [_] [_])
 refine wp_ret ?_
 exact yav S2 rfl (yay S2 0 4 rfl)
theorem zfu (w:World)(u:Value)(nD nL nT K:Nat)(D:List Int)(L:List (List Int))(ts:List (Int × Int))(rn rd:Int)(h:Hs w (TR (Vv nD D K) (Mv nL L K) (QV nT ts K) (PR (Zv rn K) (Zv rd K))) u)(hD:nD<=1048576)(hL:nL<=1048576)(hT:nT<=1048576)(hK:K<=1048576)(lD:D.length=nD)(lL:L.length=nL)(lT:ts.length=nT)(g:Bad D L):
  CG 14 #[u] w (IS (.bool false)):=by
 refine yak (sl:=[(0,(TR (Vv nD D K) (Mv nL L K) (QV nT ts K) (PR (Zv rn K) (Zv rd K))))]) Tryz.func14 rfl Tryz.ntmps14 (by simp) (yae rfl (h) yao) ?_
 intro a0 S0
 refine wq [.new (.box 41 (TR (Vv nD D K) (Mv nL L K) (QV nT ts K) (PR (Zv rn K) (Zv rd K)))),kF] [.inl 0] [] S0 ?_ ?_
 ·exact jj2 (bxA wA (oS 0 0) (ybe yax)) mC
 intro _ a1 _ (S1:Zt [_] [])
 refine wp_seq ?_
 refine wq [V (Part a1 1 0),V (SF [(Vv nD D K),(Mv nL L K)]),kF,kT,kT,.off,.off,.off,.off,.off,kT,kT,.off,.off,.off,.off,V (Is (undef)),.off,.off,.off,.off,.off,.off,.off,.off,.off,kT] [.inr 0] [.inl 26] S1 ?_ ?_
 ·exact ⟨⟨⟨⟨⟨⟨⟨⟨⟨⟨⟨⟨⟨⟨⟨⟨⟨⟨⟨jj8 (ptZ wA 0 yas) (plA wA (oO 0 4) 0 rfl rfl ycb) (ch1 wA (qO 1 5 rfl) (yab _) (fun w u h=>zc7 w u nD nL K D L h hD hL hK lD lL g)) (ycc wA (oO 2 6)) (mO 3 7) (oF 4 8) (oF 4 8) (oF 4 8),oF 4 8⟩,oF 4 8⟩,pT wA (oO 4 8) (yaa _)⟩,mO 10 14⟩,oF 11 15⟩,oF 11 15⟩,oF 11 15⟩,oF 11 15⟩,yin 11 15 rfl rfl rfl (by kernel_rfl) rfl (by decide)⟩,ybx 16 20 rfl rfl rfl (by kernel_rfl) rfl⟩,ybx 16 20 rfl rfl rfl (by kernel_rfl) rfl⟩,ybx 16 20 rfl rfl rfl (by kernel_rfl) rfl⟩,ybx 16 20 rfl rfl rfl (by kernel_rfl) rfl⟩,ybx 16 20 rfl rfl rfl (by kernel_rfl) rfl⟩,ybx 16 20 rfl rfl rfl (by kernel_rfl) rfl⟩,ybx 16 20 rfl rfl rfl (by kernel_rfl) rfl⟩,ybx 16 20 rfl rfl rfl (by kernel_rfl) rfl⟩,oF 11 15⟩,pT wA (oO 11 15) (yaa _)⟩
 intro _ a2 _ (S2:Zt [_] [_])
 refine wp_cond_true (S2.bool 0 30 rfl) ?_
 refine wq [kF] [.inr 0] [.inl 0] S2 ?_ ?_
 ·exact jj1 mC
 intro _ a3 _ (S3:Zt [_] [_])
 refine wp_ret (thenR ?_)
 exact yav S3 rfl (yay S3 0 2 rfl)
theorem zft (w:World)(u:Value)(nD nL nT K:Nat)(D:List Int)(L:List (List Int))(ts:List (Int × Int))(rn rd:Int)(h:Hs w (TR (Vv nD D K) (Mv nL L K) (QV nT ts K) (PR (Zv rn K) (Zv rd K))) u)(hD:nD<=1048576)(hL:nL<=1048576)(hT:nT<=1048576)(hK:K<=1048576)(lD:D.length=nD)(lL:L.length=nL)(lT:ts.length=nT)(g:Good D L)(g1:12 < L.length):
  CG 14 #[u] w (IS (.bool false)):=by
 refine yak (sl:=[(0,(TR (Vv nD D K) (Mv nL L K) (QV nT ts K) (PR (Zv rn K) (Zv rd K))))]) Tryz.func14 rfl Tryz.ntmps14 (by simp) (yae rfl (h) yao) ?_
 intro a0 S0
 refine wq [.new (.box 41 (TR (Vv nD D K) (Mv nL L K) (QV nT ts K) (PR (Zv rn K) (Zv rd K)))),kF] [.inl 0] [] S0 ?_ ?_
 ·exact jj2 (bxA wA (oS 0 0) (ybe yax)) mC
 intro _ a1 _ (S1:Zt [_] [])
 refine wp_seq ?_
 refine wq [V (Part a1 1 0),V (SF [(Vv nD D K),(Mv nL L K)]),kT,kF,kF,V (Part a1 1 0),V (Part a1 1 1),V (Mv nL L K),V (iV (nL:Nat)),kT,kT,kT,.off,.off,.off,.off,V (Is (undef)),.off,.off,.off,.off,.off,.off,.off,.off,.off,kT] [.inr 0] [.inl 26] S1 ?_ ?_
 ·exact ⟨⟨⟨⟨⟨⟨⟨⟨⟨⟨⟨⟨⟨⟨⟨⟨⟨⟨⟨jj8 (ptZ wA 0 yas) (plA wA (oO 0 4) 0 rfl rfl ycb) (ch1 wA (qO 1 5 rfl) (yab _) (fun w u h=>yhg w u nD nL K D L h hD hL hK lD lL g)) (ycc wA (oO 2 6)) (mO 3 7) (ptZ (wI 4 8) 0 yas) (ya6 rfl (wI 4 8) rfl (oO 5 9) rfl (fun ρ w b h=>yaw ρ _ _ w b 0 h)) (plA (wI 4 8) (oO 6 10) 0 rfl rfl ybj),lnA (wI 4 8) (oO 7 11) Tryz.underlying36⟩,yd3 (wI 4 8) (oO 8 12) (yaa _)⟩,pF wA (oO 4 8) (oO 9 13)⟩,mO 10 14⟩,oF 11 15⟩,oF 11 15⟩,oF 11 15⟩,oF 11 15⟩,yin 11 15 rfl rfl rfl (by kernel_rfl) rfl (by decide)⟩,ybx 16 20 rfl rfl rfl (by kernel_rfl) rfl⟩,ybx 16 20 rfl rfl rfl (by kernel_rfl) rfl⟩,ybx 16 20 rfl rfl rfl (by kernel_rfl) rfl⟩,ybx 16 20 rfl rfl rfl (by kernel_rfl) rfl⟩,ybx 16 20 rfl rfl rfl (by kernel_rfl) rfl⟩,ybx 16 20 rfl rfl rfl (by kernel_rfl) rfl⟩,ybx 16 20 rfl rfl rfl (by kernel_rfl) rfl⟩,ybx 16 20 rfl rfl rfl (by kernel_rfl) rfl⟩,oF 11 15⟩,pT wA (oO 11 15) (yaa _)⟩
 intro _ a2 _ (S2:Zt [_] [_])
 refine wp_cond_true (S2.bool 0 30 rfl) ?_
 refine wq [kF] [.inr 0] [.inl 0] S2 ?_ ?_
 ·exact jj1 mC
 intro _ a3 _ (S3:Zt [_] [_])
 refine wp_ret (thenR ?_)
 exact yav S3 rfl (yay S3 0 2 rfl)
theorem zfv (w:World)(u:Value)(nD nL nT K:Nat)(D:List Int)(L:List (List Int))(ts:List (Int × Int))(rn rd:Int)(h:Hs w (TR (Vv nD D K) (Mv nL L K) (QV nT ts K) (PR (Zv rn K) (Zv rd K))) u)(hD:nD<=1048576)(hL:nL<=1048576)(hT:nT<=1048576)(hK:K<=1048576)(lD:D.length=nD)(lL:L.length=nL)(lT:ts.length=nT)(g:Good D L)(g1:L.length<=12)(g2:ts.length≠0)(g3:ts.length≠L.length):
  CG 14 #[u] w (IS (.bool false)):=by
 refine yak (sl:=[(0,(TR (Vv nD D K) (Mv nL L K) (QV nT ts K) (PR (Zv rn K) (Zv rd K))))]) Tryz.func14 rfl Tryz.ntmps14 (by simp) (yae rfl (h) yao) ?_
 intro a0 S0
 refine wq [.new (.box 41 (TR (Vv nD D K) (Mv nL L K) (QV nT ts K) (PR (Zv rn K) (Zv rd K)))),kF] [.inl 0] [] S0 ?_ ?_
 ·exact jj2 (bxA wA (oS 0 0) (ybe yax)) mC
 intro _ a1 _ (S1:Zt [_] [])
 refine wp_seq ?_
 refine wq [V (Part a1 1 0),V (SF [(Vv nD D K),(Mv nL L K)]),kT,kF,kF,V (Part a1 1 0),V (Part a1 1 1),V (Mv nL L K),V (iV (nL:Nat)),kF,kF,kF,V (Part a1 1 2),V (QV nT ts K),V (iV (nT:Nat)),kT,kT,V (Part a1 1 2),V (QV nT ts K),V (iV (nT:Nat)),V (Part a1 1 0),V (Part a1 1 1),V (Mv nL L K),V (iV (nL:Nat)),kT,kT,kT] [.inr 0] [.inl 26] S1 ?_ ?_
 ·exact ⟨⟨⟨⟨⟨⟨⟨⟨⟨⟨⟨⟨⟨⟨⟨⟨⟨⟨⟨jj8 (ptZ wA 0 yas) (plA wA (oO 0 4) 0 rfl rfl ycb) (ch1 wA (qO 1 5 rfl) (yab _) (fun w u h=>yhg w u nD nL K D L h hD hL hK lD lL g)) (ycc wA (oO 2 6)) (mO 3 7) (ptZ (wI 4 8) 0 yas) (ya6 rfl (wI 4 8) rfl (oO 5 9) rfl (fun ρ w b h=>yaw ρ _ _ w b 0 h)) (plA (wI 4 8) (oO 6 10) 0 rfl rfl ybj),lnA (wI 4 8) (oO 7 11) Tryz.underlying36⟩,ybv (wI 4 8) (oO 8 12) (yaa _)⟩,pF wA (oO 4 8) (oO 9 13)⟩,mO 10 14⟩,ptA (wI 11 15) 0 yap⟩,plA (wI 11 15) (oO 12 16) 0 rfl rfl yat⟩,lnA (wI 11 15) (oO 13 17) Tryz.underlying39⟩,ybz (wI 11 15) (oO 14 18) (yaa _)⟩,mW (wI 11 15) (oO 15 19)⟩,ptA (wI 16 20) 0 yap⟩,plA (wI 16 20) (oO 17 21) 0 rfl rfl yat⟩,lnA (wI 16 20) (oO 18 22) Tryz.underlying39⟩,ptZ (wI 16 20) 0 yas⟩,ya6 rfl (wI 16 20) rfl (oO 20 24) rfl (fun ρ w b h=>yaw ρ _ _ w b 0 h)⟩,plA (wI 16 20) (oO 21 25) 0 rfl rfl ybj⟩,lnA (wI 16 20) (oO 22 26) Tryz.underlying36⟩,ybz (wI 16 20) (oO 19 23) (oO 23 27)⟩,pT (wI 11 15) (oO 16 20) (oO 24 28)⟩,pF wA (oO 11 15) (oO 25 29)⟩
 intro _ a2 _ (S2:Zt [_] [_])
 refine wp_cond_true (S2.bool 0 30 rfl) ?_
 refine wq [kF] [.inr 0] [.inl 0] S2 ?_ ?_
 ·exact jj1 mC
 intro _ a3 _ (S3:Zt [_] [_])
 refine wp_ret (thenR ?_)
 exact yav S3 rfl (yay S3 0 2 rfl)
abbrev yp3 (K:Nat)(ts:List (Int × Int))(k0:Nat):Pr:=PR (Zv ((ts.getD k0 (0,0)).1) K) (Zv ((ts.getD k0 (0,0)).2) K)
theorem zfw (w:World)(u:Value)(nD nL nT K:Nat)(D:List Int)(L:List (List Int))(ts:List (Int × Int))(rn rd:Int)(h:Hs w (TR (Vv nD D K) (Mv nL L K) (QV nT ts K) (PR (Zv rn K) (Zv rd K))) u)(hD:nD<=1048576)(hL:nL<=1048576)(hT:nT<=1048576)(hK:K<=1048576)(lD:D.length=nD)(lL:L.length=nL)(lT:ts.length=nT)(g:Good D L)(g1:L.length<=12)(g2:ts.length≠0)(g3:ts.length=L.length)(i0:Nat)(g4:i0 < ts.length)(g6:∀ j,j < i0->0 < (ts.getD j (0,0)).2)(g7:(ts.getD i0 (0,0)).2<=0):
  CG 14 #[u] w (IS (.bool false)):=by
 refine yak (sl:=[(0,(TR (Vv nD D K) (Mv nL L K) (QV nT ts K) (PR (Zv rn K) (Zv rd K))))]) Tryz.func14 rfl Tryz.ntmps14 (by simp) (yae rfl (h) yao) ?_
 intro a0 S0
 refine wq [.new (.box 41 (TR (Vv nD D K) (Mv nL L K) (QV nT ts K) (PR (Zv rn K) (Zv rd K)))),kF] [.inl 0] [] S0 ?_ ?_
 ·exact jj2 (bxA wA (oS 0 0) (ybe yax)) mC
 intro _ a1 _ (S1:Zt [_] [])
 refine wp_seq ?_
 refine wq [V (Part a1 1 0),V (SF [(Vv nD D K),(Mv nL L K)]),kT,kF,kF,V (Part a1 1 0),V (Part a1 1 1),V (Mv nL L K),V (iV (nL:Nat)),kF,kF,kF,V (Part a1 1 2),V (QV nT ts K),V (iV (nT:Nat)),kT,kT,V (Part a1 1 2),V (QV nT ts K),V (iV (nT:Nat)),V (Part a1 1 0),V (Part a1 1 1),V (Mv nL L K),V (iV (nL:Nat)),kF,kF,kF] [.inr 0] [.inl 26] S1 ?_ ?_
 ·exact ⟨⟨⟨⟨⟨⟨⟨⟨⟨⟨⟨⟨⟨⟨⟨⟨⟨⟨⟨jj8 (ptZ wA 0 yas) (plA wA (oO 0 4) 0 rfl rfl ycb) (ch1 wA (qO 1 5 rfl) (yab _) (fun w u h=>yhg w u nD nL K D L h hD hL hK lD lL g)) (ycc wA (oO 2 6)) (mO 3 7) (ptZ (wI 4 8) 0 yas) (ya6 rfl (wI 4 8) rfl (oO 5 9) rfl (fun ρ w b h=>yaw ρ _ _ w b 0 h)) (plA (wI 4 8) (oO 6 10) 0 rfl rfl ybj),lnA (wI 4 8) (oO 7 11) Tryz.underlying36⟩,ybv (wI 4 8) (oO 8 12) (yaa _)⟩,pF wA (oO 4 8) (oO 9 13)⟩,mO 10 14⟩,ptA (wI 11 15) 0 yap⟩,plA (wI 11 15) (oO 12 16) 0 rfl rfl yat⟩,lnA (wI 11 15) (oO 13 17) Tryz.underlying39⟩,ybz (wI 11 15) (oO 14 18) (yaa _)⟩,mW (wI 11 15) (oO 15 19)⟩,ptA (wI 16 20) 0 yap⟩,plA (wI 16 20) (oO 17 21) 0 rfl rfl yat⟩,lnA (wI 16 20) (oO 18 22) Tryz.underlying39⟩,ptZ (wI 16 20) 0 yas⟩,ya6 rfl (wI 16 20) rfl (oO 20 24) rfl (fun ρ w b h=>yaw ρ _ _ w b 0 h)⟩,plA (wI 16 20) (oO 21 25) 0 rfl rfl ybj⟩,lnA (wI 16 20) (oO 22 26) Tryz.underlying36⟩,ybn (wI 16 20) (oO 19 23) (oO 23 27)⟩,pT (wI 11 15) (oO 16 20) (oO 24 28)⟩,pF wA (oO 11 15) (oO 25 29)⟩
 intro _ a2 _ (S2:Zt [_] [_])
 refine wp_cond_false (S2.bool 0 30 rfl) (wp_skip (thenN (wp_seq ?_)))
 refine wq [V (iV 0)] [.inr 0] [.inl 0] S2 ?_ ?_
 ·exact jj1 mC
 intro B3 a3 _ (S3:Zt [_] [_])
 refine wp_block ?_
 refine ybi (fun (k0:Nat) a W=>(k0<=i0)/\∃ Bq,Sta w 55 [(1,(.box 41 (TR (Vv nD D K) (Mv nL L K) (QV nT ts K) (PR (Zv rn K) (Zv rd K)))))] [(3,iV (k0:Nat))] Bq a W) (fun (k0:Nat)=>nT-k0) ?_ 0 ⟨zhs _,B3,S3.sub [0] [0]⟩
 rintro k0 a4 _ ⟨hcond,_,S4⟩
 by_cases hlt:k0 < i0
 ·have hdv:decide (0 < (ts.getD k0 (0,0)).2.sign)=true:=by rw [yd9 (g6 k0 (by omega))]; rfl
  refine wp_seq ?_
  refine wq [V (iV (k0:Nat)),V (Part a4 1 2),V (QV nT ts K),V (iV (nT:Nat)),kT] [.inr 0] [.inl 4,.inr 0] S4 ?_ ?_
  ·exact jj5 (mS 0 3) (ptA wA 0 yap) (plA wA (oO 1 32) 0 rfl rfl yat) (lnA wA (oO 2 33) Tryz.underlying39) (ya8 wA (oO 0 31) (oO 3 34))
  intro B5 a5 W5 (S5:Zt [_] [_,_])
  refine wp_cond_true (S5.bool 0 35 rfl) (wp_skip (thenN (wp_seq (wp_block ?_))))
  refine wq [V (Part a5 1 2),V (QV nT ts K),V (iV (k0:Nat)),V (AtE 4 (yp3 K ts k0)),V (yp3 K ts k0),kT,kF] [.inr 0] [.inl 6,.inr 1] S5 ?_ ?_
  ·repeat' refine And.intro ?_ ?_
   ·trivial
   ·exact ptA wA 0 yap
   ·exact plA wA (oO 0 38) 0 rfl rfl yat
   ·exact mS 1 3
   ·exact axA wA ydd (oO 1 39) (oO 2 40) (ygt (by omega)) rfl
   ·exact alC wA yc6 (ybm yan yan) (oO 3 41)
   ·exact cc1 wA (qO 4 42 rfl) (yab _) (fun w u h=>Gives.cast (ψ:=(IS (.bool true))) (ydj (k1:=K) (k2:=K) (by omega) (by omega) w u h) (by rw [hdv]))
   ·exact ycc wA (oO 5 43)
  intro B6 a6 W6 (S6:Zt [_] [_,_])
  refine wp_cond_false (S6.bool 0 44 rfl) (wp_skip (inBlkN (thenN ?_)))
  refine wr [V (iV (k0:Nat)),V (iV (k0+1:Nat)),V (iV (k0+1:Nat))] [.inr 0] [.inl 2] S6 ?_ ?_
  ·exact jj3 (mS 1 3) (ya7 wA (oO 0 36) (yaa _)) (mO 1 37)
  intro B7 a7 W7 (S7:Zt [_] [_])
  refine thenN ?_
  exact ⟨k0+1,⟨by omega,B7,S7.sub [0] [0]⟩,by omega⟩
 ·have ek:k0=i0:=by omega
  rw [← ek] at g7
  have hdv:decide (0 < (ts.getD k0 (0,0)).2.sign)=false:=decide_eq_false (by have:=yel g7; omega)
  refine wp_seq ?_
  refine wq [V (iV (k0:Nat)),V (Part a4 1 2),V (QV nT ts K),V (iV (nT:Nat)),kT] [.inr 0] [.inl 4,.inr 0] S4 ?_ ?_
  ·exact jj5 (mS 0 3) (ptA wA 0 yap) (plA wA (oO 1 32) 0 rfl rfl yat) (lnA wA (oO 2 33) Tryz.underlying39) (ya8 wA (oO 0 31) (oO 3 34))
  intro B5 a5 W5 (S5:Zt [_] [_,_])
  refine wp_cond_true (S5.bool 0 35 rfl) (wp_skip (thenN (wp_seq (wp_block ?_))))
  refine wq [V (Part a5 1 2),V (QV nT ts K),V (iV (k0:Nat)),V (AtE 4 (yp3 K ts k0)),V (yp3 K ts k0),kF,kT] [.inr 0] [.inl 6,.inr 1] S5 ?_ ?_
  ·repeat' refine And.intro ?_ ?_
   ·trivial
   ·exact ptA wA 0 yap
   ·exact plA wA (oO 0 38) 0 rfl rfl yat
   ·exact mS 1 3
   ·exact axA wA ydd (oO 1 39) (oO 2 40) (ygt (by omega)) rfl
   ·exact alC wA yc6 (ybm yan yan) (oO 3 41)
   ·exact cc1 wA (qO 4 42 rfl) (yab _) (fun w u h=>Gives.cast (ψ:=(IS (.bool false))) (ydj (k1:=K) (k2:=K) (by omega) (by omega) w u h) (by rw [hdv]))
   ·exact ycc wA (oO 5 43)
  intro B6 a6 W6 (S6:Zt [_] [_,_])
  refine wp_cond_true (S6.bool 0 44 rfl) ?_
  refine wq [kF] [.inr 0] [.inl 0,.inr 1] S6 ?_ ?_
  ·exact jj1 mC
  intro B7 a7 W7 (S7:Zt [_] [_,_])
  refine wp_ret (inBlkR (thenR (thenR (inBlkR (thenR ?_)))))
  exact yav S7 rfl (yay S7 0 2 rfl)
theorem zcm (w:World)(u:Value)(nD nL nT K:Nat)(D:List Int)(L:List (List Int))(ts:List (Int × Int))(rn rd:Int)(h:Hs w (TR (Vv nD D K) (Mv nL L K) (QV nT ts K) (PR (Zv rn K) (Zv rd K))) u)(hD:nD<=1048576)(hL:nL<=1048576)(hT:nT<=1048576)(hK:K<=1048576)(lD:D.length=nD)(lL:L.length=nL)(lT:ts.length=nT)(g:Good D L)(g1:L.length<=12)(hl:ts.length=0)(g5:∀ i,i < ts.length->0 < (ts.getD i (0,0)).2)(hrv:decide (0 < rd.sign)=false):
  CG 14 #[u] w (IS (.bool false)):=by
 refine yak (sl:=[(0,(TR (Vv nD D K) (Mv nL L K) (QV nT ts K) (PR (Zv rn K) (Zv rd K))))]) Tryz.func14 rfl Tryz.ntmps14 (by simp) (yae rfl (h) yao) ?_
 intro a0 S0
 refine wq [.new (.box 41 (TR (Vv nD D K) (Mv nL L K) (QV nT ts K) (PR (Zv rn K) (Zv rd K)))),kF] [.inl 0] [] S0 ?_ ?_
 ·exact jj2 (bxA wA (oS 0 0) (ybe yax)) mC
 intro _ a1 _ (S1:Zt [_] [])
 refine wp_seq ?_
 refine wq [V (Part a1 1 0),V (SF [(Vv nD D K),(Mv nL L K)]),kT,kF,kF,V (Part a1 1 0),V (Part a1 1 1),V (Mv nL L K),V (iV (nL:Nat)),kF,kF,kF,V (Part a1 1 2),V (QV nT ts K),V (iV (nT:Nat)),kF,kF,.off,.off,.off,.off,.off,.off,.off,.off,kF,kF] [.inr 0] [.inl 26] S1 ?_ ?_
 ·exact ⟨⟨⟨⟨⟨⟨⟨⟨⟨⟨⟨⟨⟨⟨⟨⟨⟨⟨⟨jj8 (ptZ wA 0 yas) (plA wA (oO 0 4) 0 rfl rfl ycb) (ch1 wA (qO 1 5 rfl) (yab _) (fun w u h=>yhg w u nD nL K D L h hD hL hK lD lL g)) (ycc wA (oO 2 6)) (mO 3 7) (ptZ (wI 4 8) 0 yas) (ya6 rfl (wI 4 8) rfl (oO 5 9) rfl (fun ρ w b h=>yaw ρ _ _ w b 0 h)) (plA (wI 4 8) (oO 6 10) 0 rfl rfl ybj),lnA (wI 4 8) (oO 7 11) Tryz.underlying36⟩,ybv (wI 4 8) (oO 8 12) (yaa _)⟩,pF wA (oO 4 8) (oO 9 13)⟩,mO 10 14⟩,ptA (wI 11 15) 0 yap⟩,plA (wI 11 15) (oO 12 16) 0 rfl rfl yat⟩,lnA (wI 11 15) (oO 13 17) Tryz.underlying39⟩,ybn (wI 11 15) (oO 14 18) (yaa _)⟩,mW (wI 11 15) (oO 15 19)⟩,oF 16 20⟩,oF 16 20⟩,oF 16 20⟩,oF 16 20⟩,oF 16 20⟩,oF 16 20⟩,oF 16 20⟩,oF 16 20⟩,pF (wI 11 15) (oO 16 20) (yaa _)⟩,pF wA (oO 11 15) (oO 25 29)⟩
 intro _ a2 _ (S2:Zt [_] [_])
 refine wp_cond_false (S2.bool 0 30 rfl) (wp_skip (thenN (wp_seq ?_)))
 refine wq [V (iV 0)] [.inr 0] [.inl 0] S2 ?_ ?_
 ·exact jj1 mC
 intro B3 a3 _ (S3:Zt [_] [_])
 refine wp_block ?_
 refine ybi (fun (k0:Nat) a W=>(k0<=nT)/\∃ Bq,Sta w 55 [(1,(.box 41 (TR (Vv nD D K) (Mv nL L K) (QV nT ts K) (PR (Zv rn K) (Zv rd K)))))] [(3,iV (k0:Nat))] Bq a W) (fun (k0:Nat)=>nT-k0) ?_ 0 ⟨zhs _,B3,S3.sub [0] [0]⟩
 rintro k0 a4 _ ⟨hcond,_,S4⟩
 by_cases hlt:k0 < nT
 ·have hdv:decide (0 < (ts.getD k0 (0,0)).2.sign)=true:=by rw [yd9 (g5 k0 (by omega))]; rfl
  refine wp_seq ?_
  refine wq [V (iV (k0:Nat)),V (Part a4 1 2),V (QV nT ts K),V (iV (nT:Nat)),kT] [.inr 0] [.inl 4,.inr 0] S4 ?_ ?_
  ·exact jj5 (mS 0 3) (ptA wA 0 yap) (plA wA (oO 1 32) 0 rfl rfl yat) (lnA wA (oO 2 33) Tryz.underlying39) (ya8 wA (oO 0 31) (oO 3 34))
  intro B5 a5 W5 (S5:Zt [_] [_,_])
  refine wp_cond_true (S5.bool 0 35 rfl) (wp_skip (thenN (wp_seq (wp_block ?_))))
  refine wq [V (Part a5 1 2),V (QV nT ts K),V (iV (k0:Nat)),V (AtE 4 (PR (Zv ((ts.getD k0 (0,0)).1) K) (Zv ((ts.getD k0 (0,0)).2) K))),V (PR (Zv ((ts.getD k0 (0,0)).1) K) (Zv ((ts.getD k0 (0,0)).2) K)),kT,kF] [.inr 0] [.inl 6,.inr 1] S5 ?_ ?_
  ·repeat' refine And.intro ?_ ?_
   ·trivial
   ·exact ptA wA 0 yap
   ·exact plA wA (oO 0 38) 0 rfl rfl yat
   ·exact mS 1 3
   ·exact axA wA ydd (oO 1 39) (oO 2 40) (ygt (by omega)) rfl
   ·exact alC wA yc6 (ybm yan yan) (oO 3 41)
   ·exact cc1 wA (qO 4 42 rfl) (yab _) (fun w u h=>Gives.cast (ψ:=(IS (.bool true))) (ydj (k1:=K) (k2:=K) (by omega) (by omega) w u h) (by rw [hdv]))
   ·exact ycc wA (oO 5 43)
  intro B6 a6 W6 (S6:Zt [_] [_,_])
  refine wp_cond_false (S6.bool 0 44 rfl) (wp_skip (inBlkN (thenN ?_)))
  refine wr [V (iV (k0:Nat)),V (iV (k0+1:Nat)),V (iV (k0+1:Nat))] [.inr 0] [.inl 2] S6 ?_ ?_
  ·exact jj3 (mS 1 3) (ya7 wA (oO 0 36) (yaa _)) (mO 1 37)
  intro B7 a7 _ (S7:Zt [_] [_])
  refine thenN ?_
  exact ⟨k0+1,⟨by omega,B7,S7.sub [0] [0]⟩,by omega⟩
 ·skip
  refine wp_seq ?_
  refine wq [V (iV (k0:Nat)),V (Part a4 1 2),V (QV nT ts K),V (iV (nT:Nat)),kF] [.inr 0] [.inl 4,.inr 0] S4 ?_ ?_
  ·exact jj5 (mS 0 3) (ptA wA 0 yap) (plA wA (oO 1 32) 0 rfl rfl yat) (lnA wA (oO 2 33) Tryz.underlying39) (ybc wA (oO 0 31) (oO 3 34))
  intro B5 a5 W5 (S5:Zt [_] [_,_])
  refine wp_cond_false (S5.bool 0 35 rfl) (wp_exit (thenX (thenX (inBlkE (thenN ?_)))))
  refine wq [V (Part a5 1 3),V (PR (Zv rn K) (Zv rd K)),kF,kF,.off,.off,.off,.off,.off,kF,kF] [.inr 0] [.inl 10,.inr 1] S5 ?_ ?_
  ·exact ⟨⟨⟨jj8 (ptA wA 0 ybp) (plA wA (oO 0 45) 0 rfl rfl ycp) (cc1 wA (qO 1 46 rfl) (yab _) (fun w u h=>Gives.cast (ψ:=(IS (.bool false))) (ydj (k1:=K) (k2:=K) (by omega) (by omega) w u h) (by rw [hrv]))) (mO 2 47) (oF 3 48) (oF 3 48) (oF 3 48) (oF 3 48),oF 3 48⟩,pF wA (oO 3 48) (yaa _)⟩,mO 9 54⟩
  intro B6 a6 W6 (S6:Zt [_] [_,_])
  refine wp_ret ?_
  exact yav S6 rfl (yay S6 0 2 rfl)
theorem zck (w:World)(u:Value)(nD nL nT K:Nat)(D:List Int)(L:List (List Int))(ts:List (Int × Int))(rn rd:Int)(h:Hs w (TR (Vv nD D K) (Mv nL L K) (QV nT ts K) (PR (Zv rn K) (Zv rd K))) u)(hD:nD<=1048576)(hL:nL<=1048576)(hT:nT<=1048576)(hK:K<=1048576)(lD:D.length=nD)(lL:L.length=nL)(lT:ts.length=nT)(g:Good D L)(g1:L.length<=12)(hl:ts.length=0)(g5:∀ i,i < ts.length->0 < (ts.getD i (0,0)).2)(hrv:decide (0 < rd.sign)=true)(g7:rn.sign < 0):
  CG 14 #[u] w (IS (.bool false)):=by
 refine yak (sl:=[(0,(TR (Vv nD D K) (Mv nL L K) (QV nT ts K) (PR (Zv rn K) (Zv rd K))))]) Tryz.func14 rfl Tryz.ntmps14 (by simp) (yae rfl (h) yao) ?_
 intro a0 S0
 refine wq [.new (.box 41 (TR (Vv nD D K) (Mv nL L K) (QV nT ts K) (PR (Zv rn K) (Zv rd K)))),kF] [.inl 0] [] S0 ?_ ?_
 ·exact jj2 (bxA wA (oS 0 0) (ybe yax)) mC
 intro _ a1 _ (S1:Zt [_] [])
 refine wp_seq ?_
 refine wq [V (Part a1 1 0),V (SF [(Vv nD D K),(Mv nL L K)]),kT,kF,kF,V (Part a1 1 0),V (Part a1 1 1),V (Mv nL L K),V (iV (nL:Nat)),kF,kF,kF,V (Part a1 1 2),V (QV nT ts K),V (iV (nT:Nat)),kF,kF,.off,.off,.off,.off,.off,.off,.off,.off,kF,kF] [.inr 0] [.inl 26] S1 ?_ ?_
 ·exact ⟨⟨⟨⟨⟨⟨⟨⟨⟨⟨⟨⟨⟨⟨⟨⟨⟨⟨⟨jj8 (ptZ wA 0 yas) (plA wA (oO 0 4) 0 rfl rfl ycb) (ch1 wA (qO 1 5 rfl) (yab _) (fun w u h=>yhg w u nD nL K D L h hD hL hK lD lL g)) (ycc wA (oO 2 6)) (mO 3 7) (ptZ (wI 4 8) 0 yas) (ya6 rfl (wI 4 8) rfl (oO 5 9) rfl (fun ρ w b h=>yaw ρ _ _ w b 0 h)) (plA (wI 4 8) (oO 6 10) 0 rfl rfl ybj),lnA (wI 4 8) (oO 7 11) Tryz.underlying36⟩,ybv (wI 4 8) (oO 8 12) (yaa _)⟩,pF wA (oO 4 8) (oO 9 13)⟩,mO 10 14⟩,ptA (wI 11 15) 0 yap⟩,plA (wI 11 15) (oO 12 16) 0 rfl rfl yat⟩,lnA (wI 11 15) (oO 13 17) Tryz.underlying39⟩,ybn (wI 11 15) (oO 14 18) (yaa _)⟩,mW (wI 11 15) (oO 15 19)⟩,oF 16 20⟩,oF 16 20⟩,oF 16 20⟩,oF 16 20⟩,oF 16 20⟩,oF 16 20⟩,oF 16 20⟩,oF 16 20⟩,pF (wI 11 15) (oO 16 20) (yaa _)⟩,pF wA (oO 11 15) (oO 25 29)⟩
 intro _ a2 _ (S2:Zt [_] [_])
 refine wp_cond_false (S2.bool 0 30 rfl) (wp_skip (thenN (wp_seq ?_)))
 refine wq [V (iV 0)] [.inr 0] [.inl 0] S2 ?_ ?_
 ·exact jj1 mC
 intro B3 a3 _ (S3:Zt [_] [_])
 refine wp_block ?_
 refine ybi (fun (k0:Nat) a W=>(k0<=nT)/\∃ Bq,Sta w 55 [(1,(.box 41 (TR (Vv nD D K) (Mv nL L K) (QV nT ts K) (PR (Zv rn K) (Zv rd K)))))] [(3,iV (k0:Nat))] Bq a W) (fun (k0:Nat)=>nT-k0) ?_ 0 ⟨zhs _,B3,S3.sub [0] [0]⟩
 rintro k0 a4 _ ⟨hcond,_,S4⟩
 by_cases hlt:k0 < nT
 ·have hdv:decide (0 < (ts.getD k0 (0,0)).2.sign)=true:=by rw [yd9 (g5 k0 (by omega))]; rfl
  refine wp_seq ?_
  refine wq [V (iV (k0:Nat)),V (Part a4 1 2),V (QV nT ts K),V (iV (nT:Nat)),kT] [.inr 0] [.inl 4,.inr 0] S4 ?_ ?_
  ·exact jj5 (mS 0 3) (ptA wA 0 yap) (plA wA (oO 1 32) 0 rfl rfl yat) (lnA wA (oO 2 33) Tryz.underlying39) (ya8 wA (oO 0 31) (oO 3 34))
  intro B5 a5 W5 (S5:Zt [_] [_,_])
  refine wp_cond_true (S5.bool 0 35 rfl) (wp_skip (thenN (wp_seq (wp_block ?_))))
  refine wq [V (Part a5 1 2),V (QV nT ts K),V (iV (k0:Nat)),V (AtE 4 (PR (Zv ((ts.getD k0 (0,0)).1) K) (Zv ((ts.getD k0 (0,0)).2) K))),V (PR (Zv ((ts.getD k0 (0,0)).1) K) (Zv ((ts.getD k0 (0,0)).2) K)),kT,kF] [.inr 0] [.inl 6,.inr 1] S5 ?_ ?_
  ·repeat' refine And.intro ?_ ?_
   ·trivial
   ·exact ptA wA 0 yap
   ·exact plA wA (oO 0 38) 0 rfl rfl yat
   ·exact mS 1 3
   ·exact axA wA ydd (oO 1 39) (oO 2 40) (ygt (by omega)) rfl
   ·exact alC wA yc6 (ybm yan yan) (oO 3 41)
   ·exact cc1 wA (qO 4 42 rfl) (yab _) (fun w u h=>Gives.cast (ψ:=(IS (.bool true))) (ydj (k1:=K) (k2:=K) (by omega) (by omega) w u h) (by rw [hdv]))
   ·exact ycc wA (oO 5 43)
  intro B6 a6 W6 (S6:Zt [_] [_,_])
  refine wp_cond_false (S6.bool 0 44 rfl) (wp_skip (inBlkN (thenN ?_)))
  refine wr [V (iV (k0:Nat)),V (iV (k0+1:Nat)),V (iV (k0+1:Nat))] [.inr 0] [.inl 2] S6 ?_ ?_
  ·exact jj3 (mS 1 3) (ya7 wA (oO 0 36) (yaa _)) (mO 1 37)
  intro B7 a7 _ (S7:Zt [_] [_])
  refine thenN ?_
  exact ⟨k0+1,⟨by omega,B7,S7.sub [0] [0]⟩,by omega⟩
 ·skip
  refine wp_seq ?_
  refine wq [V (iV (k0:Nat)),V (Part a4 1 2),V (QV nT ts K),V (iV (nT:Nat)),kF] [.inr 0] [.inl 4,.inr 0] S4 ?_ ?_
  ·exact jj5 (mS 0 3) (ptA wA 0 yap) (plA wA (oO 1 32) 0 rfl rfl yat) (lnA wA (oO 2 33) Tryz.underlying39) (ybc wA (oO 0 31) (oO 3 34))
  intro B5 a5 W5 (S5:Zt [_] [_,_])
  refine wp_cond_false (S5.bool 0 35 rfl) (wp_exit (thenX (thenX (inBlkE (thenN ?_)))))
  refine wq [V (Part a5 1 3),V (PR (Zv rn K) (Zv rd K)),kT,kT,V (Part a5 1 3),V (Part a5 1 3),V (Zv rn K),V (iV (rn.sign)),kF,kF,kF] [.inr 0] [.inl 10,.inr 1] S5 ?_ ?_
  ·exact ⟨⟨⟨jj8 (ptA wA 0 ybp) (plA wA (oO 0 45) 0 rfl rfl ycp) (cc1 wA (qO 1 46 rfl) (yab _) (fun w u h=>Gives.cast (ψ:=(IS (.bool true))) (ydj (k1:=K) (k2:=K) (by omega) (by omega) w u h) (by rw [hrv]))) (mO 2 47) (ptA (wI 3 48) 0 ybp) (ya6 rfl (wI 3 48) rfl (oO 4 49) rfl (fun ρ w b h=>yca ρ _ _ w b 3 h)) (plA (wI 3 48) (oO 5 50) 0 rfl rfl yee) (cc1 (wI 3 48) (qO 6 51 rfl) (yab _) (fun w u h1=>yg3 (by omega) w u h1)),yfn (wI 3 48) (oO 7 52) (yaa _)⟩,pT wA (oO 3 48) (oO 8 53)⟩,mO 9 54⟩
  intro B6 a6 W6 (S6:Zt [_] [_,_])
  refine wp_ret ?_
  exact yav S6 rfl (yay S6 0 2 rfl)
theorem zci (w:World)(u:Value)(nD nL nT K:Nat)(D:List Int)(L:List (List Int))(ts:List (Int × Int))(rn rd:Int)(h:Hs w (TR (Vv nD D K) (Mv nL L K) (QV nT ts K) (PR (Zv rn K) (Zv rd K))) u)(hD:nD<=1048576)(hL:nL<=1048576)(hT:nT<=1048576)(hK:K<=1048576)(lD:D.length=nD)(lL:L.length=nL)(lT:ts.length=nT)(g:Good D L)(g1:L.length<=12)(hl:ts.length=0)(g5:∀ i,i < ts.length->0 < (ts.getD i (0,0)).2)(hrv:decide (0 < rd.sign)=true)(g7:0<=rn.sign):
  CG 14 #[u] w (IS (.bool true)):=by
 refine yak (sl:=[(0,(TR (Vv nD D K) (Mv nL L K) (QV nT ts K) (PR (Zv rn K) (Zv rd K))))]) Tryz.func14 rfl Tryz.ntmps14 (by simp) (yae rfl (h) yao) ?_
 intro a0 S0
 refine wq [.new (.box 41 (TR (Vv nD D K) (Mv nL L K) (QV nT ts K) (PR (Zv rn K) (Zv rd K)))),kF] [.inl 0] [] S0 ?_ ?_
 ·exact jj2 (bxA wA (oS 0 0) (ybe yax)) mC
 intro _ a1 _ (S1:Zt [_] [])
 refine wp_seq ?_
 refine wq [V (Part a1 1 0),V (SF [(Vv nD D K),(Mv nL L K)]),kT,kF,kF,V (Part a1 1 0),V (Part a1 1 1),V (Mv nL L K),V (iV (nL:Nat)),kF,kF,kF,V (Part a1 1 2),V (QV nT ts K),V (iV (nT:Nat)),kF,kF,.off,.off,.off,.off,.off,.off,.off,.off,kF,kF] [.inr 0] [.inl 26] S1 ?_ ?_
 ·exact ⟨⟨⟨⟨⟨⟨⟨⟨⟨⟨⟨⟨⟨⟨⟨⟨⟨⟨⟨jj8 (ptZ wA 0 yas) (plA wA (oO 0 4) 0 rfl rfl ycb) (ch1 wA (qO 1 5 rfl) (yab _) (fun w u h=>yhg w u nD nL K D L h hD hL hK lD lL g)) (ycc wA (oO 2 6)) (mO 3 7) (ptZ (wI 4 8) 0 yas) (ya6 rfl (wI 4 8) rfl (oO 5 9) rfl (fun ρ w b h=>yaw ρ _ _ w b 0 h)) (plA (wI 4 8) (oO 6 10) 0 rfl rfl ybj),lnA (wI 4 8) (oO 7 11) Tryz.underlying36⟩,ybv (wI 4 8) (oO 8 12) (yaa _)⟩,pF wA (oO 4 8) (oO 9 13)⟩,mO 10 14⟩,ptA (wI 11 15) 0 yap⟩,plA (wI 11 15) (oO 12 16) 0 rfl rfl yat⟩,lnA (wI 11 15) (oO 13 17) Tryz.underlying39⟩,ybn (wI 11 15) (oO 14 18) (yaa _)⟩,mW (wI 11 15) (oO 15 19)⟩,oF 16 20⟩,oF 16 20⟩,oF 16 20⟩,oF 16 20⟩,oF 16 20⟩,oF 16 20⟩,oF 16 20⟩,oF 16 20⟩,pF (wI 11 15) (oO 16 20) (yaa _)⟩,pF wA (oO 11 15) (oO 25 29)⟩
 intro _ a2 _ (S2:Zt [_] [_])
 refine wp_cond_false (S2.bool 0 30 rfl) (wp_skip (thenN (wp_seq ?_)))
 refine wq [V (iV 0)] [.inr 0] [.inl 0] S2 ?_ ?_
 ·exact jj1 mC
 intro B3 a3 _ (S3:Zt [_] [_])
 refine wp_block ?_
 refine ybi (fun (k0:Nat) a W=>(k0<=nT)/\∃ Bq,Sta w 55 [(1,(.box 41 (TR (Vv nD D K) (Mv nL L K) (QV nT ts K) (PR (Zv rn K) (Zv rd K)))))] [(3,iV (k0:Nat))] Bq a W) (fun (k0:Nat)=>nT-k0) ?_ 0 ⟨zhs _,B3,S3.sub [0] [0]⟩
 rintro k0 a4 _ ⟨hcond,_,S4⟩
 by_cases hlt:k0 < nT
 ·have hdv:decide (0 < (ts.getD k0 (0,0)).2.sign)=true:=by rw [yd9 (g5 k0 (by omega))]; rfl
  refine wp_seq ?_
  refine wq [V (iV (k0:Nat)),V (Part a4 1 2),V (QV nT ts K),V (iV (nT:Nat)),kT] [.inr 0] [.inl 4,.inr 0] S4 ?_ ?_
  ·exact jj5 (mS 0 3) (ptA wA 0 yap) (plA wA (oO 1 32) 0 rfl rfl yat) (lnA wA (oO 2 33) Tryz.underlying39) (ya8 wA (oO 0 31) (oO 3 34))
  intro B5 a5 W5 (S5:Zt [_] [_,_])
  refine wp_cond_true (S5.bool 0 35 rfl) (wp_skip (thenN (wp_seq (wp_block ?_))))
  refine wq [V (Part a5 1 2),V (QV nT ts K),V (iV (k0:Nat)),V (AtE 4 (PR (Zv ((ts.getD k0 (0,0)).1) K) (Zv ((ts.getD k0 (0,0)).2) K))),V (PR (Zv ((ts.getD k0 (0,0)).1) K) (Zv ((ts.getD k0 (0,0)).2) K)),kT,kF] [.inr 0] [.inl 6,.inr 1] S5 ?_ ?_
  ·repeat' refine And.intro ?_ ?_
   ·trivial
   ·exact ptA wA 0 yap
   ·exact plA wA (oO 0 38) 0 rfl rfl yat
   ·exact mS 1 3
   ·exact axA wA ydd (oO 1 39) (oO 2 40) (ygt (by omega)) rfl
   ·exact alC wA yc6 (ybm yan yan) (oO 3 41)
   ·exact cc1 wA (qO 4 42 rfl) (yab _) (fun w u h=>Gives.cast (ψ:=(IS (.bool true))) (ydj (k1:=K) (k2:=K) (by omega) (by omega) w u h) (by rw [hdv]))
   ·exact ycc wA (oO 5 43)
  intro B6 a6 W6 (S6:Zt [_] [_,_])
  refine wp_cond_false (S6.bool 0 44 rfl) (wp_skip (inBlkN (thenN ?_)))
  refine wr [V (iV (k0:Nat)),V (iV (k0+1:Nat)),V (iV (k0+1:Nat))] [.inr 0] [.inl 2] S6 ?_ ?_
  ·exact jj3 (mS 1 3) (ya7 wA (oO 0 36) (yaa _)) (mO 1 37)
  intro B7 a7 _ (S7:Zt [_] [_])
  refine thenN ?_
  exact ⟨k0+1,⟨by omega,B7,S7.sub [0] [0]⟩,by omega⟩
 ·skip
  refine wp_seq ?_
  refine wq [V (iV (k0:Nat)),V (Part a4 1 2),V (QV nT ts K),V (iV (nT:Nat)),kF] [.inr 0] [.inl 4,.inr 0] S4 ?_ ?_
  ·exact jj5 (mS 0 3) (ptA wA 0 yap) (plA wA (oO 1 32) 0 rfl rfl yat) (lnA wA (oO 2 33) Tryz.underlying39) (ybc wA (oO 0 31) (oO 3 34))
  intro B5 a5 W5 (S5:Zt [_] [_,_])
  refine wp_cond_false (S5.bool 0 35 rfl) (wp_exit (thenX (thenX (inBlkE (thenN ?_)))))
  refine wq [V (Part a5 1 3),V (PR (Zv rn K) (Zv rd K)),kT,kT,V (Part a5 1 3),V (Part a5 1 3),V (Zv rn K),V (iV (rn.sign)),kT,kT,kT] [.inr 0] [.inl 10,.inr 1] S5 ?_ ?_
  ·exact ⟨⟨⟨jj8 (ptA wA 0 ybp) (plA wA (oO 0 45) 0 rfl rfl ycp) (cc1 wA (qO 1 46 rfl) (yab _) (fun w u h=>Gives.cast (ψ:=(IS (.bool true))) (ydj (k1:=K) (k2:=K) (by omega) (by omega) w u h) (by rw [hrv]))) (mO 2 47) (ptA (wI 3 48) 0 ybp) (ya6 rfl (wI 3 48) rfl (oO 4 49) rfl (fun ρ w b h=>yca ρ _ _ w b 3 h)) (plA (wI 3 48) (oO 5 50) 0 rfl rfl yee) (cc1 (wI 3 48) (qO 6 51 rfl) (yab _) (fun w u h1=>yg3 (by omega) w u h1)),yfo (wI 3 48) (oO 7 52) (yaa _)⟩,pT wA (oO 3 48) (oO 8 53)⟩,mO 9 54⟩
  intro B6 a6 W6 (S6:Zt [_] [_,_])
  refine wp_ret ?_
  exact yav S6 rfl (yay S6 0 2 rfl)
theorem zcn (w:World)(u:Value)(nD nL nT K:Nat)(D:List Int)(L:List (List Int))(ts:List (Int × Int))(rn rd:Int)(h:Hs w (TR (Vv nD D K) (Mv nL L K) (QV nT ts K) (PR (Zv rn K) (Zv rd K))) u)(hD:nD<=1048576)(hL:nL<=1048576)(hT:nT<=1048576)(hK:K<=1048576)(lD:D.length=nD)(lL:L.length=nL)(lT:ts.length=nT)(g:Good D L)(g1:L.length<=12)(hl:ts.length≠0)(hl2:ts.length=L.length)(g5:∀ i,i < ts.length->0 < (ts.getD i (0,0)).2)(hrv:decide (0 < rd.sign)=false):
  CG 14 #[u] w (IS (.bool false)):=by
 refine yak (sl:=[(0,(TR (Vv nD D K) (Mv nL L K) (QV nT ts K) (PR (Zv rn K) (Zv rd K))))]) Tryz.func14 rfl Tryz.ntmps14 (by simp) (yae rfl (h) yao) ?_
 intro a0 S0
 refine wq [.new (.box 41 (TR (Vv nD D K) (Mv nL L K) (QV nT ts K) (PR (Zv rn K) (Zv rd K)))),kF] [.inl 0] [] S0 ?_ ?_
 ·exact jj2 (bxA wA (oS 0 0) (ybe yax)) mC
 intro _ a1 _ (S1:Zt [_] [])
 refine wp_seq ?_
 refine wq [V (Part a1 1 0),V (SF [(Vv nD D K),(Mv nL L K)]),kT,kF,kF,V (Part a1 1 0),V (Part a1 1 1),V (Mv nL L K),V (iV (nL:Nat)),kF,kF,kF,V (Part a1 1 2),V (QV nT ts K),V (iV (nT:Nat)),kT,kT,V (Part a1 1 2),V (QV nT ts K),V (iV (nT:Nat)),V (Part a1 1 0),V (Part a1 1 1),V (Mv nL L K),V (iV (nL:Nat)),kF,kF,kF] [.inr 0] [.inl 26] S1 ?_ ?_
 ·exact ⟨⟨⟨⟨⟨⟨⟨⟨⟨⟨⟨⟨⟨⟨⟨⟨⟨⟨⟨jj8 (ptZ wA 0 yas) (plA wA (oO 0 4) 0 rfl rfl ycb) (ch1 wA (qO 1 5 rfl) (yab _) (fun w u h=>yhg w u nD nL K D L h hD hL hK lD lL g)) (ycc wA (oO 2 6)) (mO 3 7) (ptZ (wI 4 8) 0 yas) (ya6 rfl (wI 4 8) rfl (oO 5 9) rfl (fun ρ w b h=>yaw ρ _ _ w b 0 h)) (plA (wI 4 8) (oO 6 10) 0 rfl rfl ybj),lnA (wI 4 8) (oO 7 11) Tryz.underlying36⟩,ybv (wI 4 8) (oO 8 12) (yaa _)⟩,pF wA (oO 4 8) (oO 9 13)⟩,mO 10 14⟩,ptA (wI 11 15) 0 yap⟩,plA (wI 11 15) (oO 12 16) 0 rfl rfl yat⟩,lnA (wI 11 15) (oO 13 17) Tryz.underlying39⟩,ybz (wI 11 15) (oO 14 18) (yaa _)⟩,mW (wI 11 15) (oO 15 19)⟩,ptA (wI 16 20) 0 yap⟩,plA (wI 16 20) (oO 17 21) 0 rfl rfl yat⟩,lnA (wI 16 20) (oO 18 22) Tryz.underlying39⟩,ptZ (wI 16 20) 0 yas⟩,ya6 rfl (wI 16 20) rfl (oO 20 24) rfl (fun ρ w b h=>yaw ρ _ _ w b 0 h)⟩,plA (wI 16 20) (oO 21 25) 0 rfl rfl ybj⟩,lnA (wI 16 20) (oO 22 26) Tryz.underlying36⟩,ybn (wI 16 20) (oO 19 23) (oO 23 27)⟩,pT (wI 11 15) (oO 16 20) (oO 24 28)⟩,pF wA (oO 11 15) (oO 25 29)⟩
 intro _ a2 _ (S2:Zt [_] [_])
 refine wp_cond_false (S2.bool 0 30 rfl) (wp_skip (thenN (wp_seq ?_)))
 refine wq [V (iV 0)] [.inr 0] [.inl 0] S2 ?_ ?_
 ·exact jj1 mC
 intro B3 a3 _ (S3:Zt [_] [_])
 refine wp_block ?_
 refine ybi (fun (k0:Nat) a W=>(k0<=nT)/\∃ Bq,Sta w 55 [(1,(.box 41 (TR (Vv nD D K) (Mv nL L K) (QV nT ts K) (PR (Zv rn K) (Zv rd K)))))] [(3,iV (k0:Nat))] Bq a W) (fun (k0:Nat)=>nT-k0) ?_ 0 ⟨zhs _,B3,S3.sub [0] [0]⟩
 rintro k0 a4 _ ⟨hcond,_,S4⟩
 by_cases hlt:k0 < nT
 ·have hdv:decide (0 < (ts.getD k0 (0,0)).2.sign)=true:=by rw [yd9 (g5 k0 (by omega))]; rfl
  refine wp_seq ?_
  refine wq [V (iV (k0:Nat)),V (Part a4 1 2),V (QV nT ts K),V (iV (nT:Nat)),kT] [.inr 0] [.inl 4,.inr 0] S4 ?_ ?_
  ·exact jj5 (mS 0 3) (ptA wA 0 yap) (plA wA (oO 1 32) 0 rfl rfl yat) (lnA wA (oO 2 33) Tryz.underlying39) (ya8 wA (oO 0 31) (oO 3 34))
  intro B5 a5 W5 (S5:Zt [_] [_,_])
  refine wp_cond_true (S5.bool 0 35 rfl) (wp_skip (thenN (wp_seq (wp_block ?_))))
  refine wq [V (Part a5 1 2),V (QV nT ts K),V (iV (k0:Nat)),V (AtE 4 (PR (Zv ((ts.getD k0 (0,0)).1) K) (Zv ((ts.getD k0 (0,0)).2) K))),V (PR (Zv ((ts.getD k0 (0,0)).1) K) (Zv ((ts.getD k0 (0,0)).2) K)),kT,kF] [.inr 0] [.inl 6,.inr 1] S5 ?_ ?_
  ·repeat' refine And.intro ?_ ?_
   ·trivial
   ·exact ptA wA 0 yap
   ·exact plA wA (oO 0 38) 0 rfl rfl yat
   ·exact mS 1 3
   ·exact axA wA ydd (oO 1 39) (oO 2 40) (ygt (by omega)) rfl
   ·exact alC wA yc6 (ybm yan yan) (oO 3 41)
   ·exact cc1 wA (qO 4 42 rfl) (yab _) (fun w u h=>Gives.cast (ψ:=(IS (.bool true))) (ydj (k1:=K) (k2:=K) (by omega) (by omega) w u h) (by rw [hdv]))
   ·exact ycc wA (oO 5 43)
  intro B6 a6 W6 (S6:Zt [_] [_,_])
  refine wp_cond_false (S6.bool 0 44 rfl) (wp_skip (inBlkN (thenN ?_)))
  refine wr [V (iV (k0:Nat)),V (iV (k0+1:Nat)),V (iV (k0+1:Nat))] [.inr 0] [.inl 2] S6 ?_ ?_
  ·exact jj3 (mS 1 3) (ya7 wA (oO 0 36) (yaa _)) (mO 1 37)
  intro B7 a7 _ (S7:Zt [_] [_])
  refine thenN ?_
  exact ⟨k0+1,⟨by omega,B7,S7.sub [0] [0]⟩,by omega⟩
 ·skip
  refine wp_seq ?_
  refine wq [V (iV (k0:Nat)),V (Part a4 1 2),V (QV nT ts K),V (iV (nT:Nat)),kF] [.inr 0] [.inl 4,.inr 0] S4 ?_ ?_
  ·exact jj5 (mS 0 3) (ptA wA 0 yap) (plA wA (oO 1 32) 0 rfl rfl yat) (lnA wA (oO 2 33) Tryz.underlying39) (ybc wA (oO 0 31) (oO 3 34))
  intro B5 a5 W5 (S5:Zt [_] [_,_])
  refine wp_cond_false (S5.bool 0 35 rfl) (wp_exit (thenX (thenX (inBlkE (thenN ?_)))))
  refine wq [V (Part a5 1 3),V (PR (Zv rn K) (Zv rd K)),kF,kF,.off,.off,.off,.off,.off,kF,kF] [.inr 0] [.inl 10,.inr 1] S5 ?_ ?_
  ·exact ⟨⟨⟨jj8 (ptA wA 0 ybp) (plA wA (oO 0 45) 0 rfl rfl ycp) (cc1 wA (qO 1 46 rfl) (yab _) (fun w u h=>Gives.cast (ψ:=(IS (.bool false))) (ydj (k1:=K) (k2:=K) (by omega) (by omega) w u h) (by rw [hrv]))) (mO 2 47) (oF 3 48) (oF 3 48) (oF 3 48) (oF 3 48),oF 3 48⟩,pF wA (oO 3 48) (yaa _)⟩,mO 9 54⟩
  intro B6 a6 W6 (S6:Zt [_] [_,_])
  refine wp_ret ?_
  exact yav S6 rfl (yay S6 0 2 rfl)
theorem zcl (w:World)(u:Value)(nD nL nT K:Nat)(D:List Int)(L:List (List Int))(ts:List (Int × Int))(rn rd:Int)(h:Hs w (TR (Vv nD D K) (Mv nL L K) (QV nT ts K) (PR (Zv rn K) (Zv rd K))) u)(hD:nD<=1048576)(hL:nL<=1048576)(hT:nT<=1048576)(hK:K<=1048576)(lD:D.length=nD)(lL:L.length=nL)(lT:ts.length=nT)(g:Good D L)(g1:L.length<=12)(hl:ts.length≠0)(hl2:ts.length=L.length)(g5:∀ i,i < ts.length->0 < (ts.getD i (0,0)).2)(hrv:decide (0 < rd.sign)=true)(g7:rn.sign < 0):
  CG 14 #[u] w (IS (.bool false)):=by
 refine yak (sl:=[(0,(TR (Vv nD D K) (Mv nL L K) (QV nT ts K) (PR (Zv rn K) (Zv rd K))))]) Tryz.func14 rfl Tryz.ntmps14 (by simp) (yae rfl (h) yao) ?_
 intro a0 S0
 refine wq [.new (.box 41 (TR (Vv nD D K) (Mv nL L K) (QV nT ts K) (PR (Zv rn K) (Zv rd K)))),kF] [.inl 0] [] S0 ?_ ?_
 ·exact jj2 (bxA wA (oS 0 0) (ybe yax)) mC
 intro _ a1 _ (S1:Zt [_] [])
 refine wp_seq ?_
 refine wq [V (Part a1 1 0),V (SF [(Vv nD D K),(Mv nL L K)]),kT,kF,kF,V (Part a1 1 0),V (Part a1 1 1),V (Mv nL L K),V (iV (nL:Nat)),kF,kF,kF,V (Part a1 1 2),V (QV nT ts K),V (iV (nT:Nat)),kT,kT,V (Part a1 1 2),V (QV nT ts K),V (iV (nT:Nat)),V (Part a1 1 0),V (Part a1 1 1),V (Mv nL L K),V (iV (nL:Nat)),kF,kF,kF] [.inr 0] [.inl 26] S1 ?_ ?_
 ·exact ⟨⟨⟨⟨⟨⟨⟨⟨⟨⟨⟨⟨⟨⟨⟨⟨⟨⟨⟨jj8 (ptZ wA 0 yas) (plA wA (oO 0 4) 0 rfl rfl ycb) (ch1 wA (qO 1 5 rfl) (yab _) (fun w u h=>yhg w u nD nL K D L h hD hL hK lD lL g)) (ycc wA (oO 2 6)) (mO 3 7) (ptZ (wI 4 8) 0 yas) (ya6 rfl (wI 4 8) rfl (oO 5 9) rfl (fun ρ w b h=>yaw ρ _ _ w b 0 h)) (plA (wI 4 8) (oO 6 10) 0 rfl rfl ybj),lnA (wI 4 8) (oO 7 11) Tryz.underlying36⟩,ybv (wI 4 8) (oO 8 12) (yaa _)⟩,pF wA (oO 4 8) (oO 9 13)⟩,mO 10 14⟩,ptA (wI 11 15) 0 yap⟩,plA (wI 11 15) (oO 12 16) 0 rfl rfl yat⟩,lnA (wI 11 15) (oO 13 17) Tryz.underlying39⟩,ybz (wI 11 15) (oO 14 18) (yaa _)⟩,mW (wI 11 15) (oO 15 19)⟩,ptA (wI 16 20) 0 yap⟩,plA (wI 16 20) (oO 17 21) 0 rfl rfl yat⟩,lnA (wI 16 20) (oO 18 22) Tryz.underlying39⟩,ptZ (wI 16 20) 0 yas⟩,ya6 rfl (wI 16 20) rfl (oO 20 24) rfl (fun ρ w b h=>yaw ρ _ _ w b 0 h)⟩,plA (wI 16 20) (oO 21 25) 0 rfl rfl ybj⟩,lnA (wI 16 20) (oO 22 26) Tryz.underlying36⟩,ybn (wI 16 20) (oO 19 23) (oO 23 27)⟩,pT (wI 11 15) (oO 16 20) (oO 24 28)⟩,pF wA (oO 11 15) (oO 25 29)⟩
 intro _ a2 _ (S2:Zt [_] [_])
 refine wp_cond_false (S2.bool 0 30 rfl) (wp_skip (thenN (wp_seq ?_)))
 refine wq [V (iV 0)] [.inr 0] [.inl 0] S2 ?_ ?_
 ·exact jj1 mC
 intro B3 a3 _ (S3:Zt [_] [_])
 refine wp_block ?_
 refine ybi (fun (k0:Nat) a W=>(k0<=nT)/\∃ Bq,Sta w 55 [(1,(.box 41 (TR (Vv nD D K) (Mv nL L K) (QV nT ts K) (PR (Zv rn K) (Zv rd K)))))] [(3,iV (k0:Nat))] Bq a W) (fun (k0:Nat)=>nT-k0) ?_ 0 ⟨zhs _,B3,S3.sub [0] [0]⟩
 rintro k0 a4 _ ⟨hcond,_,S4⟩
 by_cases hlt:k0 < nT
 ·have hdv:decide (0 < (ts.getD k0 (0,0)).2.sign)=true:=by rw [yd9 (g5 k0 (by omega))]; rfl
  refine wp_seq ?_
  refine wq [V (iV (k0:Nat)),V (Part a4 1 2),V (QV nT ts K),V (iV (nT:Nat)),kT] [.inr 0] [.inl 4,.inr 0] S4 ?_ ?_
  ·exact jj5 (mS 0 3) (ptA wA 0 yap) (plA wA (oO 1 32) 0 rfl rfl yat) (lnA wA (oO 2 33) Tryz.underlying39) (ya8 wA (oO 0 31) (oO 3 34))
  intro B5 a5 W5 (S5:Zt [_] [_,_])
  refine wp_cond_true (S5.bool 0 35 rfl) (wp_skip (thenN (wp_seq (wp_block ?_))))
  refine wq [V (Part a5 1 2),V (QV nT ts K),V (iV (k0:Nat)),V (AtE 4 (PR (Zv ((ts.getD k0 (0,0)).1) K) (Zv ((ts.getD k0 (0,0)).2) K))),V (PR (Zv ((ts.getD k0 (0,0)).1) K) (Zv ((ts.getD k0 (0,0)).2) K)),kT,kF] [.inr 0] [.inl 6,.inr 1] S5 ?_ ?_
  ·repeat' refine And.intro ?_ ?_
   ·trivial
   ·exact ptA wA 0 yap
   ·exact plA wA (oO 0 38) 0 rfl rfl yat
   ·exact mS 1 3
   ·exact axA wA ydd (oO 1 39) (oO 2 40) (ygt (by omega)) rfl
   ·exact alC wA yc6 (ybm yan yan) (oO 3 41)
   ·exact cc1 wA (qO 4 42 rfl) (yab _) (fun w u h=>Gives.cast (ψ:=(IS (.bool true))) (ydj (k1:=K) (k2:=K) (by omega) (by omega) w u h) (by rw [hdv]))
   ·exact ycc wA (oO 5 43)
  intro B6 a6 W6 (S6:Zt [_] [_,_])
  refine wp_cond_false (S6.bool 0 44 rfl) (wp_skip (inBlkN (thenN ?_)))
  refine wr [V (iV (k0:Nat)),V (iV (k0+1:Nat)),V (iV (k0+1:Nat))] [.inr 0] [.inl 2] S6 ?_ ?_
  ·exact jj3 (mS 1 3) (ya7 wA (oO 0 36) (yaa _)) (mO 1 37)
  intro B7 a7 _ (S7:Zt [_] [_])
  refine thenN ?_
  exact ⟨k0+1,⟨by omega,B7,S7.sub [0] [0]⟩,by omega⟩
 ·skip
  refine wp_seq ?_
  refine wq [V (iV (k0:Nat)),V (Part a4 1 2),V (QV nT ts K),V (iV (nT:Nat)),kF] [.inr 0] [.inl 4,.inr 0] S4 ?_ ?_
  ·exact jj5 (mS 0 3) (ptA wA 0 yap) (plA wA (oO 1 32) 0 rfl rfl yat) (lnA wA (oO 2 33) Tryz.underlying39) (ybc wA (oO 0 31) (oO 3 34))
  intro B5 a5 W5 (S5:Zt [_] [_,_])
  refine wp_cond_false (S5.bool 0 35 rfl) (wp_exit (thenX (thenX (inBlkE (thenN ?_)))))
  refine wq [V (Part a5 1 3),V (PR (Zv rn K) (Zv rd K)),kT,kT,V (Part a5 1 3),V (Part a5 1 3),V (Zv rn K),V (iV (rn.sign)),kF,kF,kF] [.inr 0] [.inl 10,.inr 1] S5 ?_ ?_
  ·exact ⟨⟨⟨jj8 (ptA wA 0 ybp) (plA wA (oO 0 45) 0 rfl rfl ycp) (cc1 wA (qO 1 46 rfl) (yab _) (fun w u h=>Gives.cast (ψ:=(IS (.bool true))) (ydj (k1:=K) (k2:=K) (by omega) (by omega) w u h) (by rw [hrv]))) (mO 2 47) (ptA (wI 3 48) 0 ybp) (ya6 rfl (wI 3 48) rfl (oO 4 49) rfl (fun ρ w b h=>yca ρ _ _ w b 3 h)) (plA (wI 3 48) (oO 5 50) 0 rfl rfl yee) (cc1 (wI 3 48) (qO 6 51 rfl) (yab _) (fun w u h1=>yg3 (by omega) w u h1)),yfn (wI 3 48) (oO 7 52) (yaa _)⟩,pT wA (oO 3 48) (oO 8 53)⟩,mO 9 54⟩
  intro B6 a6 W6 (S6:Zt [_] [_,_])
  refine wp_ret ?_
  exact yav S6 rfl (yay S6 0 2 rfl)
theorem zcj (w:World)(u:Value)(nD nL nT K:Nat)(D:List Int)(L:List (List Int))(ts:List (Int × Int))(rn rd:Int)(h:Hs w (TR (Vv nD D K) (Mv nL L K) (QV nT ts K) (PR (Zv rn K) (Zv rd K))) u)(hD:nD<=1048576)(hL:nL<=1048576)(hT:nT<=1048576)(hK:K<=1048576)(lD:D.length=nD)(lL:L.length=nL)(lT:ts.length=nT)(g:Good D L)(g1:L.length<=12)(hl:ts.length≠0)(hl2:ts.length=L.length)(g5:∀ i,i < ts.length->0 < (ts.getD i (0,0)).2)(hrv:decide (0 < rd.sign)=true)(g7:0<=rn.sign):
  CG 14 #[u] w (IS (.bool true)):=by
 refine yak (sl:=[(0,(TR (Vv nD D K) (Mv nL L K) (QV nT ts K) (PR (Zv rn K) (Zv rd K))))]) Tryz.func14 rfl Tryz.ntmps14 (by simp) (yae rfl (h) yao) ?_
 intro a0 S0
 refine wq [.new (.box 41 (TR (Vv nD D K) (Mv nL L K) (QV nT ts K) (PR (Zv rn K) (Zv rd K)))),kF] [.inl 0] [] S0 ?_ ?_
 ·exact jj2 (bxA wA (oS 0 0) (ybe yax)) mC
 intro _ a1 _ (S1:Zt [_] [])
 refine wp_seq ?_
 refine wq [V (Part a1 1 0),V (SF [(Vv nD D K),(Mv nL L K)]),kT,kF,kF,V (Part a1 1 0),V (Part a1 1 1),V (Mv nL L K),V (iV (nL:Nat)),kF,kF,kF,V (Part a1 1 2),V (QV nT ts K),V (iV (nT:Nat)),kT,kT,V (Part a1 1 2),V (QV nT ts K),V (iV (nT:Nat)),V (Part a1 1 0),V (Part a1 1 1),V (Mv nL L K),V (iV (nL:Nat)),kF,kF,kF] [.inr 0] [.inl 26] S1 ?_ ?_
 ·exact ⟨⟨⟨⟨⟨⟨⟨⟨⟨⟨⟨⟨⟨⟨⟨⟨⟨⟨⟨jj8 (ptZ wA 0 yas) (plA wA (oO 0 4) 0 rfl rfl ycb) (ch1 wA (qO 1 5 rfl) (yab _) (fun w u h=>yhg w u nD nL K D L h hD hL hK lD lL g)) (ycc wA (oO 2 6)) (mO 3 7) (ptZ (wI 4 8) 0 yas) (ya6 rfl (wI 4 8) rfl (oO 5 9) rfl (fun ρ w b h=>yaw ρ _ _ w b 0 h)) (plA (wI 4 8) (oO 6 10) 0 rfl rfl ybj),lnA (wI 4 8) (oO 7 11) Tryz.underlying36⟩,ybv (wI 4 8) (oO 8 12) (yaa _)⟩,pF wA (oO 4 8) (oO 9 13)⟩,mO 10 14⟩,ptA (wI 11 15) 0 yap⟩,plA (wI 11 15) (oO 12 16) 0 rfl rfl yat⟩,lnA (wI 11 15) (oO 13 17) Tryz.underlying39⟩,ybz (wI 11 15) (oO 14 18) (yaa _)⟩,mW (wI 11 15) (oO 15 19)⟩,ptA (wI 16 20) 0 yap⟩,plA (wI 16 20) (oO 17 21) 0 rfl rfl yat⟩,lnA (wI 16 20) (oO 18 22) Tryz.underlying39⟩,ptZ (wI 16 20) 0 yas⟩,ya6 rfl (wI 16 20) rfl (oO 20 24) rfl (fun ρ w b h=>yaw ρ _ _ w b 0 h)⟩,plA (wI 16 20) (oO 21 25) 0 rfl rfl ybj⟩,lnA (wI 16 20) (oO 22 26) Tryz.underlying36⟩,ybn (wI 16 20) (oO 19 23) (oO 23 27)⟩,pT (wI 11 15) (oO 16 20) (oO 24 28)⟩,pF wA (oO 11 15) (oO 25 29)⟩
 intro _ a2 _ (S2:Zt [_] [_])
 refine wp_cond_false (S2.bool 0 30 rfl) (wp_skip (thenN (wp_seq ?_)))
 refine wq [V (iV 0)] [.inr 0] [.inl 0] S2 ?_ ?_
 ·exact jj1 mC
 intro B3 a3 _ (S3:Zt [_] [_])
 refine wp_block ?_
 refine ybi (fun (k0:Nat) a W=>(k0<=nT)/\∃ Bq,Sta w 55 [(1,(.box 41 (TR (Vv nD D K) (Mv nL L K) (QV nT ts K) (PR (Zv rn K) (Zv rd K)))))] [(3,iV (k0:Nat))] Bq a W) (fun (k0:Nat)=>nT-k0) ?_ 0 ⟨zhs _,B3,S3.sub [0] [0]⟩
 rintro k0 a4 _ ⟨hcond,_,S4⟩
 by_cases hlt:k0 < nT
 ·have hdv:decide (0 < (ts.getD k0 (0,0)).2.sign)=true:=by rw [yd9 (g5 k0 (by omega))]; rfl
  refine wp_seq ?_
  refine wq [V (iV (k0:Nat)),V (Part a4 1 2),V (QV nT ts K),V (iV (nT:Nat)),kT] [.inr 0] [.inl 4,.inr 0] S4 ?_ ?_
  ·exact jj5 (mS 0 3) (ptA wA 0 yap) (plA wA (oO 1 32) 0 rfl rfl yat) (lnA wA (oO 2 33) Tryz.underlying39) (ya8 wA (oO 0 31) (oO 3 34))
  intro B5 a5 W5 (S5:Zt [_] [_,_])
  refine wp_cond_true (S5.bool 0 35 rfl) (wp_skip (thenN (wp_seq (wp_block ?_))))
  refine wq [V (Part a5 1 2),V (QV nT ts K),V (iV (k0:Nat)),V (AtE 4 (PR (Zv ((ts.getD k0 (0,0)).1) K) (Zv ((ts.getD k0 (0,0)).2) K))),V (PR (Zv ((ts.getD k0 (0,0)).1) K) (Zv ((ts.getD k0 (0,0)).2) K)),kT,kF] [.inr 0] [.inl 6,.inr 1] S5 ?_ ?_
  ·repeat' refine And.intro ?_ ?_
   ·trivial
   ·exact ptA wA 0 yap
   ·exact plA wA (oO 0 38) 0 rfl rfl yat
   ·exact mS 1 3
   ·exact axA wA ydd (oO 1 39) (oO 2 40) (ygt (by omega)) rfl
   ·exact alC wA yc6 (ybm yan yan) (oO 3 41)
   ·exact cc1 wA (qO 4 42 rfl) (yab _) (fun w u h=>Gives.cast (ψ:=(IS (.bool true))) (ydj (k1:=K) (k2:=K) (by omega) (by omega) w u h) (by rw [hdv]))
   ·exact ycc wA (oO 5 43)
  intro B6 a6 W6 (S6:Zt [_] [_,_])
  refine wp_cond_false (S6.bool 0 44 rfl) (wp_skip (inBlkN (thenN ?_)))
  refine wr [V (iV (k0:Nat)),V (iV (k0+1:Nat)),V (iV (k0+1:Nat))] [.inr 0] [.inl 2] S6 ?_ ?_
  ·exact jj3 (mS 1 3) (ya7 wA (oO 0 36) (yaa _)) (mO 1 37)
  intro B7 a7 _ (S7:Zt [_] [_])
  refine thenN ?_
  exact ⟨k0+1,⟨by omega,B7,S7.sub [0] [0]⟩,by omega⟩
 ·skip
  refine wp_seq ?_
  refine wq [V (iV (k0:Nat)),V (Part a4 1 2),V (QV nT ts K),V (iV (nT:Nat)),kF] [.inr 0] [.inl 4,.inr 0] S4 ?_ ?_
  ·exact jj5 (mS 0 3) (ptA wA 0 yap) (plA wA (oO 1 32) 0 rfl rfl yat) (lnA wA (oO 2 33) Tryz.underlying39) (ybc wA (oO 0 31) (oO 3 34))
  intro B5 a5 W5 (S5:Zt [_] [_,_])
  refine wp_cond_false (S5.bool 0 35 rfl) (wp_exit (thenX (thenX (inBlkE (thenN ?_)))))
  refine wq [V (Part a5 1 3),V (PR (Zv rn K) (Zv rd K)),kT,kT,V (Part a5 1 3),V (Part a5 1 3),V (Zv rn K),V (iV (rn.sign)),kT,kT,kT] [.inr 0] [.inl 10,.inr 1] S5 ?_ ?_
  ·exact ⟨⟨⟨jj8 (ptA wA 0 ybp) (plA wA (oO 0 45) 0 rfl rfl ycp) (cc1 wA (qO 1 46 rfl) (yab _) (fun w u h=>Gives.cast (ψ:=(IS (.bool true))) (ydj (k1:=K) (k2:=K) (by omega) (by omega) w u h) (by rw [hrv]))) (mO 2 47) (ptA (wI 3 48) 0 ybp) (ya6 rfl (wI 3 48) rfl (oO 4 49) rfl (fun ρ w b h=>yca ρ _ _ w b 3 h)) (plA (wI 3 48) (oO 5 50) 0 rfl rfl yee) (cc1 (wI 3 48) (qO 6 51 rfl) (yab _) (fun w u h1=>yg3 (by omega) w u h1)),yfo (wI 3 48) (oO 7 52) (yaa _)⟩,pT wA (oO 3 48) (oO 8 53)⟩,mO 9 54⟩
  intro B6 a6 W6 (S6:Zt [_] [_,_])
  refine wp_ret ?_
  exact yav S6 rfl (yay S6 0 2 rfl)
theorem zch (w:World)(u:Value)(nD nL nT K:Nat)(D:List Int)(L:List (List Int))(ts:List (Int × Int))(rn rd:Int)(h:Hs w (TR (Vv nD D K) (Mv nL L K) (QV nT ts K) (PR (Zv rn K) (Zv rd K))) u)(hD:nD<=1048576)(hL:nL<=1048576)(hT:nT<=1048576)(hK:K<=1048576)(lD:D.length=nD)(lL:L.length=nL)(lT:ts.length=nT)(tg:TBad D L ts rn rd):CG 14 #[u] w (IS (.bool false)):=by
 rcases tg with g | ⟨g,g1⟩ | ⟨g,g1,g2,g3⟩ | ⟨i0,g,g1,g2,g3,g4,g6,g7⟩ | ⟨g,g1,hl,g5,g6⟩ | ⟨g,g1,hl,g5,g6,g7⟩
 ·exact zfu w u nD nL nT K D L ts rn rd h hD hL hT hK lD lL lT g
 ·exact zft w u nD nL nT K D L ts rn rd h hD hL hT hK lD lL lT g g1
 ·exact zfv w u nD nL nT K D L ts rn rd h hD hL hT hK lD lL lT g g1 g2 g3
 ·exact zfw w u nD nL nT K D L ts rn rd h hD hL hT hK lD lL lT g g1 g2 g3 i0 g4 g6 g7
 ·have hrv:decide (0 < rd.sign)=false:=decide_eq_false (by have:=yel g6; omega)
  rcases hl with hl | ⟨hl,hl2⟩
  ·exact zcm w u nD nL nT K D L ts rn rd h hD hL hT hK lD lL lT g g1 hl g5 hrv
  ·exact zcn w u nD nL nT K D L ts rn rd h hD hL hT hK lD lL lT g g1 hl hl2 g5 hrv
 ·have hrv:decide (0 < rd.sign)=true:=by rw [yd9 g6]; rfl
  have hs:rn.sign < 0:=by rw [zii g7]; omega
  rcases hl with hl | ⟨hl,hl2⟩
  ·exact zck w u nD nL nT K D L ts rn rd h hD hL hT hK lD lL lT g g1 hl g5 hrv hs
  ·exact zcl w u nD nL nT K D L ts rn rd h hD hL hT hK lD lL lT g g1 hl hl2 g5 hrv hs
theorem ymn (w:World)(u:Value)(nD nL nT K:Nat)(D:List Int)(L:List (List Int))(ts:List (Int × Int))(rn rd:Int)(h:Hs w (TR (Vv nD D K) (Mv nL L K) (QV nT ts K) (PR (Zv rn K) (Zv rd K))) u)(hD:nD<=1048576)(hL:nL<=1048576)(hT:nT<=1048576)(hK:K<=1048576)(lD:D.length=nD)(lL:L.length=nL)(lT:ts.length=nT)(tg:TGood D L ts rn rd):CG 14 #[u] w (IS (.bool true)):=by
 obtain ⟨g,g1,hl,g5,g6,g7⟩:=tg
 have hrv:decide (0 < rd.sign)=true:=by rw [yd9 g6]; rfl
 have hs:=yjs g7
 rcases hl with hl | ⟨hl,hl2⟩
 ·exact zci w u nD nL nT K D L ts rn rd h hD hL hT hK lD lL lT g g1 hl g5 hrv hs
 ·exact zcj w u nD nL nT K D L ts rn rd h hD hL hT hK lD lL lT g g1 hl hl2 g5 hrv hs
theorem zay (w:World)(u:Value)(nD nL nT K:Nat)(D:List Int)(L:List (List Int))(ts:List (Int × Int))(rn rd:Int)(h:Hs w (TR (Vv nD D K) (Mv nL L K) (QV nT ts K) (PR (Zv rn K) (Zv rd K))) u)(hD:nD<=1048576)(hL:nL<=1048576)(hT:nT<=1048576)(hK:K<=1048576)(lD:D.length=nD)(lL:L.length=nL)(lT:ts.length=nT)(tg:TBad D L ts rn rd)(v:Value)(m Ks:Nat)(x:List Int)(hv:Hs w (Vv m x Ks) v)(lf:Nat):
  CG 35 #[u,v,.int .i64 ((lf:Nat):Int)] w (IS (.int .i64 110)):=by
 refine yak (sl:=[(0,(TR (Vv nD D K) (Mv nL L K) (QV nT ts K) (PR (Zv rn K) (Zv rd K)))),(1,(Vv m x Ks)),(2,(iV ((lf:Nat):Int)))]) Tryz.func35 rfl Tryz.ntmps35 (by simp) (yae rfl (h) (yae rfl (hv) (yae rfl (ycy _) yao))) ?_
 intro a0 S0
 refine wq [.new (.box 41 (TR (Vv nD D K) (Mv nL L K) (QV nT ts K) (PR (Zv rn K) (Zv rd K)))),V (iV 0)] [.inl 0] [.inr 1,.inr 2] S0 ?_ ?_
 ·exact jj2 (bxA wA (oS 0 0) (ybe yax)) mC
 intro _ a1 _ (S1:Zt [_] [_,_])
 refine wp_seq ?_
 refine wq [V (TR (Vv nD D K) (Mv nL L K) (QV nT ts K) (PR (Zv rn K) (Zv rd K))),V (iV 110),V (iV 110)] [.inr 0] (.inl 2 :: ur2) S1 ?_ ?_
 ·exact jj3 (loA 0 wA yal yax) (ch1 wA (qO 0 8 rfl) (yab _) (fun w u h=>yy6 w u nD nL nT K D L ts rn rd h hD hL hT hK lD lL lT tg)) (mO 1 9)
 intro _ a2 _ (S2:Zt [_] [_,_,_])
 refine wp_block ?_
 refine wq [V (iV 110),kT,kT] [.inr 0] (.inl 2 :: ur3) S2 ?_ ?_
 ·exact jj3 (mS 0 7) (yd0 wA (oO 0 11) (yaa _) (h:=by decide)) (mO 1 12)
 intro _ a3 _ (S3:Zt [_] [_,_,_,_])
 refine wp_cond_true (S3.bool 0 10 rfl) ?_
 refine wq [V (iV 110),V (iV 110)] [.inr 0] [.inl 1] S3 ?_ ?_
 ·exact jj2 (mS 1 7) (mO 0 13)
 intro _ a4 _ (S4:Zt [_] [_])
 refine wp_ret (inBlkR (thenR ?_))
 exact yav S4 rfl (yay S4 0 6 rfl)
theorem yui (w:World)(u:Value)(nD nL nT K:Nat)(D:List Int)(L:List (List Int))(ts:List (Int × Int))(rn rd:Int)(h:Hs w (TR (Vv nD D K) (Mv nL L K) (QV nT ts K) (PR (Zv rn K) (Zv rd K))) u)(hD:nD<=1048576)(hL:nL<=1048576)(hT:nT<=1048576)(hK:K<=1048576)(lD:D.length=nD)(lL:L.length=nL)(lT:ts.length=nT)(tg:TGood D L ts rn rd)(v:Value)(m Ks:Nat)(x:List Int)(hv:Hs w (Vv m x Ks) v)(hm0:m<=1048576)(lf:Nat)(hlf:lf<=1)(hm:nL < m+lf):
  CG 35 #[u,v,.int .i64 ((lf:Nat):Int)] w (IS (.int .i64 1)):=by
 refine yak (sl:=[(0,(TR (Vv nD D K) (Mv nL L K) (QV nT ts K) (PR (Zv rn K) (Zv rd K)))),(1,(Vv m x Ks)),(2,(iV ((lf:Nat):Int)))]) Tryz.func35 rfl Tryz.ntmps35 (by simp) (yae rfl (h) (yae rfl (hv) (yae rfl (ycy _) yao))) ?_
 intro a0 S0
 refine wq [.new (.box 41 (TR (Vv nD D K) (Mv nL L K) (QV nT ts K) (PR (Zv rn K) (Zv rd K)))),V (iV 0)] [.inl 0] [.inr 1,.inr 2] S0 ?_ ?_
 ·exact jj2 (bxA wA (oS 0 0) (ybe yax)) mC
 intro _ a1 _ (S1:Zt [_] [_,_])
 refine wp_seq ?_
 refine wq [V (TR (Vv nD D K) (Mv nL L K) (QV nT ts K) (PR (Zv rn K) (Zv rd K))),V (iV 0),V (iV 0)] [.inr 0] (.inl 2 :: ur2) S1 ?_ ?_
 ·exact jj3 (loA 0 wA yal yax) (ch1 wA (qO 0 8 rfl) (yab _) (fun w u h=>yjv w u nD nL nT K D L ts rn rd h hD hL hT hK lD lL lT tg)) (mO 1 9)
 intro _ a2 _ (S2:Zt [_] [_,_,_])
 refine wp_block ?_
 refine wq [V (iV 0),kF,kF] [.inr 0] (.inl 2 :: ur3) S2 ?_ ?_
 ·exact jj3 (mS 0 7) (yaz wA (oO 0 11) (yaa _) (h:=rfl)) (mO 1 12)
 intro _ a3 _ (S3:Zt [_] [_,_,_,_])
 refine wp_cond_false (S3.bool 0 10 rfl) ?_
 refine wq [V (Vv m x Ks),V (iV (m:Nat)),V (iV ((lf:Nat):Int)),V (iV ((m+lf:Nat):Int)),V (Part a3 3 0),V (Part a3 3 1),V (Mv nL L K),V (iV (nL:Nat)),kT,kT] [.inr 0] [.inl 9] S3 ?_ ?_
 ·exact ⟨⟨jj8 (mS 2 1) (lnA wA (oO 0 15) Tryz.underlying35) (mS 3 2) (ya7 wA (oO 1 16) (oO 2 17)) (ptZ wA 0 yas) (ya6 rfl wA rfl (oO 4 19) rfl (fun ρ w b h=>yaw ρ _ _ w b 0 h)) (plA wA (oO 5 20) 0 rfl rfl ybj) (lnA wA (oO 6 21) Tryz.underlying36),yd3 wA (oO 3 18) (oO 7 22)⟩,mO 8 23⟩
 intro _ a4 _ (S4:Zt [_] [_])
 refine wp_cond_true (S4.bool 0 14 rfl) ?_
 refine wq [V (iV 1)] [.inr 0] [.inl 0] S4 ?_ ?_
 ·exact jj1 mC
 intro _ a5 _ (S5:Zt [_] [_])
 refine wp_ret (inBlkR (thenR ?_))
 exact yav S5 rfl (yay S5 0 6 rfl)
theorem ze3 (w:World)(u:Value)(nD nL nT K:Nat)(D:List Int)(L:List (List Int))(ts:List (Int × Int))(rn rd:Int)(h:Hs w (TR (Vv nD D K) (Mv nL L K) (QV nT ts K) (PR (Zv rn K) (Zv rd K))) u)(hD:nD<=1048576)(hL:nL<=1048576)(hT:nT<=1048576)(hK:K<=1048576)(lD:D.length=nD)(lL:L.length=nL)(lT:ts.length=nT)(v:Value)(m Ks:Nat)(x:List Int)(hv:Hs w (Vv m x Ks) v)(e0:Int)(he:e0≠0)(hre:∀ (w:World) (u v:Value),Hs w (TR (Vv nD D K) (Mv nL L K) (QV nT ts K) (PR (Zv rn K) (Zv rd K))) u->Hs w (Vv m x Ks) v->CG 35 #[u,v,.int .i64 0] w (IS (.int .i64 e0))):
  CG 11 #[u,v] w (TWO (IS (.agg #[.bool false,.slice none 0 0,.bool false,.slice none 0 0])) (IS (.int .i64 e0))):=by
 refine yak (sl:=[(0,(TR (Vv nD D K) (Mv nL L K) (QV nT ts K) (PR (Zv rn K) (Zv rd K)))),(1,(Vv m x Ks))]) Tryz.func11 rfl Tryz.ntmps11 (by simp) (yae rfl (h) (yae rfl (hv) yao)) ?_
 intro a0 S0
 refine wq [.new (.box 41 (TR (Vv nD D K) (Mv nL L K) (QV nT ts K) (PR (Zv rn K) (Zv rd K)))),.new (.box 26 zR),V (iV 0)] [.inl 0,.inl 1] [.inr 1] S0 ?_ ?_
 ·exact jj3 (bxA wA (oS 0 0) (ybe yax)) (nwA wA ya3) mC
 intro _ a1 _ (S1:Zt [_,_] [_])
 refine wp_seq ?_
 refine wq [V (TR (Vv nD D K) (Mv nL L K) (QV nT ts K) (PR (Zv rn K) (Zv rd K))),V (Vv m x Ks),V (iV e0),V (iV e0)] ur2 [.inl 3,.inr 0] S1 ?_ ?_
 ·exact jj4 (loA 0 wA yal yax) (mS 0 1) (ch3 wA (qO 0 8 rfl) (qO 1 9 rfl) (yaa _) (yab _) (fun w u v t h1 h2 h3=>by obtain rfl:t=_:=h3.now; exact hre w u v h1 h2)) (mO 2 10)
 intro _ a2 _ (S2:Zt [_,_] [_,_])
 refine wq [V (iV e0),kT] ur2 (.inl 1 :: ur2) S2 ?_ ?_
 ·exact jj2 (mS 0 6) (yd0 wA (oO 0 11) (yaa _) (h:=he))
 intro _ a3 _ (S3:Zt [_,_] [_,_,_])
 refine wp_cond_true (S3.bool 0 12 rfl) ?_
 refine wq [.val zR,V (iV e0),.put (.inl 4) (.box 26 zR),V (iV e0)] ur2 [.inl 3] S3 ?_ ?_
 ·exact jj4 (ycr rfl wA rfl rfl) (mS 1 6) (seA 1 wA (oO 0 13) yaj ybk ybk) (mO 1 14)
 intro _ a4 _ (S4:Zt [_,_] [_])
 refine wp_ret (thenR ?_)
 exact ydi S4 rfl (ybb S4 1 4 rfl yaj ybk) (yay S4 0 5 rfl)
theorem yxd (w:World)(u:Value)(nD nL nT K:Nat)(D:List Int)(L:List (List Int))(ts:List (Int × Int))(rn rd:Int)(h:Hs w (TR (Vv nD D K) (Mv nL L K) (QV nT ts K) (PR (Zv rn K) (Zv rd K))) u)(hD:nD<=1048576)(hL:nL<=1048576)(hT:nT<=1048576)(hK:K<=1048576)(lD:D.length=nD)(lL:L.length=nL)(lT:ts.length=nT)(v:Value)(m Ks:Nat)(x:List Int)(hv:Hs w (Vv m x Ks) v)(e0:Int)(he:e0≠0)(hre:∀ (w:World) (u v:Value),Hs w (TR (Vv nD D K) (Mv nL L K) (QV nT ts K) (PR (Zv rn K) (Zv rd K))) u->Hs w (Vv m x Ks) v->CG 35 #[u,v,.int .i64 1] w (IS (.int .i64 e0))):
  CG 12 #[u,v] w (TWO (IS (.agg #[.bool false,.slice none 0 0,.bool false,.slice none 0 0])) (IS (.int .i64 e0))):=by
 refine yak (sl:=[(0,(TR (Vv nD D K) (Mv nL L K) (QV nT ts K) (PR (Zv rn K) (Zv rd K)))),(1,(Vv m x Ks))]) Tryz.func12 rfl Tryz.ntmps12 (by simp) (yae rfl (h) (yae rfl (hv) yao)) ?_
 intro a0 S0
 refine wq [.new (.box 41 (TR (Vv nD D K) (Mv nL L K) (QV nT ts K) (PR (Zv rn K) (Zv rd K)))),.new (.box 26 zR),V (iV 0)] [.inl 0,.inl 1] [.inr 1] S0 ?_ ?_
 ·exact jj3 (bxA wA (oS 0 0) (ybe yax)) (nwA wA ya3) mC
 intro _ a1 _ (S1:Zt [_,_] [_])
 refine wp_seq ?_
 refine wq [V (TR (Vv nD D K) (Mv nL L K) (QV nT ts K) (PR (Zv rn K) (Zv rd K))),V (Vv m x Ks),V (iV e0),V (iV e0)] ur2 [.inl 3,.inr 0] S1 ?_ ?_
 ·exact jj4 (loA 0 wA yal yax) (mS 0 1) (ch3 wA (qO 0 8 rfl) (qO 1 9 rfl) (yaa _) (yab _) (fun w u v t h1 h2 h3=>by obtain rfl:t=_:=h3.now; exact hre w u v h1 h2)) (mO 2 10)
 intro _ a2 _ (S2:Zt [_,_] [_,_])
 refine wq [V (iV e0),kT] ur2 (.inl 1 :: ur2) S2 ?_ ?_
 ·exact jj2 (mS 0 6) (yd0 wA (oO 0 11) (yaa _) (h:=he))
 intro _ a3 _ (S3:Zt [_,_] [_,_,_])
 refine wp_cond_true (S3.bool 0 12 rfl) ?_
 refine wq [.val zR,V (iV e0),.put (.inl 4) (.box 26 zR),V (iV e0)] ur2 [.inl 3] S3 ?_ ?_
 ·exact jj4 (ycr rfl wA rfl rfl) (mS 1 6) (seA 1 wA (oO 0 13) yaj ybk ybk) (mO 1 14)
 intro _ a4 _ (S4:Zt [_,_] [_])
 refine wp_ret (thenR ?_)
 exact ydi S4 rfl (ybb S4 1 4 rfl yaj ybk) (yay S4 0 5 rfl)
theorem zey (w:World)(u:Value)(nD nL nT K:Nat)(D:List Int)(L:List (List Int))(ts:List (Int × Int))(rn rd:Int)(h:Hs w (TR (Vv nD D K) (Mv nL L K) (QV nT ts K) (PR (Zv rn K) (Zv rd K))) u)(hD:nD<=1048576)(hL:nL<=1048576)(hT:nT<=1048576)(hK:K<=1048576)(lD:D.length=nD)(lL:L.length=nL)(lT:ts.length=nT)(v:Value)(m Ks:Nat)(x:List Int)(hv:Hs w (Vv m x Ks) v)(e0:Int)(he:e0≠0)(hre:∀ (w:World) (u v:Value),Hs w (TR (Vv nD D K) (Mv nL L K) (QV nT ts K) (PR (Zv rn K) (Zv rd K))) u->Hs w (Vv m x Ks) v->CG 35 #[u,v,.int .i64 0] w (IS (.int .i64 e0))):
  CG 13 #[u,v] w (TWO (IS (.bool false)) (IS (.int .i64 e0))):=by
 refine yak (sl:=[(0,(TR (Vv nD D K) (Mv nL L K) (QV nT ts K) (PR (Zv rn K) (Zv rd K)))),(1,(Vv m x Ks))]) Tryz.func13 rfl Tryz.ntmps13 (by simp) (yae rfl (h) (yae rfl (hv) yao)) ?_
 intro a0 S0
 refine wq [.new (.box 41 (TR (Vv nD D K) (Mv nL L K) (QV nT ts K) (PR (Zv rn K) (Zv rd K)))),kF,V (iV 0)] [.inl 0] [.inr 1] S0 ?_ ?_
 ·exact jj3 (bxA wA (oS 0 0) (ybe yax)) mC mC
 intro _ a1 _ (S1:Zt [_] [_])
 refine wp_seq ?_
 refine wq [V (TR (Vv nD D K) (Mv nL L K) (QV nT ts K) (PR (Zv rn K) (Zv rd K))),V (Vv m x Ks),V (iV e0),V (iV e0)] [.inr 0] [.inl 3,.inr 0] S1 ?_ ?_
 ·exact jj4 (loA 0 wA yal yax) (mS 0 1) (ch3 wA (qO 0 9 rfl) (qO 1 10 rfl) (yaa _) (yab _) (fun w u v t h1 h2 h3=>by obtain rfl:t=_:=h3.now; exact hre w u v h1 h2)) (mO 2 11)
 intro _ a2 _ (S2:Zt [_] [_,_])
 refine wq [V (iV e0),kT] [.inr 0] (.inl 1 :: ur2) S2 ?_ ?_
 ·exact jj2 (mS 0 6) (yd0 wA (oO 0 12) (yaa _) (h:=he))
 intro _ a3 _ (S3:Zt [_] [_,_,_])
 refine wp_cond_true (S3.bool 0 13 rfl) ?_
 refine wq [V (iV e0),kF,V (iV e0)] [.inr 0] [.inl 1,.inl 2] S3 ?_ ?_
 ·exact jj3 (mS 1 6) mC (mO 0 14)
 intro _ a4 _ (S4:Zt [_] [_,_])
 refine wp_ret (thenR ?_)
 exact ydi S4 rfl (yay S4 0 4 rfl) (yay S4 1 5 rfl)
abbrev yt8 (w:World)(nL:Nat)(nT:Nat)(D:List Int)(L:List (List Int))(ts:List (Int × Int))(m:Nat)(x:List Int):Pr:=(ZN ((((cmN ts nT:Nat):Int)*((cmN ts nT:Nat):Int))*((fS D (shL x ((cmN ts nT:Nat):Int) (tauL ts nL) nL m) L nL m).2*D.getD (nL-m) 0))) w.heap.size
theorem zg2 (w:World)(u:Value)(nD nL nT K:Nat)(D:List Int)(L:List (List Int))(ts:List (Int × Int))(rn rd:Int)(h:Hs w (TR (Vv nD D K) (Mv nL L K) (QV nT ts K) (PR (Zv rn K) (Zv rd K))) u)(hD:nD<=1048576)(hL:nL<=1048576)(hT:nT<=1048576)(hK:K<=1048576)(lD:D.length=nD)(lL:L.length=nL)(lT:ts.length=nT)(g:TGood D L ts rn rd)(v:Value)(m Ks:Nat)(x:List Int)(hv:Hs w (Vv m x Ks) v)(lx:x.length=m)(hKs:Ks<=16777216)(hS:dsum ts nT<=4194304)(hN:∀ k,k<=m->(digs (fS D (shL x ((cmN ts nT:Nat):Int) (tauL ts nL) nL m) L nL k).1.natAbs).length<=67108864)(hR:∀ k,k<=m->(digs (fS D (shL x ((cmN ts nT:Nat):Int) (tauL ts nL) nL m) L nL k).2.natAbs).length<=67108864)(hml:m<=nL)(Kz:Nat)(hsd:Dl (shL x ((cmN ts nT:Nat):Int) (tauL ts nL) nL m) Kz)(qn:Nat)(hq:(((cmN ts nT:Nat):Int)*((cmN ts nT:Nat):Int))*((fS D (shL x ((cmN ts nT:Nat):Int) (tauL ts nL) nL m) L nL m).2*D.getD (nL-m) 0)=(qn:Int))(hq0:qn≠0)(hqd:(digs qn).length<=67108864):
  CG 11 #[u,v] w (TWO (QQ ((fS D (shL x ((cmN ts nT:Nat):Int) (tauL ts nL) nL m) L nL m).1) qn) (IS (.int .i64 0))):=by
 have hgl:=g.g.len
 have hgt:=g.len
 have hdim:=g.dim
 have hz3:(digs ((((cmN ts nT:Nat):Int)*((cmN ts nT:Nat):Int))*((fS D (shL x ((cmN ts nT:Nat):Int) (tauL ts nL) nL m) L nL m).2*D.getD (nL-m) 0)).natAbs).length<=67108864:=by rw [hq]; exact hqd
 refine yak (sl:=[(0,(TR (Vv nD D K) (Mv nL L K) (QV nT ts K) (PR (Zv rn K) (Zv rd K)))),(1,(Vv m x Ks))]) Tryz.func11 rfl Tryz.ntmps11 (by simp) (yae rfl (h) (yae rfl (hv) yao)) ?_
 intro a0 S0
 refine wq [.new (.box 41 (TR (Vv nD D K) (Mv nL L K) (QV nT ts K) (PR (Zv rn K) (Zv rd K)))),.new (.box 26 zR),V (iV 0)] [.inl 0,.inl 1] [.inr 1] S0 ?_ ?_
 ·exact jj3 (bxA wA (oS 0 0) (ybe yax)) (nwA wA ya3) mC
 intro _ a1 _ (S1:Zt [_,_] [_])
 refine wp_seq ?_
 refine wq [V (TR (Vv nD D K) (Mv nL L K) (QV nT ts K) (PR (Zv rn K) (Zv rd K))),V (Vv m x Ks),V (iV 0),V (iV 0)] ur2 [.inl 3,.inr 0] S1 ?_ ?_
 ·exact jj4 (loA 0 wA yal yax) (mS 0 1) (ch3 wA (qO 0 8 rfl) (qO 1 9 rfl) (yaa _) (yab _) (fun w u v t h1 h2 h3=>by obtain rfl:t=_:=h3.now; exact yuj w u nD nL nT K D L ts rn rd h1 hD hL hT hK lD lL lT g v m Ks x h2 0 (by omega))) (mO 2 10)
 intro _ a2 _ (S2:Zt [_,_] [_,_])
 refine wq [V (iV 0),kF] ur2 (.inl 1 :: ur2) S2 ?_ ?_
 ·exact jj2 (mS 0 6) (yaz wA (oO 0 11) (yaa _) (h:=rfl))
 intro _ a3 _ (S3:Zt [_,_] [_,_,_])
 refine wp_cond_false (S3.bool 0 12 rfl) (wp_skip (thenN ?_))
 refine wq [V (TR (Vv nD D K) (Mv nL L K) (QV nT ts K) (PR (Zv rn K) (Zv rd K))),V (Vv m x Ks),V (SP (APx nD nL nL ((K+4194304)) D L ((tauL ts nL)) (((cmN ts nT:Nat):Int))) ((VN m ((shL x ((cmN ts nT:Nat):Int) (tauL ts nL) nL m))) w.heap.size) ((ZN (fB (shL x ((cmN ts nT:Nat):Int) (tauL ts nL) nL m) L nL m)) w.heap.size) ((ZN ((fS D (shL x ((cmN ts nT:Nat):Int) (tauL ts nL) nL m) L nL m).1)) w.heap.size) ((ZN ((fS D (shL x ((cmN ts nT:Nat):Int) (tauL ts nL) nL m) L nL m).2)) w.heap.size)),V (PR ((ZN ((fS D (shL x ((cmN ts nT:Nat):Int) (tauL ts nL) nL m) L nL m).1)) w.heap.size) (yt8 w nL nT D L ts m x)),.new (.box 26 zR),.put (.inr 4) (.box 26 (PR ((ZN ((fS D (shL x ((cmN ts nT:Nat):Int) (tauL ts nL) nL m) L nL m).1)) w.heap.size) (yt8 w nL nT D L ts m x)))] [.inr 0,.inr 1,.inl 4] [] S3 ?_ ?_
 ·exact jj6 (loA 0 wA yal yax) (mS 2 1) (yda rfl wA rfl (oO 0 15) (oO 1 16) rfl (fun args w=>by go_simp) (fun B w2 u v hl hB hu hv=>up2 hu hv (fun h=>Has.mono' (yrp h) (fun k h=>h.elim)) (fun h1 h2=>yu0 B w.heap.size w2 u v nD nL nT K (K+4194304) D L ts rn rd hB hl h1 (by omega) hL hT hK lD lL lT g.t hS (by omega) (by omega) (zha _) (by omega) m Ks x h2 lx (by omega) (by omega) (fun j hj=>g.g.row j (by omega)) (fun i hi=>by have:=g.g.pos i (by omega); omega) hKs (fun k hk=>zhb (hN k hk) (by omega)) (fun k hk=>zhb (hR k hk) (by omega))))) (yfg rfl wA rfl (oO 2 17) rfl (fun args w=>by go_simp) (fun B w u hlo hB h1=>ytn (Ks:=Kz) (fun v w h=>h) (by omega) hL hL (show (K+4194304)<=16777216 by omega) lD lL (yju (ts:=ts) (n:=nL) (by omega)) (by omega) (ygf _ _ _ _ _) rfl (by omega) hsd (zhb (hR m (zha _)) (by omega)) B w u hlo hB h1)) (nwA wA ya3) (puA 4 wA (oO 3 18) yaj ybk (ybm yai yai))
 intro _ a4 _ (S4:Zt [_,_,_] [])
 refine wq [V (Part a4 7 0),Fw (ZN ((fS D (shL x ((cmN ts nT:Nat):Int) (tauL ts nL) nL m) L nL m).1)) w,V (Part a4 7 2),V (yt8 w nL nT D L ts m x),Fw (TWO (QQ ((fS D (shL x ((cmN ts nT:Nat):Int) (tauL ts nL) nL m) L nL m).1) qn) (IS (.int .i64 0))) w,Fw (QQ ((fS D (shL x ((cmN ts nT:Nat):Int) (tauL ts nL) nL m) L nL m).1) qn) w,V (iV 0),.put (.inl 4) (.box 26 ((QQ ((fS D (shL x ((cmN ts nT:Nat):Int) (tauL ts nL) nL m) L nL m).1) qn) w.heap.size)),V (iV 0)] ur2 [.inl 8] S4 ?_ ?_
 ·exact ⟨jj8 (ptZ wA 2 yca) (plA wA (oO 0 19) 2 rfl rfl ydo) (ptA wA 2 ycg) (plA wA (oO 2 21) 2 rfl rfl ycj) (cc2 wA (qO 1 20 rfl) (qO 3 22 rfl) (ya5 (ybr _ _) (yab _)) (fun w u v h1 h2=>ymr (k:=67108864) (k':=67108864) hq0 (by omega) (by omega) w u v ((ybf (hN m (zha _))) _ _ h1) (by rw [← hq]; exact (ybf hz3) _ _ h2))) (e20 wA (oO 4 23)) (e21 wA (oO 4 23)) (seA 1 wA (oO 5 24) yaj ybk ych),mO 6 25⟩
 intro _ a5 _ (S5:Zt [_,_] [_])
 refine wp_ret ?_
 exact ydi S5 rfl (ybb S5 1 4 rfl yaj ych) (yay S5 0 5 rfl)
theorem zgt (w:World)(u:Value)(nD nL nT K:Nat)(D:List Int)(L:List (List Int))(ts:List (Int × Int))(rn rd:Int)(h:Hs w (TR (Vv nD D K) (Mv nL L K) (QV nT ts K) (PR (Zv rn K) (Zv rd K))) u)(hD:nD<=1048576)(hL:nL<=1048576)(hT:nT<=1048576)(hK:K<=1048576)(lD:D.length=nD)(lL:L.length=nL)(lT:ts.length=nT)(g:TGood D L ts rn rd)(v:Value)(m Ks:Nat)(x:List Int)(hv:Hs w (Vv m x Ks) v)(lx:x.length=m)(hKs:Ks<=16777216)(hS:dsum ts nT<=4194304)(hN:∀ k,k<=m->(digs (fS D (shL x ((cmN ts nT:Nat):Int) (tauL ts nL) nL m) L nL k).1.natAbs).length<=67108864)(hR:∀ k,k<=m->(digs (fS D (shL x ((cmN ts nT:Nat):Int) (tauL ts nL) nL m) L nL k).2.natAbs).length<=67108864)(hml:m < nL)(Kz:Nat)(hsd:Dl (shL x ((cmN ts nT:Nat):Int) (tauL ts nL) nL m) Kz)(hbB:(digs ((fB (shL x ((cmN ts nT:Nat):Int) (tauL ts nL) nL m) L nL m)).natAbs).length<=134217728)(qc:Nat)(hq:((cmN ts nT:Nat):Int)*D.getD (nL-1-m+1) 0=(qc:Int))(hq0:qc≠0)(hqd:(digs qc).length<=67108864)(bcn:(digs ((tauL ts nL).getD (nL-1-m) 0*D.getD (nL-1-m+1) 0-(fB (shL x ((cmN ts nT:Nat):Int) (tauL ts nL) nL m) L nL m)).natAbs).length<=67108864):
  CG 12 #[u,v] w (TWO (QQ ((tauL ts nL).getD (nL-1-m) 0*D.getD (nL-1-m+1) 0-(fB (shL x ((cmN ts nT:Nat):Int) (tauL ts nL) nL m) L nL m)) qc) (IS (.int .i64 0))):=by
 have hgl:=g.g.len
 have hgt:=g.len
 have hdim:=g.dim
 have hNb:(digs ((fS D (shL x ((cmN ts nT:Nat):Int) (tauL ts nL) nL m) L nL m).1).natAbs).length<=67108864:=hN m (zha _)
 have hRb:(digs ((fS D (shL x ((cmN ts nT:Nat):Int) (tauL ts nL) nL m) L nL m).2).natAbs).length<=67108864:=hR m (zha _)
 refine yak (sl:=[(0,(TR (Vv nD D K) (Mv nL L K) (QV nT ts K) (PR (Zv rn K) (Zv rd K)))),(1,(Vv m x Ks))]) Tryz.func12 rfl Tryz.ntmps12 (by simp) (yae rfl (h) (yae rfl (hv) yao)) ?_
 intro a0 S0
 refine wq [.new (.box 41 (TR (Vv nD D K) (Mv nL L K) (QV nT ts K) (PR (Zv rn K) (Zv rd K)))),.new (.box 26 zR),V (iV 0)] [.inl 0,.inl 1] [.inr 1] S0 ?_ ?_
 ·exact jj3 (bxA wA (oS 0 0) (ybe yax)) (nwA wA ya3) mC
 intro _ a1 _ (S1:Zt [_,_] [_])
 refine wp_seq ?_
 refine wq [V (TR (Vv nD D K) (Mv nL L K) (QV nT ts K) (PR (Zv rn K) (Zv rd K))),V (Vv m x Ks),V (iV 0),V (iV 0)] ur2 [.inl 3,.inr 0] S1 ?_ ?_
 ·exact jj4 (loA 0 wA yal yax) (mS 0 1) (ch3 wA (qO 0 8 rfl) (qO 1 9 rfl) (yaa _) (yab _) (fun w u v t h1 h2 h3=>by obtain rfl:t=_:=h3.now; exact yuj w u nD nL nT K D L ts rn rd h1 hD hL hT hK lD lL lT g v m Ks x h2 1 (by omega))) (mO 2 10)
 intro _ a2 _ (S2:Zt [_,_] [_,_])
 refine wq [V (iV 0),kF] ur2 (.inl 1 :: ur2) S2 ?_ ?_
 ·exact jj2 (mS 0 6) (yaz wA (oO 0 11) (yaa _) (h:=rfl))
 intro _ a3 _ (S3:Zt [_,_] [_,_,_])
 refine wp_cond_false (S3.bool 0 12 rfl) (wp_skip (thenN ?_))
 refine wq [V (TR (Vv nD D K) (Mv nL L K) (QV nT ts K) (PR (Zv rn K) (Zv rd K))),V (Vv m x Ks),V (SP (APx nD nL nL ((K+4194304)) D L ((tauL ts nL)) (((cmN ts nT:Nat):Int))) ((VN m ((shL x ((cmN ts nT:Nat):Int) (tauL ts nL) nL m))) w.heap.size) ((ZN (fB (shL x ((cmN ts nT:Nat):Int) (tauL ts nL) nL m) L nL m)) w.heap.size) ((ZN ((fS D (shL x ((cmN ts nT:Nat):Int) (tauL ts nL) nL m) L nL m).1)) w.heap.size) ((ZN ((fS D (shL x ((cmN ts nT:Nat):Int) (tauL ts nL) nL m) L nL m).2)) w.heap.size)),Fw (PRF (ZN ((tauL ts nL).getD (nL-1-m) 0*D.getD (nL-1-m+1) 0-(fB (shL x ((cmN ts nT:Nat):Int) (tauL ts nL) nL m) L nL m))) (ZN ((qc:Int)))) w,.new (.box 26 zR),.put (.inr 4) (.box 26 ((PRF (ZN ((tauL ts nL).getD (nL-1-m) 0*D.getD (nL-1-m+1) 0-(fB (shL x ((cmN ts nT:Nat):Int) (tauL ts nL) nL m) L nL m))) (ZN ((qc:Int)))) w.heap.size))] [.inr 0,.inr 1,.inl 4] [] S3 ?_ ?_
 ·exact jj6 (loA 0 wA yal yax) (mS 2 1) (yda rfl wA rfl (oO 0 15) (oO 1 16) rfl (fun args w=>by go_simp) (fun B w2 u v hl hB hu hv=>up2 hu hv (fun h=>Has.mono' (yrp h) (fun k h=>h.elim)) (fun h1 h2=>yu0 B w.heap.size w2 u v nD nL nT K (K+4194304) D L ts rn rd hB hl h1 (by omega) hL hT hK lD lL lT g.t hS (by omega) (by omega) (zha _) (by omega) m Ks x h2 lx (by omega) (by omega) (fun j hj=>g.g.row j (by omega)) (fun i hi=>by have:=g.g.pos i (by omega); omega) hKs (fun k hk=>zhb (hN k hk) (by omega)) (fun k hk=>zhb (hR k hk) (by omega))))) (ch1 wA ((qO 2 17 rfl).imp (yg1 (fun v w h=>h) (yrr hsd) (ybf hbB) (ybf hNb) (ybf hRb))) (yfc (yah _) (yah _)) (fun w u0 h0=>by obtain ⟨pa,h0⟩:=zeu (fun v w h=>h) h0; exact Gives.cast (za7 w pa nD nL nL (K+4194304) D L (tauL ts nL) ((cmN ts nT:Nat):Int) (by omega) hL hL (show (K+4194304)<=16777216 by omega) lD lL (yju (ts:=ts) (n:=nL) (by omega)) u0 m Kz _ _ _ _ _ _ _ h0 hml (ygf _ _ _ _ _) rfl (by omega) _ _ rfl rfl (zha _)) (by rw [hq]))) (nwA wA ya3) (puA 4 wA (oO 3 18) yaj ybk (ybm yai yai))
 intro _ a4 _ (S4:Zt [_,_,_] [])
 refine wq [V (Part a4 7 0),Fw (ZN ((tauL ts nL).getD (nL-1-m) 0*D.getD (nL-1-m+1) 0-(fB (shL x ((cmN ts nT:Nat):Int) (tauL ts nL) nL m) L nL m))) w,V (Part a4 7 2),Fw (ZN ((qc:Int))) w,Fw (TWO (QQ ((tauL ts nL).getD (nL-1-m) 0*D.getD (nL-1-m+1) 0-(fB (shL x ((cmN ts nT:Nat):Int) (tauL ts nL) nL m) L nL m)) qc) (IS (.int .i64 0))) w,Fw (QQ ((tauL ts nL).getD (nL-1-m) 0*D.getD (nL-1-m+1) 0-(fB (shL x ((cmN ts nT:Nat):Int) (tauL ts nL) nL m) L nL m)) qc) w,V (iV 0),.put (.inl 4) (.box 26 ((QQ ((tauL ts nL).getD (nL-1-m) 0*D.getD (nL-1-m+1) 0-(fB (shL x ((cmN ts nT:Nat):Int) (tauL ts nL) nL m) L nL m)) qc) w.heap.size)),V (iV 0)] ur2 [.inl 8] S4 ?_ ?_
 ·exact ⟨jj8 (ptZ wA 2 yca) (plA wA (oO 0 19) 2 rfl rfl ydo) (ptA wA 2 ycg) (plA wA (oO 2 21) 2 rfl rfl ycj) (cc2 wA (qO 1 20 rfl) (qO 3 22 rfl) (ya5 (ybr _ _) (yab _)) (fun w u v h1 h2=>ymr (k:=67108864) (k':=67108864) hq0 (by omega) (by omega) w u v (ybf bcn _ _ h1) (ybf (by rw [zhy]; exact hqd) _ _ h2))) (e20 wA (oO 4 23)) (e21 wA (oO 4 23)) (seA 1 wA (oO 5 24) yaj ybk ych),mO 6 25⟩
 intro _ a5 _ (S5:Zt [_,_] [_])
 refine wp_ret ?_
 exact ydi S5 rfl (ybb S5 1 4 rfl yaj ych) (yay S5 0 5 rfl)
theorem zgv (w:World)(u:Value)(nD nL nT K:Nat)(D:List Int)(L:List (List Int))(ts:List (Int × Int))(rn rd:Int)(h:Hs w (TR (Vv nD D K) (Mv nL L K) (QV nT ts K) (PR (Zv rn K) (Zv rd K))) u)(hD:nD<=1048576)(hL:nL<=1048576)(hT:nT<=1048576)(hK:K<=1048576)(lD:D.length=nD)(lL:L.length=nL)(lT:ts.length=nT)(g:TGood D L ts rn rd)(v:Value)(m Ks:Nat)(x:List Int)(hv:Hs w (Vv m x Ks) v)(lx:x.length=m)(hKs:Ks<=16777216)(hS:dsum ts nT<=4194304)(hN:∀ k,k<=m->(digs (fS D (shL x ((cmN ts nT:Nat):Int) (tauL ts nL) nL m) L nL k).1.natAbs).length<=67108864)(hR:∀ k,k<=m->(digs (fS D (shL x ((cmN ts nT:Nat):Int) (tauL ts nL) nL m) L nL k).2.natAbs).length<=67108864)(hml:m<=nL)(Kz:Nat)(hsd:Dl (shL x ((cmN ts nT:Nat):Int) (tauL ts nL) nL m) Kz)(qn:Nat)(hq:(((cmN ts nT:Nat):Int)*((cmN ts nT:Nat):Int))*((fS D (shL x ((cmN ts nT:Nat):Int) (tauL ts nL) nL m) L nL m).2*D.getD (nL-m) 0)=(qn:Int))(hq0:qn≠0)(hqd:(digs qn).length<=67108864)(bN8:(digs ((fS D (shL x ((cmN ts nT:Nat):Int) (tauL ts nL) nL m) L nL m).1).natAbs).length<=8388608)(bq8:(digs qn).length<=8388608)(rd0:Nat)(hrd:rd=(rd0:Int))(hr0:rd0≠0)(hle:(fS D (shL x ((cmN ts nT:Nat):Int) (tauL ts nL) nL m) L nL m).1*(rd0:Int)<=rn*(qn:Int)):
  CG 13 #[u,v] w (TWO (IS (.bool true)) (IS (.int .i64 0))):=by
 have hgl:=g.g.len
 have hgt:=g.len
 have hdim:=g.dim
 have hz3:(digs ((((cmN ts nT:Nat):Int)*((cmN ts nT:Nat):Int))*((fS D (shL x ((cmN ts nT:Nat):Int) (tauL ts nL) nL m) L nL m).2*D.getD (nL-m) 0)).natAbs).length<=67108864:=by rw [hq]; exact hqd
 have hsg:((fS D (shL x ((cmN ts nT:Nat):Int) (tauL ts nL) nL m) L nL m).1*(rd0:Int)-rn*(qn:Int)).sign<=0:=yel (by omega)
 refine yak (sl:=[(0,(TR (Vv nD D K) (Mv nL L K) (QV nT ts K) (PR (Zv rn K) (Zv rd K)))),(1,(Vv m x Ks))]) Tryz.func13 rfl Tryz.ntmps13 (by simp) (yae rfl (h) (yae rfl (hv) yao)) ?_
 intro a0 S0
 refine wq [.new (.box 41 (TR (Vv nD D K) (Mv nL L K) (QV nT ts K) (PR (Zv rn K) (Zv rd K)))),kF,V (iV 0)] [.inl 0] [.inr 1] S0 ?_ ?_
 ·exact jj3 (bxA wA (oS 0 0) (ybe yax)) mC mC
 intro _ a1 _ (S1:Zt [_] [_])
 refine wp_seq ?_
 refine wq [V (TR (Vv nD D K) (Mv nL L K) (QV nT ts K) (PR (Zv rn K) (Zv rd K))),V (Vv m x Ks),V (iV 0),V (iV 0)] [.inr 0] [.inl 3,.inr 0] S1 ?_ ?_
 ·exact jj4 (loA 0 wA yal yax) (mS 0 1) (ch3 wA (qO 0 9 rfl) (qO 1 10 rfl) (yaa _) (yab _) (fun w u v t h1 h2 h3=>by obtain rfl:t=_:=h3.now; exact yuj w u nD nL nT K D L ts rn rd h1 hD hL hT hK lD lL lT g v m Ks x h2 0 (by omega))) (mO 2 11)
 intro _ a2 _ (S2:Zt [_] [_,_])
 refine wq [V (iV 0),kF] [.inr 0] (.inl 1 :: ur2) S2 ?_ ?_
 ·exact jj2 (mS 0 6) (yaz wA (oO 0 12) (yaa _) (h:=rfl))
 intro _ a3 _ (S3:Zt [_] [_,_,_])
 refine wp_cond_false (S3.bool 0 13 rfl) (wp_skip (thenN ?_))
 refine wq [V (TR (Vv nD D K) (Mv nL L K) (QV nT ts K) (PR (Zv rn K) (Zv rd K))),V (Vv m x Ks),V (SP (APx nD nL nL ((K+4194304)) D L ((tauL ts nL)) (((cmN ts nT:Nat):Int))) ((VN m ((shL x ((cmN ts nT:Nat):Int) (tauL ts nL) nL m))) w.heap.size) ((ZN (fB (shL x ((cmN ts nT:Nat):Int) (tauL ts nL) nL m) L nL m)) w.heap.size) ((ZN ((fS D (shL x ((cmN ts nT:Nat):Int) (tauL ts nL) nL m) L nL m).1)) w.heap.size) ((ZN ((fS D (shL x ((cmN ts nT:Nat):Int) (tauL ts nL) nL m) L nL m).2)) w.heap.size)),V (PR ((ZN ((fS D (shL x ((cmN ts nT:Nat):Int) (tauL ts nL) nL m) L nL m).1)) w.heap.size) ((ZN ((((cmN ts nT:Nat):Int)*((cmN ts nT:Nat):Int))*((fS D (shL x ((cmN ts nT:Nat):Int) (tauL ts nL) nL m) L nL m).2*D.getD (nL-m) 0))) w.heap.size)),V (Part a3 2 3),V (PR (Zv rn K) (Zv rd K)),Fw (TWO (IS (.int .i64 ((fS D (shL x ((cmN ts nT:Nat):Int) (tauL ts nL) nL m) L nL m).1*(rd0:Int)-rn*(qn:Int)).sign)) (IS (.int .i64 0))) w,Fw (TWO (IS (.int .i64 ((fS D (shL x ((cmN ts nT:Nat):Int) (tauL ts nL) nL m) L nL m).1*(rd0:Int)-rn*(qn:Int)).sign)) (IS (.int .i64 0))) w,V (Is (.int .i64 ((fS D (shL x ((cmN ts nT:Nat):Int) (tauL ts nL) nL m) L nL m).1*(rd0:Int)-rn*(qn:Int)).sign)),V (iV 0),V (Is (.int .i64 ((fS D (shL x ((cmN ts nT:Nat):Int) (tauL ts nL) nL m) L nL m).1*(rd0:Int)-rn*(qn:Int)).sign)),V (iV 0)] [.inr 0] [.inl 10] S3 ?_ ?_
 ·exact ⟨⟨⟨⟨jj8 (loA 0 wA yal yax) (mS 2 1) (yda rfl wA rfl (oO 0 16) (oO 1 17) rfl (fun args w=>by go_simp) (fun B w2 u v hl hB hu hv=>up2 hu hv (fun h=>Has.mono' (yrp h) (fun k h=>h.elim)) (fun h1 h2=>yu0 B w.heap.size w2 u v nD nL nT K (K+4194304) D L ts rn rd hB hl h1 (by omega) hL hT hK lD lL lT g.t hS (by omega) (by omega) (zha _) (by omega) m Ks x h2 lx (by omega) (by omega) (fun j hj=>g.g.row j (by omega)) (fun i hi=>by have:=g.g.pos i (by omega); omega) hKs (fun k hk=>zhb (hN k hk) (by omega)) (fun k hk=>zhb (hR k hk) (by omega))))) (yfg rfl wA rfl (oO 2 18) rfl (fun args w=>by go_simp) (fun B w u hlo hB h1=>ytn (Ks:=Kz) (fun v w h=>h) (by omega) hL hL (show (K+4194304)<=16777216 by omega) lD lL (yju (ts:=ts) (n:=nL) (by omega)) (by omega) (ygf _ _ _ _ _) rfl (by omega) hsd (zhb (hR m (zha _)) (by omega)) B w u hlo hB h1)) (ptA wA 0 ybp) (plA wA (oO 4 20) 0 rfl rfl ycp) (cc2 wA (qO 3 19 rfl) (qO 5 21 rfl) (ya5 (yab _) (yab _)) (fun w u v h1 h2=>by rw [hq] at h1; rw [hrd] at h2; exact yk8 (k1:=8388608) (k2:=8388608) (k3:=K) (k4:=K) hq0 hr0 (zha _) (zha _) (by omega) (by omega) w u v (yic (ybf bN8) (ybf (by rw [zhy]; exact bq8)) _ _ h1) h2)) (mO 6 22),e20 wA (oO 7 15)⟩,e21 wA (oO 7 15)⟩,mO 8 23⟩,mO 9 24⟩
 intro _ a4 _ (S4:Zt [_] [_])
 refine wq [V (Is (.int .i64 ((fS D (shL x ((cmN ts nT:Nat):Int) (tauL ts nL) nL m) L nL m).1*(rd0:Int)-rn*(qn:Int)).sign)),kT,kT,V (iV 0)] [.inr 0] [.inl 2,.inl 3] S4 ?_ ?_
 ·exact jj4 (mS 0 7) (yer wA (oO 0 25) (yaa _)) (mO 1 26) mC
 intro _ a5 _ (S5:Zt [_] [_,_])
 refine wp_ret ?_
 exact ydi S5 rfl (yay S5 0 4 rfl) (yay S5 1 5 rfl)
theorem zgu (w:World)(u:Value)(nD nL nT K:Nat)(D:List Int)(L:List (List Int))(ts:List (Int × Int))(rn rd:Int)(h:Hs w (TR (Vv nD D K) (Mv nL L K) (QV nT ts K) (PR (Zv rn K) (Zv rd K))) u)(hD:nD<=1048576)(hL:nL<=1048576)(hT:nT<=1048576)(hK:K<=1048576)(lD:D.length=nD)(lL:L.length=nL)(lT:ts.length=nT)(g:TGood D L ts rn rd)(v:Value)(m Ks:Nat)(x:List Int)(hv:Hs w (Vv m x Ks) v)(lx:x.length=m)(hKs:Ks<=16777216)(hS:dsum ts nT<=4194304)(hN:∀ k,k<=m->(digs (fS D (shL x ((cmN ts nT:Nat):Int) (tauL ts nL) nL m) L nL k).1.natAbs).length<=67108864)(hR:∀ k,k<=m->(digs (fS D (shL x ((cmN ts nT:Nat):Int) (tauL ts nL) nL m) L nL k).2.natAbs).length<=67108864)(hml:m<=nL)(Kz:Nat)(hsd:Dl (shL x ((cmN ts nT:Nat):Int) (tauL ts nL) nL m) Kz)(qn:Nat)(hq:(((cmN ts nT:Nat):Int)*((cmN ts nT:Nat):Int))*((fS D (shL x ((cmN ts nT:Nat):Int) (tauL ts nL) nL m) L nL m).2*D.getD (nL-m) 0)=(qn:Int))(hq0:qn≠0)(hqd:(digs qn).length<=67108864)(bN8:(digs ((fS D (shL x ((cmN ts nT:Nat):Int) (tauL ts nL) nL m) L nL m).1).natAbs).length<=8388608)(bq8:(digs qn).length<=8388608)(rd0:Nat)(hrd:rd=(rd0:Int))(hr0:rd0≠0)(hle:rn*(qn:Int) < (fS D (shL x ((cmN ts nT:Nat):Int) (tauL ts nL) nL m) L nL m).1*(rd0:Int)):
  CG 13 #[u,v] w (TWO (IS (.bool false)) (IS (.int .i64 0))):=by
 have hgl:=g.g.len
 have hgt:=g.len
 have hdim:=g.dim
 have hz3:(digs ((((cmN ts nT:Nat):Int)*((cmN ts nT:Nat):Int))*((fS D (shL x ((cmN ts nT:Nat):Int) (tauL ts nL) nL m) L nL m).2*D.getD (nL-m) 0)).natAbs).length<=67108864:=by rw [hq]; exact hqd
 have hsg:0 < ((fS D (shL x ((cmN ts nT:Nat):Int) (tauL ts nL) nL m) L nL m).1*(rd0:Int)-rn*(qn:Int)).sign:=by rw [zh7 (by omega)]; decide
 refine yak (sl:=[(0,(TR (Vv nD D K) (Mv nL L K) (QV nT ts K) (PR (Zv rn K) (Zv rd K)))),(1,(Vv m x Ks))]) Tryz.func13 rfl Tryz.ntmps13 (by simp) (yae rfl (h) (yae rfl (hv) yao)) ?_
 intro a0 S0
 refine wq [.new (.box 41 (TR (Vv nD D K) (Mv nL L K) (QV nT ts K) (PR (Zv rn K) (Zv rd K)))),kF,V (iV 0)] [.inl 0] [.inr 1] S0 ?_ ?_
 ·exact jj3 (bxA wA (oS 0 0) (ybe yax)) mC mC
 intro _ a1 _ (S1:Zt [_] [_])
 refine wp_seq ?_
 refine wq [V (TR (Vv nD D K) (Mv nL L K) (QV nT ts K) (PR (Zv rn K) (Zv rd K))),V (Vv m x Ks),V (iV 0),V (iV 0)] [.inr 0] [.inl 3,.inr 0] S1 ?_ ?_
 ·exact jj4 (loA 0 wA yal yax) (mS 0 1) (ch3 wA (qO 0 9 rfl) (qO 1 10 rfl) (yaa _) (yab _) (fun w u v t h1 h2 h3=>by obtain rfl:t=_:=h3.now; exact yuj w u nD nL nT K D L ts rn rd h1 hD hL hT hK lD lL lT g v m Ks x h2 0 (by omega))) (mO 2 11)
 intro _ a2 _ (S2:Zt [_] [_,_])
 refine wq [V (iV 0),kF] [.inr 0] (.inl 1 :: ur2) S2 ?_ ?_
 ·exact jj2 (mS 0 6) (yaz wA (oO 0 12) (yaa _) (h:=rfl))
 intro _ a3 _ (S3:Zt [_] [_,_,_])
 refine wp_cond_false (S3.bool 0 13 rfl) (wp_skip (thenN ?_))
 refine wq [V (TR (Vv nD D K) (Mv nL L K) (QV nT ts K) (PR (Zv rn K) (Zv rd K))),V (Vv m x Ks),V (SP (APx nD nL nL ((K+4194304)) D L ((tauL ts nL)) (((cmN ts nT:Nat):Int))) ((VN m ((shL x ((cmN ts nT:Nat):Int) (tauL ts nL) nL m))) w.heap.size) ((ZN (fB (shL x ((cmN ts nT:Nat):Int) (tauL ts nL) nL m) L nL m)) w.heap.size) ((ZN ((fS D (shL x ((cmN ts nT:Nat):Int) (tauL ts nL) nL m) L nL m).1)) w.heap.size) ((ZN ((fS D (shL x ((cmN ts nT:Nat):Int) (tauL ts nL) nL m) L nL m).2)) w.heap.size)),V (PR ((ZN ((fS D (shL x ((cmN ts nT:Nat):Int) (tauL ts nL) nL m) L nL m).1)) w.heap.size) ((ZN ((((cmN ts nT:Nat):Int)*((cmN ts nT:Nat):Int))*((fS D (shL x ((cmN ts nT:Nat):Int) (tauL ts nL) nL m) L nL m).2*D.getD (nL-m) 0))) w.heap.size)),V (Part a3 2 3),V (PR (Zv rn K) (Zv rd K)),Fw (TWO (IS (.int .i64 ((fS D (shL x ((cmN ts nT:Nat):Int) (tauL ts nL) nL m) L nL m).1*(rd0:Int)-rn*(qn:Int)).sign)) (IS (.int .i64 0))) w,Fw (TWO (IS (.int .i64 ((fS D (shL x ((cmN ts nT:Nat):Int) (tauL ts nL) nL m) L nL m).1*(rd0:Int)-rn*(qn:Int)).sign)) (IS (.int .i64 0))) w,V (Is (.int .i64 ((fS D (shL x ((cmN ts nT:Nat):Int) (tauL ts nL) nL m) L nL m).1*(rd0:Int)-rn*(qn:Int)).sign)),V (iV 0),V (Is (.int .i64 ((fS D (shL x ((cmN ts nT:Nat):Int) (tauL ts nL) nL m) L nL m).1*(rd0:Int)-rn*(qn:Int)).sign)),V (iV 0)] [.inr 0] [.inl 10] S3 ?_ ?_
 ·exact ⟨⟨⟨⟨jj8 (loA 0 wA yal yax) (mS 2 1) (yda rfl wA rfl (oO 0 16) (oO 1 17) rfl (fun args w=>by go_simp) (fun B w2 u v hl hB hu hv=>up2 hu hv (fun h=>Has.mono' (yrp h) (fun k h=>h.elim)) (fun h1 h2=>yu0 B w.heap.size w2 u v nD nL nT K (K+4194304) D L ts rn rd hB hl h1 (by omega) hL hT hK lD lL lT g.t hS (by omega) (by omega) (zha _) (by omega) m Ks x h2 lx (by omega) (by omega) (fun j hj=>g.g.row j (by omega)) (fun i hi=>by have:=g.g.pos i (by omega); omega) hKs (fun k hk=>zhb (hN k hk) (by omega)) (fun k hk=>zhb (hR k hk) (by omega))))) (yfg rfl wA rfl (oO 2 18) rfl (fun args w=>by go_simp) (fun B w u hlo hB h1=>ytn (Ks:=Kz) (fun v w h=>h) (by omega) hL hL (show (K+4194304)<=16777216 by omega) lD lL (yju (ts:=ts) (n:=nL) (by omega)) (by omega) (ygf _ _ _ _ _) rfl (by omega) hsd (zhb (hR m (zha _)) (by omega)) B w u hlo hB h1)) (ptA wA 0 ybp) (plA wA (oO 4 20) 0 rfl rfl ycp) (cc2 wA (qO 3 19 rfl) (qO 5 21 rfl) (ya5 (yab _) (yab _)) (fun w u v h1 h2=>by rw [hq] at h1; rw [hrd] at h2; exact yk8 (k1:=8388608) (k2:=8388608) (k3:=K) (k4:=K) hq0 hr0 (zha _) (zha _) (by omega) (by omega) w u v (yic (ybf bN8) (ybf (by rw [zhy]; exact bq8)) _ _ h1) h2)) (mO 6 22),e20 wA (oO 7 15)⟩,e21 wA (oO 7 15)⟩,mO 8 23⟩,mO 9 24⟩
 intro _ a4 _ (S4:Zt [_] [_])
 refine wq [V (Is (.int .i64 ((fS D (shL x ((cmN ts nT:Nat):Int) (tauL ts nL) nL m) L nL m).1*(rd0:Int)-rn*(qn:Int)).sign)),kF,kF,V (iV 0)] [.inr 0] [.inl 2,.inl 3] S4 ?_ ?_
 ·exact jj4 (mS 0 7) (yd4 wA (oO 0 25) (yaa _)) (mO 1 26) mC
 intro _ a5 _ (S5:Zt [_] [_,_])
 refine wp_ret ?_
 exact ydi S5 rfl (yay S5 0 4 rfl) (yay S5 1 5 rfl)
theorem yx3 (w:World)(u:Value)(nD nL nT K:Nat)(D:List Int)(L:List (List Int))(ts:List (Int × Int))(rn rd:Int)(h:Hs w (TR (Vv nD D K) (Mv nL L K) (QV nT ts K) (PR (Zv rn K) (Zv rd K))) u)(hD:nD<=1048576)(hL:nL<=1048576)(hT:nT<=1048576)(hK:K<=1048576)(lD:D.length=nD)(lL:L.length=nL)(lT:ts.length=nT)(v:Value)(m Ks:Nat)(x:List Int)(hv:Hs w (Vv m x Ks) v)(hm0:m<=1048576)(hc:m < nL):
  CG 17 #[u,v,.bool false] w (IS (.bool true)):=by
 refine yak (sl:=[(0,(TR (Vv nD D K) (Mv nL L K) (QV nT ts K) (PR (Zv rn K) (Zv rd K)))),(1,(Vv m x Ks)),(2,bF)]) Tryz.func17 rfl Tryz.ntmps17 (by simp) (yae rfl (h) (yae rfl (hv) (yae rfl (ycy _) yao))) ?_
 intro a0 S0
 refine wq [.new (.box 41 (TR (Vv nD D K) (Mv nL L K) (QV nT ts K) (PR (Zv rn K) (Zv rd K)))),kF] [.inl 0] [.inr 1,.inr 2] S0 ?_ ?_
 ·exact jj2 (bxA wA (oS 0 0) (ybe yax)) mC
 intro _ a1 _ (S1:Zt [_] [_,_])
 refine wq [V (Vv m x Ks),V (iV (m:Nat)),V (Part a1 3 0),V (Part a1 3 1),V (Mv nL L K),V (iV (nL:Nat)),kT,kT,.off,.off,V (Is (undef)),.off,.off,.off,.off,.off,.off,.off,.off,kT,kT] [.inr 0] [.inl 20] S1 ?_ ?_
 ·exact ⟨⟨⟨⟨⟨⟨⟨⟨⟨⟨⟨⟨⟨jj8 (mS 0 1) (lnA wA (oO 0 7) Tryz.underlying35) (ptZ wA 0 yas) (ya6 rfl wA rfl (oO 2 9) rfl (fun ρ w b h=>yaw ρ _ _ w b 0 h)) (plA wA (oO 3 10) 0 rfl rfl ybj) (lnA wA (oO 4 11) Tryz.underlying36) (ya8 wA (oO 1 8) (oO 5 12)) (mO 6 13),oF 7 14⟩,oF 7 14⟩,yin 7 14 rfl rfl rfl (by kernel_rfl) rfl (by decide)⟩,ybx 10 17 rfl rfl rfl (by kernel_rfl) rfl⟩,ybx 10 17 rfl rfl rfl (by kernel_rfl) rfl⟩,ybx 10 17 rfl rfl rfl (by kernel_rfl) rfl⟩,ybx 10 17 rfl rfl rfl (by kernel_rfl) rfl⟩,ybx 10 17 rfl rfl rfl (by kernel_rfl) rfl⟩,ybx 10 17 rfl rfl rfl (by kernel_rfl) rfl⟩,ybx 10 17 rfl rfl rfl (by kernel_rfl) rfl⟩,oF 7 14⟩,pT wA (oO 7 14) (yaa _)⟩,mO 19 26⟩
 intro _ a2 _ (S2:Zt [_] [_])
 refine wp_ret ?_
 exact yav S2 rfl (yay S2 0 6 rfl)
theorem yx4 (w:World)(u:Value)(nD nL nT K:Nat)(D:List Int)(L:List (List Int))(ts:List (Int × Int))(rn rd:Int)(h:Hs w (TR (Vv nD D K) (Mv nL L K) (QV nT ts K) (PR (Zv rn K) (Zv rd K))) u)(hD:nD<=1048576)(hL:nL<=1048576)(hT:nT<=1048576)(hK:K<=1048576)(lD:D.length=nD)(lL:L.length=nL)(lT:ts.length=nT)(v:Value)(m Ks:Nat)(x:List Int)(hv:Hs w (Vv m x Ks) v)(hm0:m<=1048576)(hc:m < nL):
  CG 17 #[u,v,.bool true] w (IS (.bool true)):=by
 refine yak (sl:=[(0,(TR (Vv nD D K) (Mv nL L K) (QV nT ts K) (PR (Zv rn K) (Zv rd K)))),(1,(Vv m x Ks)),(2,bT)]) Tryz.func17 rfl Tryz.ntmps17 (by simp) (yae rfl (h) (yae rfl (hv) (yae rfl (ycy _) yao))) ?_
 intro a0 S0
 refine wq [.new (.box 41 (TR (Vv nD D K) (Mv nL L K) (QV nT ts K) (PR (Zv rn K) (Zv rd K)))),kF] [.inl 0] [.inr 1,.inr 2] S0 ?_ ?_
 ·exact jj2 (bxA wA (oS 0 0) (ybe yax)) mC
 intro _ a1 _ (S1:Zt [_] [_,_])
 refine wq [V (Vv m x Ks),V (iV (m:Nat)),V (Part a1 3 0),V (Part a1 3 1),V (Mv nL L K),V (iV (nL:Nat)),kT,kT,.off,.off,V (Is (undef)),.off,.off,.off,.off,.off,.off,.off,.off,kT,kT] [.inr 0] [.inl 20] S1 ?_ ?_
 ·exact ⟨⟨⟨⟨⟨⟨⟨⟨⟨⟨⟨⟨⟨jj8 (mS 0 1) (lnA wA (oO 0 7) Tryz.underlying35) (ptZ wA 0 yas) (ya6 rfl wA rfl (oO 2 9) rfl (fun ρ w b h=>yaw ρ _ _ w b 0 h)) (plA wA (oO 3 10) 0 rfl rfl ybj) (lnA wA (oO 4 11) Tryz.underlying36) (ya8 wA (oO 1 8) (oO 5 12)) (mO 6 13),oF 7 14⟩,oF 7 14⟩,yin 7 14 rfl rfl rfl (by kernel_rfl) rfl (by decide)⟩,ybx 10 17 rfl rfl rfl (by kernel_rfl) rfl⟩,ybx 10 17 rfl rfl rfl (by kernel_rfl) rfl⟩,ybx 10 17 rfl rfl rfl (by kernel_rfl) rfl⟩,ybx 10 17 rfl rfl rfl (by kernel_rfl) rfl⟩,ybx 10 17 rfl rfl rfl (by kernel_rfl) rfl⟩,ybx 10 17 rfl rfl rfl (by kernel_rfl) rfl⟩,ybx 10 17 rfl rfl rfl (by kernel_rfl) rfl⟩,oF 7 14⟩,pT wA (oO 7 14) (yaa _)⟩,mO 19 26⟩
 intro _ a2 _ (S2:Zt [_] [_])
 refine wp_ret ?_
 exact yav S2 rfl (yay S2 0 6 rfl)
theorem zcv (w:World)(u:Value)(nD nL nT K:Nat)(D:List Int)(L:List (List Int))(ts:List (Int × Int))(rn rd:Int)(h:Hs w (TR (Vv nD D K) (Mv nL L K) (QV nT ts K) (PR (Zv rn K) (Zv rd K))) u)(hD:nD<=1048576)(hL:nL<=1048576)(hT:nT<=1048576)(hK:K<=1048576)(lD:D.length=nD)(lL:L.length=nL)(lT:ts.length=nT)(v:Value)(m Ks:Nat)(x:List Int)(hv:Hs w (Vv m x Ks) v)(hm0:m<=1048576)(hc:m=nL):
  CG 17 #[u,v,.bool false] w (IS (.bool true)):=by
 refine yak (sl:=[(0,(TR (Vv nD D K) (Mv nL L K) (QV nT ts K) (PR (Zv rn K) (Zv rd K)))),(1,(Vv m x Ks)),(2,bF)]) Tryz.func17 rfl Tryz.ntmps17 (by simp) (yae rfl (h) (yae rfl (hv) (yae rfl (ycy _) yao))) ?_
 intro a0 S0
 refine wq [.new (.box 41 (TR (Vv nD D K) (Mv nL L K) (QV nT ts K) (PR (Zv rn K) (Zv rd K)))),kF] [.inl 0] [.inr 1,.inr 2] S0 ?_ ?_
 ·exact jj2 (bxA wA (oS 0 0) (ybe yax)) mC
 intro _ a1 _ (S1:Zt [_] [_,_])
 refine wq [V (Vv m x Ks),V (iV (m:Nat)),V (Part a1 3 0),V (Part a1 3 1),V (Mv nL L K),V (iV (nL:Nat)),kF,kF,kF,kT,kT,V (Vv m x Ks),V (iV (m:Nat)),V (Part a1 3 0),V (Part a1 3 1),V (Mv nL L K),V (iV (nL:Nat)),kT,kT,kT,kT] [.inr 0] [.inl 20] S1 ?_ ?_
 ·exact ⟨⟨⟨⟨⟨⟨⟨⟨⟨⟨⟨⟨⟨jj8 (mS 0 1) (lnA wA (oO 0 7) Tryz.underlying35) (ptZ wA 0 yas) (ya6 rfl wA rfl (oO 2 9) rfl (fun ρ w b h=>yaw ρ _ _ w b 0 h)) (plA wA (oO 3 10) 0 rfl rfl ybj) (lnA wA (oO 4 11) Tryz.underlying36) (ybc wA (oO 1 8) (oO 5 12)) (mO 6 13),mW (wI 7 14) (oS 1 2)⟩,ycc (wI 7 14) (oO 8 15)⟩,mW (wI 7 14) (oO 9 16)⟩,mW (wI 10 17) (oS 0 1)⟩,lnA (wI 10 17) (oO 11 18) Tryz.underlying35⟩,ptZ (wI 10 17) 0 yas⟩,ya6 rfl (wI 10 17) rfl (oO 13 20) rfl (fun ρ w b h=>yaw ρ _ _ w b 0 h)⟩,plA (wI 10 17) (oO 14 21) 0 rfl rfl ybj⟩,lnA (wI 10 17) (oO 15 22) Tryz.underlying36⟩,ycl (wI 10 17) (oO 12 19) (oO 16 23)⟩,pT (wI 7 14) (oO 10 17) (oO 17 24)⟩,pF wA (oO 7 14) (oO 18 25)⟩,mO 19 26⟩
 intro _ a2 _ (S2:Zt [_] [_])
 refine wp_ret ?_
 exact yav S2 rfl (yay S2 0 6 rfl)
theorem zfz (w:World)(u:Value)(nD nL nT K:Nat)(D:List Int)(L:List (List Int))(ts:List (Int × Int))(rn rd:Int)(h:Hs w (TR (Vv nD D K) (Mv nL L K) (QV nT ts K) (PR (Zv rn K) (Zv rd K))) u)(hD:nD<=1048576)(hL:nL<=1048576)(hT:nT<=1048576)(hK:K<=1048576)(lD:D.length=nD)(lL:L.length=nL)(lT:ts.length=nT)(v:Value)(m Ks:Nat)(x:List Int)(hv:Hs w (Vv m x Ks) v)(hm0:m<=1048576)(hc:nL < m):
  CG 17 #[u,v,.bool false] w (IS (.bool false)):=by
 refine yak (sl:=[(0,(TR (Vv nD D K) (Mv nL L K) (QV nT ts K) (PR (Zv rn K) (Zv rd K)))),(1,(Vv m x Ks)),(2,bF)]) Tryz.func17 rfl Tryz.ntmps17 (by simp) (yae rfl (h) (yae rfl (hv) (yae rfl (ycy _) yao))) ?_
 intro a0 S0
 refine wq [.new (.box 41 (TR (Vv nD D K) (Mv nL L K) (QV nT ts K) (PR (Zv rn K) (Zv rd K)))),kF] [.inl 0] [.inr 1,.inr 2] S0 ?_ ?_
 ·exact jj2 (bxA wA (oS 0 0) (ybe yax)) mC
 intro _ a1 _ (S1:Zt [_] [_,_])
 refine wq [V (Vv m x Ks),V (iV (m:Nat)),V (Part a1 3 0),V (Part a1 3 1),V (Mv nL L K),V (iV (nL:Nat)),kF,kF,kF,kT,kT,V (Vv m x Ks),V (iV (m:Nat)),V (Part a1 3 0),V (Part a1 3 1),V (Mv nL L K),V (iV (nL:Nat)),kF,kF,kF,kF] [.inr 0] [.inl 20] S1 ?_ ?_
 ·exact ⟨⟨⟨⟨⟨⟨⟨⟨⟨⟨⟨⟨⟨jj8 (mS 0 1) (lnA wA (oO 0 7) Tryz.underlying35) (ptZ wA 0 yas) (ya6 rfl wA rfl (oO 2 9) rfl (fun ρ w b h=>yaw ρ _ _ w b 0 h)) (plA wA (oO 3 10) 0 rfl rfl ybj) (lnA wA (oO 4 11) Tryz.underlying36) (ybc wA (oO 1 8) (oO 5 12)) (mO 6 13),mW (wI 7 14) (oS 1 2)⟩,ycc (wI 7 14) (oO 8 15)⟩,mW (wI 7 14) (oO 9 16)⟩,mW (wI 10 17) (oS 0 1)⟩,lnA (wI 10 17) (oO 11 18) Tryz.underlying35⟩,ptZ (wI 10 17) 0 yas⟩,ya6 rfl (wI 10 17) rfl (oO 13 20) rfl (fun ρ w b h=>yaw ρ _ _ w b 0 h)⟩,plA (wI 10 17) (oO 14 21) 0 rfl rfl ybj⟩,lnA (wI 10 17) (oO 15 22) Tryz.underlying36⟩,ycd (wI 10 17) (oO 12 19) (oO 16 23)⟩,pT (wI 7 14) (oO 10 17) (oO 17 24)⟩,pF wA (oO 7 14) (oO 18 25)⟩,mO 19 26⟩
 intro _ a2 _ (S2:Zt [_] [_])
 refine wp_ret ?_
 exact yav S2 rfl (yay S2 0 6 rfl)
theorem zcw (w:World)(u:Value)(nD nL nT K:Nat)(D:List Int)(L:List (List Int))(ts:List (Int × Int))(rn rd:Int)(h:Hs w (TR (Vv nD D K) (Mv nL L K) (QV nT ts K) (PR (Zv rn K) (Zv rd K))) u)(hD:nD<=1048576)(hL:nL<=1048576)(hT:nT<=1048576)(hK:K<=1048576)(lD:D.length=nD)(lL:L.length=nL)(lT:ts.length=nT)(v:Value)(m Ks:Nat)(x:List Int)(hv:Hs w (Vv m x Ks) v)(hm0:m<=1048576)(hc:nL<=m):
  CG 17 #[u,v,.bool true] w (IS (.bool false)):=by
 refine yak (sl:=[(0,(TR (Vv nD D K) (Mv nL L K) (QV nT ts K) (PR (Zv rn K) (Zv rd K)))),(1,(Vv m x Ks)),(2,bT)]) Tryz.func17 rfl Tryz.ntmps17 (by simp) (yae rfl (h) (yae rfl (hv) (yae rfl (ycy _) yao))) ?_
 intro a0 S0
 refine wq [.new (.box 41 (TR (Vv nD D K) (Mv nL L K) (QV nT ts K) (PR (Zv rn K) (Zv rd K)))),kF] [.inl 0] [.inr 1,.inr 2] S0 ?_ ?_
 ·exact jj2 (bxA wA (oS 0 0) (ybe yax)) mC
 intro _ a1 _ (S1:Zt [_] [_,_])
 refine wq [V (Vv m x Ks),V (iV (m:Nat)),V (Part a1 3 0),V (Part a1 3 1),V (Mv nL L K),V (iV (nL:Nat)),kF,kF,kT,kF,kF,.off,.off,.off,.off,.off,.off,.off,kF,kF,kF] [.inr 0] [.inl 20] S1 ?_ ?_
 ·exact ⟨⟨⟨⟨⟨⟨⟨⟨⟨⟨⟨⟨⟨jj8 (mS 0 1) (lnA wA (oO 0 7) Tryz.underlying35) (ptZ wA 0 yas) (ya6 rfl wA rfl (oO 2 9) rfl (fun ρ w b h=>yaw ρ _ _ w b 0 h)) (plA wA (oO 3 10) 0 rfl rfl ybj) (lnA wA (oO 4 11) Tryz.underlying36) (ybc wA (oO 1 8) (oO 5 12)) (mO 6 13),mW (wI 7 14) (oS 1 2)⟩,ycc (wI 7 14) (oO 8 15)⟩,mW (wI 7 14) (oO 9 16)⟩,oF 10 17⟩,oF 10 17⟩,oF 10 17⟩,oF 10 17⟩,oF 10 17⟩,oF 10 17⟩,oF 10 17⟩,pF (wI 7 14) (oO 10 17) (yaa _)⟩,pF wA (oO 7 14) (oO 18 25)⟩,mO 19 26⟩
 intro _ a2 _ (S2:Zt [_] [_])
 refine wp_ret ?_
 exact yav S2 rfl (yay S2 0 6 rfl)
theorem same11 (w:World)(u v:Value)(s t:Bool)(xs ys:List Nat)(h:Hs w (PR (Nmx s xs) (Nmx t ys)) u)(h':Hs w (PR (Nmx s xs) (Nmx t ys)) v):
  CG 16 #[u,v] w (IS (.bool true)):=by
 refine yak (sl:=[(0,(PR (Nmx s xs) (Nmx t ys))),(1,(PR (Nmx s xs) (Nmx t ys)))]) Tryz.func16 rfl Tryz.ntmps16 (by simp) (yae rfl (h) (yae rfl (h') yao)) ?_
 intro a0 S0
 refine wq [.new (.box 26 (PR (Nmx s xs) (Nmx t ys))),.new (.box 26 (PR (Nmx s xs) (Nmx t ys))),kF] [.inl 0,.inl 1] [] S0 ?_ ?_
 ·exact jj3 (bxA wA (oS 0 0) (yfq (ybm yl5 yl5))) (bxA wA (oS 1 1) (yfq (ybm yl5 yl5))) mC
 intro _ a1 _ (S1:Zt [_,_] [])
 refine wq [V (Part a1 2 0),V (Nmx s xs),V (Part a1 3 0),V (Nmx s xs),kT,kT,V (Part a1 2 2),V (Nmx t ys),V (Part a1 3 2),V (Nmx t ys),kT,kT,kT] [] [.inl 12] S1 ?_ ?_
 ·exact ⟨⟨⟨⟨⟨jj8 (ptZ wA 0 yca) (plA wA (oO 0 5) 0 rfl rfl ydo) (ptZ wA 1 yca) (plA wA (oO 2 7) 1 rfl rfl ydo) (cc2 wA (qO 1 6 rfl) (qO 3 8 rfl) (yab _) h_eq) (mO 4 9) (ptA (wI 5 10) 0 ycg) (plA (wI 5 10) (oO 6 11) 0 rfl rfl ycj),ptA (wI 5 10) 1 ycg⟩,plA (wI 5 10) (oO 8 13) 1 rfl rfl ycj⟩,cc2 (wI 5 10) (qO 7 12 rfl) (qO 9 14 rfl) (yab _) h_eq⟩,pT wA (oO 5 10) (oO 10 15)⟩,mO 11 16⟩
 intro _ a2 _ (S2:Zt [] [_])
 refine wp_ret ?_
 exact yav S2 rfl (yay S2 0 4 rfl)
abbrev yp5 (w:World):Pr:=(TWO (IS (.agg #[.bool false,.slice none 0 0,.bool false,.slice none 0 0])) (IS (.int .i64 110))) w.heap.size
theorem tp_b (w:World)(u:Value)(nD nL nT K:Nat)(D:List Int)(L:List (List Int))(ts:List (Int × Int))(rn rd:Int)(h:Hs w (TR (Vv nD D K) (Mv nL L K) (QV nT ts K) (PR (Zv rn K) (Zv rd K))) u)(hD:nD<=1048576)(hL:nL<=1048576)(hT:nT<=1048576)(hK:K<=1048576)(lD:D.length=nD)(lL:L.length=nL)(lT:ts.length=nT)(tg:TBad D L ts rn rd)(v:Value)(m Ks:Nat)(x:List Int)(hv:Hs w (Vv m x Ks) v)(hm0:m<=1048576):
  CG 4 #[u,v] w (IS (.bool true)):=by
 refine yak (sl:=[(0,(TR (Vv nD D K) (Mv nL L K) (QV nT ts K) (PR (Zv rn K) (Zv rd K)))),(1,(Vv m x Ks))]) Tryz.func4 rfl Tryz.ntmps4 (by simp) (yae rfl (h) (yae rfl (hv) yao)) ?_
 intro a0 S0
 refine wq [.new (.box 41 (TR (Vv nD D K) (Mv nL L K) (QV nT ts K) (PR (Zv rn K) (Zv rd K)))),kF] [.inl 0] [.inr 1] S0 ?_ ?_
 ·exact jj2 (bxA wA (oS 0 0) (ybe yax)) mC
 intro _ a1 _ (S1:Zt [_] [_])
 refine wq [V (TR (Vv nD D K) (Mv nL L K) (QV nT ts K) (PR (Zv rn K) (Zv rd K))),V (Vv m x Ks),V (yp5 w),V (yp5 w),.val zR,V (iV 110),.new (.box 26 zR),.put (.inr 6) (.box 26 zR),V (iV 110)] [.inr 0,.inl 6] [.inl 8,.inr 0] S1 ?_ ?_
 ·exact ⟨jj8 (loA 0 wA yal yax) (mS 0 1) (ch2 wA (qO 0 12 rfl) (qO 1 13 rfl) (ya5 (yab _) (yab _)) (fun w u v h1 h2=>ze3 w u nD nL nT K D L ts rn rd h1 hD hL hT hK lD lL lT v m Ks x h2 110 (by decide) (fun w u v h1 h2=>zay w u nD nL nT K D L ts rn rd h1 hD hL hT hK lD lL lT tg v m Ks x h2 0))) (mO 2 14) (e20 wA (oO 3 11)) (e21 wA (oO 3 11)) (nwA wA ya3) (puA 6 wA (oO 4 15) yaj ybk ybk),mO 5 16⟩
 intro _ a2 _ (S2:Zt [_,_] [_,_])
 refine wq [V (TR (Vv nD D K) (Mv nL L K) (QV nT ts K) (PR (Zv rn K) (Zv rd K))),V (Vv m x Ks),V (yp5 w),V (yp5 w),.val zR,V (iV 110),.new (.box 26 zR),.put (.inr 6) (.box 26 zR),V (iV 110)] [.inr 0,.inr 1,.inl 6] (.inl 8 :: ur2) S2 ?_ ?_
 ·exact ⟨jj8 (loA 0 wA yal yax) (mS 1 1) (ch2 wA (qO 0 18 rfl) (qO 1 19 rfl) (ya5 (yab _) (yab _)) (fun w u v h1 h2=>yxd w u nD nL nT K D L ts rn rd h1 hD hL hT hK lD lL lT v m Ks x h2 110 (by decide) (fun w u v h1 h2=>zay w u nD nL nT K D L ts rn rd h1 hD hL hT hK lD lL lT tg v m Ks x h2 1))) (mO 2 20) (e20 wA (oO 3 17)) (e21 wA (oO 3 17)) (nwA wA ya3) (puA 6 wA (oO 4 21) yaj ybk ybk),mO 5 22⟩
 intro _ a3 _ (S3:Zt [_,_,_] [_,_,_])
 refine wq [V (TR (Vv nD D K) (Mv nL L K) (QV nT ts K) (PR (Zv rn K) (Zv rd K))),V (Vv m x Ks),Fw (TWO (IS (.bool false)) (IS (.int .i64 110))) w,Fw (TWO (IS (.bool false)) (IS (.int .i64 110))) w,kF,V (iV 110),kF,V (iV 110)] ur3 (.inl 6 :: .inl 7 :: ur3) S3 ?_ ?_
 ·repeat' refine And.intro ?_ ?_
  ·trivial
  ·exact loA 0 wA yal yax
  ·exact mS 2 1
  ·exact ch2 wA (qO 0 24 rfl) (qO 1 25 rfl) (ya5 (yab _) (yab _)) (fun w u v h1 h2=>zey w u nD nL nT K D L ts rn rd h1 hD hL hT hK lD lL lT v m Ks x h2 110 (by decide) (fun w u v h1 h2=>zay w u nD nL nT K D L ts rn rd h1 hD hL hT hK lD lL lT tg v m Ks x h2 0))
  ·exact mO 2 26
  ·exact e20 wA (oO 3 23)
  ·exact e21 wA (oO 3 23)
  ·exact mO 4 27
  ·exact mO 5 28
 intro _ a4 _ (S4:Zt [_,_,_] [_,_,_,_,_])
 refine wp_seq ?_
 refine wq [V (TR (Vv nD D K) (Mv nL L K) (QV nT ts K) (PR (Zv rn K) (Zv rd K))),kF,kT] ur3 (.inl 2 :: ur5) S4 ?_ ?_
 ·exact jj3 (loA 0 wA yal yax) (ch1 wA (qO 0 29 rfl) (yab _) (fun w u h1=>zch w u nD nL nT K D L ts rn rd h1 hD hL hT hK lD lL lT tg)) (ycc wA (oO 1 30))
 intro _ a5 _ (S5:Zt [_,_,_] [_,_,_,_,_,_])
 refine wp_cond_true (S5.bool 0 31 rfl) ?_
 refine wq [V (TR (Vv nD D K) (Mv nL L K) (QV nT ts K) (PR (Zv rn K) (Zv rd K))),V (iV 110),kT,kT,V (iV 110),kT,kT,kT,V (iV 110),kT,kT,kT,V (iV 110),kT,kT,kT,.val zR,.val zR,kT,kT,kT,.val zR,.val zR,kT,kT,kT,kF,kT,kT,kT,kT,kT,kT] [.inr 0] [.inl 32] S5 ?_ ?_
 ·exact ⟨⟨⟨⟨⟨⟨⟨⟨⟨⟨⟨⟨⟨⟨⟨⟨⟨⟨⟨⟨⟨⟨⟨⟨⟨jj8 (loA 0 wA yal yax) (ch1 wA (qO 0 32 rfl) (yab _) (fun w u h1=>yy6 w u nD nL nT K D L ts rn rd h1 hD hL hT hK lD lL lT tg)) (yb0 wA (oO 1 33) (yaa _) (h:=rfl)) (mO 2 34) (mW (wI 3 35) (oS 4 6)) (yb0 (wI 3 35) (oO 4 36) (yaa _) (h:=rfl)) (pT wA (oO 3 35) (oO 5 37)) (mO 6 38),mW (wI 7 39) (oS 3 8)⟩,yb0 (wI 7 39) (oO 8 40) (yaa _) (h:=rfl)⟩,pT wA (oO 7 39) (oO 9 41)⟩,mO 10 42⟩,mW (wI 11 43) (oS 2 10)⟩,yb0 (wI 11 43) (oO 12 44) (yaa _) (h:=rfl)⟩,pT wA (oO 11 43) (oO 13 45)⟩,mO 14 46⟩,loA 1 (wI 15 47) yaj ybk⟩,ycr rfl (wI 15 47) rfl rfl⟩,ch2 (wI 15 47) ((qO 16 48 rfl).imp yif) ((qO 17 49 rfl).imp yif) (yab _) (fun w u v h h'=>same11 w u v _ _ _ _ h h')⟩,pT wA (oO 15 47) (oO 18 50)⟩,mO 19 51⟩,loA 2 (wI 20 52) yaj ybk⟩,ycr rfl (wI 20 52) rfl rfl⟩,ch2 (wI 20 52) ((qO 21 53 rfl).imp yif) ((qO 22 54 rfl).imp yif) (yab _) (fun w u v h h'=>same11 w u v _ _ _ _ h h')⟩,pT wA (oO 20 52) (oO 23 55)⟩,mO 24 56⟩,mW (wI 25 57) (oS 1 9)⟩,ycc (wI 25 57) (oO 26 58)⟩,pT wA (oO 25 57) (oO 27 59)⟩,mO 28 60⟩,yex rfl (wI 29 61) rfl  (yab _) rfl (fun args w=>by go_simp) (fun w=>yro w)⟩,pT wA (oO 29 61) (oO 30 62)⟩,mO 31 63⟩
 intro _ a6 _ (S6:Zt [_] [_])
 refine wp_ret (thenR ?_)
 exact yav S6 rfl (yay S6 0 4 rfl)
abbrev yp4 (w:World):Pr:=(TWO (IS (.agg #[.bool false,.slice none 0 0,.bool false,.slice none 0 0])) (IS (.int .i64 1))) w.heap.size
theorem tp_a (w:World)(u:Value)(nD nL nT K:Nat)(D:List Int)(L:List (List Int))(ts:List (Int × Int))(rn rd:Int)(h:Hs w (TR (Vv nD D K) (Mv nL L K) (QV nT ts K) (PR (Zv rn K) (Zv rd K))) u)(hD:nD<=1048576)(hL:nL<=1048576)(hT:nT<=1048576)(hK:K<=1048576)(lD:D.length=nD)(lL:L.length=nL)(lT:ts.length=nT)(g:TGood D L ts rn rd)(v:Value)(m Ks:Nat)(x:List Int)(hv:Hs w (Vv m x Ks) v)(hm0:m<=1048576)(hc:nL < m):
  CG 4 #[u,v] w (IS (.bool true)):=by
 refine yak (sl:=[(0,(TR (Vv nD D K) (Mv nL L K) (QV nT ts K) (PR (Zv rn K) (Zv rd K)))),(1,(Vv m x Ks))]) Tryz.func4 rfl Tryz.ntmps4 (by simp) (yae rfl (h) (yae rfl (hv) yao)) ?_
 intro a0 S0
 refine wq [.new (.box 41 (TR (Vv nD D K) (Mv nL L K) (QV nT ts K) (PR (Zv rn K) (Zv rd K)))),kF] [.inl 0] [.inr 1] S0 ?_ ?_
 ·exact jj2 (bxA wA (oS 0 0) (ybe yax)) mC
 intro _ a1 _ (S1:Zt [_] [_])
 refine wq [V (TR (Vv nD D K) (Mv nL L K) (QV nT ts K) (PR (Zv rn K) (Zv rd K))),V (Vv m x Ks),V (yp4 w),V (yp4 w),.val zR,V (iV 1),.new (.box 26 zR),.put (.inr 6) (.box 26 zR),V (iV 1)] [.inr 0,.inl 6] [.inl 8,.inr 0] S1 ?_ ?_
 ·exact ⟨jj8 (loA 0 wA yal yax) (mS 0 1) (ch2 wA (qO 0 12 rfl) (qO 1 13 rfl) (ya5 (yab _) (yab _)) (fun w u v h1 h2=>ze3 w u nD nL nT K D L ts rn rd h1 hD hL hT hK lD lL lT v m Ks x h2 1 (by decide) (fun w u v h1 h2=>yui w u nD nL nT K D L ts rn rd h1 hD hL hT hK lD lL lT g v m Ks x h2 hm0 0 (by omega) (by omega)))) (mO 2 14) (e20 wA (oO 3 11)) (e21 wA (oO 3 11)) (nwA wA ya3) (puA 6 wA (oO 4 15) yaj ybk ybk),mO 5 16⟩
 intro _ a2 _ (S2:Zt [_,_] [_,_])
 refine wq [V (TR (Vv nD D K) (Mv nL L K) (QV nT ts K) (PR (Zv rn K) (Zv rd K))),V (Vv m x Ks),V (yp4 w),V (yp4 w),.val zR,V (iV 1),.new (.box 26 zR),.put (.inr 6) (.box 26 zR),V (iV 1)] [.inr 0,.inr 1,.inl 6] (.inl 8 :: ur2) S2 ?_ ?_
 ·exact ⟨jj8 (loA 0 wA yal yax) (mS 1 1) (ch2 wA (qO 0 18 rfl) (qO 1 19 rfl) (ya5 (yab _) (yab _)) (fun w u v h1 h2=>yxd w u nD nL nT K D L ts rn rd h1 hD hL hT hK lD lL lT v m Ks x h2 1 (by decide) (fun w u v h1 h2=>yui w u nD nL nT K D L ts rn rd h1 hD hL hT hK lD lL lT g v m Ks x h2 hm0 1 (by omega) (by omega)))) (mO 2 20) (e20 wA (oO 3 17)) (e21 wA (oO 3 17)) (nwA wA ya3) (puA 6 wA (oO 4 21) yaj ybk ybk),mO 5 22⟩
 intro _ a3 _ (S3:Zt [_,_,_] [_,_,_])
 refine wq [V (TR (Vv nD D K) (Mv nL L K) (QV nT ts K) (PR (Zv rn K) (Zv rd K))),V (Vv m x Ks),Fw (TWO (IS (.bool false)) (IS (.int .i64 1))) w,Fw (TWO (IS (.bool false)) (IS (.int .i64 1))) w,kF,V (iV 1),kF,V (iV 1)] ur3 (.inl 6 :: .inl 7 :: ur3) S3 ?_ ?_
 ·repeat' refine And.intro ?_ ?_
  ·trivial
  ·exact loA 0 wA yal yax
  ·exact mS 2 1
  ·exact ch2 wA (qO 0 24 rfl) (qO 1 25 rfl) (ya5 (yab _) (yab _)) (fun w u v h1 h2=>zey w u nD nL nT K D L ts rn rd h1 hD hL hT hK lD lL lT v m Ks x h2 1 (by decide) (fun w u v h1 h2=>yui w u nD nL nT K D L ts rn rd h1 hD hL hT hK lD lL lT g v m Ks x h2 hm0 0 (by omega) (by omega)))
  ·exact mO 2 26
  ·exact e20 wA (oO 3 23)
  ·exact e21 wA (oO 3 23)
  ·exact mO 4 27
  ·exact mO 5 28
 intro _ a4 _ (S4:Zt [_,_,_] [_,_,_,_,_])
 refine wp_seq ?_
 refine wq [V (TR (Vv nD D K) (Mv nL L K) (QV nT ts K) (PR (Zv rn K) (Zv rd K))),kT,kF] ur3 (.inl 2 :: ur5) S4 ?_ ?_
 ·exact jj3 (loA 0 wA yal yax) (ch1 wA (qO 0 29 rfl) (yab _) (fun w u h1=>ymn w u nD nL nT K D L ts rn rd h1 hD hL hT hK lD lL lT g)) (ycc wA (oO 1 30))
 intro _ a5 _ (S5:Zt [_,_,_] [_,_,_,_,_,_])
 refine wp_cond_false (S5.bool 0 31 rfl) (wp_skip (thenN (wp_seq ?_)))
 refine wq [V (TR (Vv nD D K) (Mv nL L K) (QV nT ts K) (PR (Zv rn K) (Zv rd K))),V (iV 0),kF] ur3 [.inl 2,.inr 1,.inr 2,.inr 3,.inr 4,.inr 5] S5 ?_ ?_
 ·exact jj3 (loA 0 wA yal yax) (ch1 wA (qO 0 64 rfl) (yab _) (fun w u h1=>yjv w u nD nL nT K D L ts rn rd h1 hD hL hT hK lD lL lT g)) (yaz wA (oO 1 65) (yaa _) (h:=rfl))
 intro _ a6 _ (S6:Zt [_,_,_] [_,_,_,_,_,_])
 refine wp_cond_false (S6.bool 0 66 rfl) (wp_skip (thenN (wp_seq ?_)))
 refine wq [V (TR (Vv nD D K) (Mv nL L K) (QV nT ts K) (PR (Zv rn K) (Zv rd K))),V (Vv m x Ks),kF,kT] ur3 [.inl 3,.inr 1,.inr 2,.inr 3,.inr 4,.inr 5] S6 ?_ ?_
 ·exact jj4 (loA 0 wA yal yax) (mS 5 1) (ch3 wA (qO 0 67 rfl) (qO 1 68 rfl) (yaa _) (yab _) (fun w u v t h1 h2 h3=>by obtain rfl:t=_:=h3.now; exact zfz w u nD nL nT K D L ts rn rd h1 hD hL hT hK lD lL lT v m Ks x h2 hm0 (by omega))) (ycc wA (oO 2 69))
 intro _ a7 _ (S7:Zt [_,_,_] [_,_,_,_,_,_])
 refine wp_cond_true (S7.bool 0 70 rfl) ?_
 refine wq [V (iV 1),kT,kT,V (iV 1),kT,kT,kT,V (iV 1),kT,kT,kT,.val zR,.val zR,kT,kT,kT,.val zR,.val zR,kT,kT,kT,kF,kT,kT,kT,kT,kT,kT] [.inr 0] [.inl 27] S7 ?_ ?_
 ·exact ⟨⟨⟨⟨⟨⟨⟨⟨⟨⟨⟨⟨⟨⟨⟨⟨⟨⟨⟨⟨jj8 (mS 4 6) (yb0 wA (oO 0 71) (yaa _) (h:=rfl)) (mO 1 72) (mW (wI 2 73) (oS 3 8)) (yb0 (wI 2 73) (oO 3 74) (yaa _) (h:=rfl)) (pT wA (oO 2 73) (oO 4 75)) (mO 5 76) (mW (wI 6 77) (oS 2 10)),yb0 (wI 6 77) (oO 7 78) (yaa _) (h:=rfl)⟩,pT wA (oO 6 77) (oO 8 79)⟩,mO 9 80⟩,loA 1 (wI 10 81) yaj ybk⟩,ycr rfl (wI 10 81) rfl rfl⟩,ch2 (wI 10 81) ((qO 11 82 rfl).imp yif) ((qO 12 83 rfl).imp yif) (yab _) (fun w u v h h'=>same11 w u v _ _ _ _ h h')⟩,pT wA (oO 10 81) (oO 13 84)⟩,mO 14 85⟩,loA 2 (wI 15 86) yaj ybk⟩,ycr rfl (wI 15 86) rfl rfl⟩,ch2 (wI 15 86) ((qO 16 87 rfl).imp yif) ((qO 17 88 rfl).imp yif) (yab _) (fun w u v h h'=>same11 w u v _ _ _ _ h h')⟩,pT wA (oO 15 86) (oO 18 89)⟩,mO 19 90⟩,mW (wI 20 91) (oS 1 9)⟩,ycc (wI 20 91) (oO 21 92)⟩,pT wA (oO 20 91) (oO 22 93)⟩,mO 23 94⟩,yex rfl (wI 24 95) rfl  (yab _) rfl (fun args w=>by go_simp) (fun w=>yro w)⟩,pT wA (oO 24 95) (oO 25 96)⟩,mO 26 97⟩
 intro _ a8 _ (S8:Zt [_] [_])
 refine wp_ret (thenR ?_)
 exact yav S8 rfl (yay S8 0 4 rfl)
abbrev ygw (nD:Nat)(nL:Nat)(nT:Nat)(K:Nat)(D:List Int)(L:List (List Int))(ts:List (Int × Int))(rn:Int)(rd:Int):Pr:=TR (Vv nD D K) (Mv nL L K) (QV nT ts K) (PR (Zv rn K) (Zv rd K))
theorem zg1 (w:World)(u:Value)(nD nL nT K:Nat)(D:List Int)(L:List (List Int))(ts:List (Int × Int))(rn rd:Int)(h:Hs w (TR (Vv nD D K) (Mv nL L K) (QV nT ts K) (PR (Zv rn K) (Zv rd K))) u)(hD:nD<=1048576)(hL:nL<=1048576)(hT:nT<=1048576)(hK:K<=1048576)(lD:D.length=nD)(lL:L.length=nL)(lT:ts.length=nT)(g:TGood D L ts rn rd)(v:Value)(m Ks:Nat)(x:List Int)(hv:Hs w (Vv m x Ks) v)(hm0:m<=1048576)(hm:m=nL)(N:Int)(q:Nat)(hp:∀ (w:World) (u v:Value),Hs w (TR (Vv nD D K) (Mv nL L K) (QV nT ts K) (PR (Zv rn K) (Zv rd K))) u->Hs w (Vv m x Ks) v->CG 11 #[u,v] w ((TWO (QQ N q) (IS (.int .i64 0)))))(hdp:∀ (w:World) (u v:Value),Hs w (TR (Vv nD D K) (Mv nL L K) (QV nT ts K) (PR (Zv rn K) (Zv rd K))) u->Hs w (Vv m x Ks) v->CG 18 #[u,v] w ((QQ N q)))(hi:∀ (w:World) (u v:Value),Hs w (TR (Vv nD D K) (Mv nL L K) (QV nT ts K) (PR (Zv rn K) (Zv rd K))) u->Hs w (Vv m x Ks) v->CG 13 #[u,v] w ((TWO (IS (.bool true)) (IS (.int .i64 0)))))(hdi:∀ (w:World) (u v:Value),Hs w (TR (Vv nD D K) (Mv nL L K) (QV nT ts K) (PR (Zv rn K) (Zv rd K))) u->Hs w (Vv m x Ks) v->CG 19 #[u,v] w ((IS (.bool true)))):
  CG 4 #[u,v] w (IS (.bool true)):=by
 refine yak (sl:=[(0,(TR (Vv nD D K) (Mv nL L K) (QV nT ts K) (PR (Zv rn K) (Zv rd K)))),(1,(Vv m x Ks))]) Tryz.func4 rfl Tryz.ntmps4 (by simp) (yae rfl (h) (yae rfl (hv) yao)) ?_
 intro a0 S0
 refine wq [.new (.box 41 (ygw nD nL nT K D L ts rn rd)),kF] [.inl 0] [.inr 1] S0 ?_ ?_
 ·exact jj2 (bxA wA (oS 0 0) (ybe yax)) mC
 intro _ a1 _ (S1:Zt [_] [_])
 refine wq [V (ygw nD nL nT K D L ts rn rd),V (Vv m x Ks),Fw (TWO (QQ N q) (IS (.int .i64 0))) w,Fw (TWO (QQ N q) (IS (.int .i64 0))) w,Fw (QQ N q) w,V (iV 0),.new (.box 26 zR),.put (.inr 6) (.box 26 ((QQ N q) w.heap.size)),V (iV 0)] [.inr 0,.inl 6] [.inl 8,.inr 0] S1 ?_ ?_
 ·exact ⟨jj8 (loA 0 wA yal yax) (mS 0 1) (ch2 wA (qO 0 12 rfl) (qO 1 13 rfl) (ya5 (ybr _ _) (yab _)) (fun w u v h1 h2=>hp w u v h1 h2)) (mO 2 14) (e20 wA (oO 3 11)) (e21 wA (oO 3 11)) (nwA wA ya3) (puA 6 wA (oO 4 15) yaj ybk ych),mO 5 16⟩
 intro _ a2 _ (S2:Zt [_,_] [_,_])
 refine wq [V (ygw nD nL nT K D L ts rn rd),V (Vv m x Ks),Fw (TWO (IS (.agg #[.bool false,.slice none 0 0,.bool false,.slice none 0 0])) (IS (.int .i64 1))) w,Fw (TWO (IS (.agg #[.bool false,.slice none 0 0,.bool false,.slice none 0 0])) (IS (.int .i64 1))) w,.val zR,V (iV 1),.new (.box 26 zR),.put (.inr 6) (.box 26 zR),V (iV 1)] [.inr 0,.inr 1,.inl 6] (.inl 8 :: ur2) S2 ?_ ?_
 ·exact ⟨jj8 (loA 0 wA yal yax) (mS 1 1) (ch2 wA (qO 0 18 rfl) (qO 1 19 rfl) (ya5 (yab _) (yab _)) (fun w u v h1 h2=>yxd w u nD nL nT K D L ts rn rd h1 hD hL hT hK lD lL lT v m Ks x h2 1 (by decide) (fun w u v h1 h2=>yui w u nD nL nT K D L ts rn rd h1 hD hL hT hK lD lL lT g v m Ks x h2 hm0 1 (by omega) (by omega)))) (mO 2 20) (e20 wA (oO 3 17)) (e21 wA (oO 3 17)) (nwA wA ya3) (puA 6 wA (oO 4 21) yaj ybk ybk),mO 5 22⟩
 intro _ a3 _ (S3:Zt [_,_,_] [_,_,_])
 refine wq [V (ygw nD nL nT K D L ts rn rd),V (Vv m x Ks),Fw (TWO (IS (.bool true)) (IS (.int .i64 0))) w,Fw (TWO (IS (.bool true)) (IS (.int .i64 0))) w,kT,V (iV 0),kT,V (iV 0)] ur3 (.inl 6 :: .inl 7 :: ur3) S3 ?_ ?_
 ·repeat' refine And.intro ?_ ?_
  ·trivial
  ·exact loA 0 wA yal yax
  ·exact mS 2 1
  ·exact ch2 wA (qO 0 24 rfl) (qO 1 25 rfl) (ya5 (yab _) (yab _)) (fun w u v h1 h2=>hi w u v h1 h2)
  ·exact mO 2 26
  ·exact e20 wA (oO 3 23)
  ·exact e21 wA (oO 3 23)
  ·exact mO 4 27
  ·exact mO 5 28
 intro _ a4 _ (S4:Zt [_,_,_] [_,_,_,_,_])
 refine wp_seq ?_
 refine wq [V (ygw nD nL nT K D L ts rn rd),kT,kF] ur3 (.inl 2 :: ur5) S4 ?_ ?_
 ·exact jj3 (loA 0 wA yal yax) (ch1 wA (qO 0 29 rfl) (yab _) (fun w u h1=>ymn w u nD nL nT K D L ts rn rd h1 hD hL hT hK lD lL lT g)) (ycc wA (oO 1 30))
 intro _ a5 _ (S5:Zt [_,_,_] [_,_,_,_,_,_])
 refine wp_cond_false (S5.bool 0 31 rfl) (wp_skip (thenN (wp_seq ?_)))
 refine wq [V (ygw nD nL nT K D L ts rn rd),V (iV 0),kF] ur3 [.inl 2,.inr 1,.inr 2,.inr 3,.inr 4,.inr 5] S5 ?_ ?_
 ·exact jj3 (loA 0 wA yal yax) (ch1 wA (qO 0 64 rfl) (yab _) (fun w u h1=>yjv w u nD nL nT K D L ts rn rd h1 hD hL hT hK lD lL lT g)) (yaz wA (oO 1 65) (yaa _) (h:=rfl))
 intro _ a6 _ (S6:Zt [_,_,_] [_,_,_,_,_,_])
 refine wp_cond_false (S6.bool 0 66 rfl) (wp_skip (thenN (wp_seq ?_)))
 refine wq [V (ygw nD nL nT K D L ts rn rd),V (Vv m x Ks),kT,kF] ur3 [.inl 3,.inr 1,.inr 2,.inr 3,.inr 4,.inr 5] S6 ?_ ?_
 ·exact jj4 (loA 0 wA yal yax) (mS 5 1) (ch3 wA (qO 0 67 rfl) (qO 1 68 rfl) (yaa _) (yab _) (fun w u v t h1 h2 h3=>by obtain rfl:t=_:=h3.now; exact zcv w u nD nL nT K D L ts rn rd h1 hD hL hT hK lD lL lT v m Ks x h2 hm0 (by omega))) (ycc wA (oO 2 69))
 intro _ a7 _ (S7:Zt [_,_,_] [_,_,_,_,_,_])
 refine wp_cond_false (S7.bool 0 70 rfl) (wp_skip (thenN (wp_seq ?_)))
 refine wq [V (iV 0),kF,kF,V (iV 0),kF,kF,kF,Fw (QQ N q) w,V (ygw nD nL nT K D L ts rn rd),V (Vv m x Ks),Fw (QQ N q) w,kT,kF,kF,kF,kT,V (ygw nD nL nT K D L ts rn rd),V (Vv m x Ks),kT,kF,kF] [.inr 0,.inr 2] [.inl 20,.inr 3,.inr 5] S7 ?_ ?_
 ·exact ⟨⟨⟨⟨⟨⟨⟨⟨⟨⟨⟨⟨⟨jj8 (mS 4 6) (yaz wA (oO 0 98) (yaa _) (h:=rfl)) (mO 1 99) (mW (wI 2 100) (oS 2 10)) (yaz (wI 2 100) (oO 3 101) (yaa _) (h:=rfl)) (pF wA (oO 2 100) (oO 4 102)) (mO 5 103) (loA 1 (wI 6 104) yaj ych),loA 0 (wI 6 104) yal yax⟩,mW (wI 6 104) (oS 5 1)⟩,ch2 (wI 6 104) (qO 8 106 rfl) (qO 9 107 rfl) (ybr _ _) (fun w u v h1 h2=>hdp w u v h1 h2)⟩,ch2 (wI 6 104) ((qO 7 105 rfl).imp (fun v w h=>yf1 v w h)) ((qO 10 108 rfl).imp (fun v w h=>yf1 v w h)) (yab _) (fun w u v h h'=>same11 w u v _ _ _ _ h h')⟩,ycc (wI 6 104) (oO 11 109)⟩,pF wA (oO 6 104) (oO 12 110)⟩,mO 13 111⟩,mW (wI 14 112) (oS 1 9)⟩,loA 0 (wI 14 112) yal yax⟩,mW (wI 14 112) (oS 5 1)⟩,ch2 (wI 14 112) (qO 16 114 rfl) (qO 17 115 rfl) (yab _) (fun w u v h1 h2=>hdi w u v h1 h2)⟩,ybt rfl (wI 14 112) rfl (oO 15 113) (oO 18 116) rfl (fun ρ w h1 h2=>by exact yef ρ _ _ _ w true true h1 h2)⟩,pF wA (oO 14 112) (oO 19 117)⟩
 intro _ a8 _ (S8:Zt [_,_] [_,_,_])
 refine wp_cond_false (S8.bool 0 118 rfl) (wp_skip (thenN (wp_seq ?_)))
 refine wq [V (ygw nD nL nT K D L ts rn rd),V (Vv m x Ks),kF,kT] ur2 [.inl 3,.inr 1,.inr 2] S8 ?_ ?_
 ·exact jj4 (loA 0 wA yal yax) (mS 2 1) (ch3 wA (qO 0 119 rfl) (qO 1 120 rfl) (yaa _) (yab _) (fun w u v t h1 h2 h3=>by obtain rfl:t=_:=h3.now; exact zcw w u nD nL nT K D L ts rn rd h1 hD hL hT hK lD lL lT v m Ks x h2 hm0 (by omega))) (ycc wA (oO 2 121))
 intro _ a9 _ (S9:Zt [_,_] [_,_,_])
 refine wp_cond_true (S9.bool 0 122 rfl) ?_
 refine wq [V (iV 1),kT,kT,.val zR,.val zR,kT,kT,kT,kT,kT,kT] [.inr 0] [.inl 10] S9 ?_ ?_
 ·exact ⟨⟨⟨jj8 (mS 1 8) (yb0 wA (oO 0 123) (yaa _) (h:=rfl)) (mO 1 124) (loA 1 (wI 2 125) yaj ybk) (ycr rfl (wI 2 125) rfl rfl) (ch2 (wI 2 125) ((qO 3 126 rfl).imp yif) ((qO 4 127 rfl).imp yif) (yab _) (fun w u v h h'=>same11 w u v _ _ _ _ h h')) (pT wA (oO 2 125) (oO 5 128)) (mO 6 129),yex rfl (wI 7 130) rfl  (yab _) rfl (fun args w=>by go_simp) (fun w=>yro w)⟩,pT wA (oO 7 130) (oO 8 131)⟩,mO 9 132⟩
 intro _ a10 _ (S10:Zt [_] [_])
 refine wp_ret (thenR ?_)
 exact yav S10 rfl (yay S10 0 4 rfl)
abbrev ygc (nD:Nat)(nL:Nat)(nT:Nat)(K:Nat)(D:List Int)(L:List (List Int))(ts:List (Int × Int))(rn:Int)(rd:Int):Pr:=TR (Vv nD D K) (Mv nL L K) (QV nT ts K) (PR (Zv rn K) (Zv rd K))
theorem zgz (w:World)(u:Value)(nD nL nT K:Nat)(D:List Int)(L:List (List Int))(ts:List (Int × Int))(rn rd:Int)(h:Hs w (TR (Vv nD D K) (Mv nL L K) (QV nT ts K) (PR (Zv rn K) (Zv rd K))) u)(hD:nD<=1048576)(hL:nL<=1048576)(hT:nT<=1048576)(hK:K<=1048576)(lD:D.length=nD)(lL:L.length=nL)(lT:ts.length=nT)(g:TGood D L ts rn rd)(v:Value)(m Ks:Nat)(x:List Int)(hv:Hs w (Vv m x Ks) v)(hm0:m<=1048576)(hm:m < nL)(N:Int)(q:Nat)(hp:∀ (w:World) (u v:Value),Hs w (TR (Vv nD D K) (Mv nL L K) (QV nT ts K) (PR (Zv rn K) (Zv rd K))) u->Hs w (Vv m x Ks) v->CG 11 #[u,v] w ((TWO (QQ N q) (IS (.int .i64 0)))))(hdp:∀ (w:World) (u v:Value),Hs w (TR (Vv nD D K) (Mv nL L K) (QV nT ts K) (PR (Zv rn K) (Zv rd K))) u->Hs w (Vv m x Ks) v->CG 18 #[u,v] w ((QQ N q)))(hi:∀ (w:World) (u v:Value),Hs w (TR (Vv nD D K) (Mv nL L K) (QV nT ts K) (PR (Zv rn K) (Zv rd K))) u->Hs w (Vv m x Ks) v->CG 13 #[u,v] w ((TWO (IS (.bool true)) (IS (.int .i64 0)))))(hdi:∀ (w:World) (u v:Value),Hs w (TR (Vv nD D K) (Mv nL L K) (QV nT ts K) (PR (Zv rn K) (Zv rd K))) u->Hs w (Vv m x Ks) v->CG 19 #[u,v] w ((IS (.bool true))))(cn:Int)(qc:Nat)(hc:∀ (w:World) (u v:Value),Hs w (TR (Vv nD D K) (Mv nL L K) (QV nT ts K) (PR (Zv rn K) (Zv rd K))) u->Hs w (Vv m x Ks) v->CG 12 #[u,v] w ((TWO (QQ cn qc) (IS (.int .i64 0)))))(hdc:∀ (w:World) (u v:Value),Hs w (TR (Vv nD D K) (Mv nL L K) (QV nT ts K) (PR (Zv rn K) (Zv rd K))) u->Hs w (Vv m x Ks) v->CG 20 #[u,v] w ((QQ cn qc))):
  CG 4 #[u,v] w (IS (.bool true)):=by
 refine yak (sl:=[(0,(TR (Vv nD D K) (Mv nL L K) (QV nT ts K) (PR (Zv rn K) (Zv rd K)))),(1,(Vv m x Ks))]) Tryz.func4 rfl Tryz.ntmps4 (by simp) (yae rfl (h) (yae rfl (hv) yao)) ?_
 intro a0 S0
 refine wq [.new (.box 41 (ygc nD nL nT K D L ts rn rd)),kF] [.inl 0] [.inr 1] S0 ?_ ?_
 ·exact jj2 (bxA wA (oS 0 0) (ybe yax)) mC
 intro _ a1 _ (S1:Zt [_] [_])
 refine wq [V (ygc nD nL nT K D L ts rn rd),V (Vv m x Ks),Fw (TWO (QQ N q) (IS (.int .i64 0))) w,Fw (TWO (QQ N q) (IS (.int .i64 0))) w,Fw (QQ N q) w,V (iV 0),.new (.box 26 zR),.put (.inr 6) (.box 26 ((QQ N q) w.heap.size)),V (iV 0)] [.inr 0,.inl 6] [.inl 8,.inr 0] S1 ?_ ?_
 ·exact ⟨jj8 (loA 0 wA yal yax) (mS 0 1) (ch2 wA (qO 0 12 rfl) (qO 1 13 rfl) (ya5 (ybr _ _) (yab _)) (fun w u v h1 h2=>hp w u v h1 h2)) (mO 2 14) (e20 wA (oO 3 11)) (e21 wA (oO 3 11)) (nwA wA ya3) (puA 6 wA (oO 4 15) yaj ybk ych),mO 5 16⟩
 intro _ a2 _ (S2:Zt [_,_] [_,_])
 refine wq [V (ygc nD nL nT K D L ts rn rd),V (Vv m x Ks),Fw (TWO (QQ cn qc) (IS (.int .i64 0))) w,Fw (TWO (QQ cn qc) (IS (.int .i64 0))) w,Fw (QQ cn qc) w,V (iV 0),.new (.box 26 zR),.put (.inr 6) (.box 26 ((QQ cn qc) w.heap.size)),V (iV 0)] [.inr 0,.inr 1,.inl 6] (.inl 8 :: ur2) S2 ?_ ?_
 ·exact ⟨jj8 (loA 0 wA yal yax) (mS 1 1) (ch2 wA (qO 0 18 rfl) (qO 1 19 rfl) (ya5 (ybr _ _) (yab _)) (fun w u v h1 h2=>hc w u v h1 h2)) (mO 2 20) (e20 wA (oO 3 17)) (e21 wA (oO 3 17)) (nwA wA ya3) (puA 6 wA (oO 4 21) yaj ybk ych),mO 5 22⟩
 intro _ a3 _ (S3:Zt [_,_,_] [_,_,_])
 refine wq [V (ygc nD nL nT K D L ts rn rd),V (Vv m x Ks),Fw (TWO (IS (.bool true)) (IS (.int .i64 0))) w,Fw (TWO (IS (.bool true)) (IS (.int .i64 0))) w,kT,V (iV 0),kT,V (iV 0)] ur3 (.inl 6 :: .inl 7 :: ur3) S3 ?_ ?_
 ·repeat' refine And.intro ?_ ?_
  ·trivial
  ·exact loA 0 wA yal yax
  ·exact mS 2 1
  ·exact ch2 wA (qO 0 24 rfl) (qO 1 25 rfl) (ya5 (yab _) (yab _)) (fun w u v h1 h2=>hi w u v h1 h2)
  ·exact mO 2 26
  ·exact e20 wA (oO 3 23)
  ·exact e21 wA (oO 3 23)
  ·exact mO 4 27
  ·exact mO 5 28
 intro _ a4 _ (S4:Zt [_,_,_] [_,_,_,_,_])
 refine wp_seq ?_
 refine wq [V (ygc nD nL nT K D L ts rn rd),kT,kF] ur3 (.inl 2 :: ur5) S4 ?_ ?_
 ·exact jj3 (loA 0 wA yal yax) (ch1 wA (qO 0 29 rfl) (yab _) (fun w u h1=>ymn w u nD nL nT K D L ts rn rd h1 hD hL hT hK lD lL lT g)) (ycc wA (oO 1 30))
 intro _ a5 _ (S5:Zt [_,_,_] [_,_,_,_,_,_])
 refine wp_cond_false (S5.bool 0 31 rfl) (wp_skip (thenN (wp_seq ?_)))
 refine wq [V (ygc nD nL nT K D L ts rn rd),V (iV 0),kF] ur3 [.inl 2,.inr 1,.inr 2,.inr 3,.inr 4,.inr 5] S5 ?_ ?_
 ·exact jj3 (loA 0 wA yal yax) (ch1 wA (qO 0 64 rfl) (yab _) (fun w u h1=>yjv w u nD nL nT K D L ts rn rd h1 hD hL hT hK lD lL lT g)) (yaz wA (oO 1 65) (yaa _) (h:=rfl))
 intro _ a6 _ (S6:Zt [_,_,_] [_,_,_,_,_,_])
 refine wp_cond_false (S6.bool 0 66 rfl) (wp_skip (thenN (wp_seq ?_)))
 refine wq [V (ygc nD nL nT K D L ts rn rd),V (Vv m x Ks),kT,kF] ur3 [.inl 3,.inr 1,.inr 2,.inr 3,.inr 4,.inr 5] S6 ?_ ?_
 ·exact jj4 (loA 0 wA yal yax) (mS 5 1) (ch3 wA (qO 0 67 rfl) (qO 1 68 rfl) (yaa _) (yab _) (fun w u v t h1 h2 h3=>by obtain rfl:t=_:=h3.now; exact yx3 w u nD nL nT K D L ts rn rd h1 hD hL hT hK lD lL lT v m Ks x h2 hm0 (by omega))) (ycc wA (oO 2 69))
 intro _ a7 _ (S7:Zt [_,_,_] [_,_,_,_,_,_])
 refine wp_cond_false (S7.bool 0 70 rfl) (wp_skip (thenN (wp_seq ?_)))
 refine wq [V (iV 0),kF,kF,V (iV 0),kF,kF,kF,Fw (QQ N q) w,V (ygc nD nL nT K D L ts rn rd),V (Vv m x Ks),Fw (QQ N q) w,kT,kF,kF,kF,kT,V (ygc nD nL nT K D L ts rn rd),V (Vv m x Ks),kT,kF,kF] [.inr 0,.inr 2] [.inl 20,.inr 3,.inr 5] S7 ?_ ?_
 ·exact ⟨⟨⟨⟨⟨⟨⟨⟨⟨⟨⟨⟨⟨jj8 (mS 4 6) (yaz wA (oO 0 98) (yaa _) (h:=rfl)) (mO 1 99) (mW (wI 2 100) (oS 2 10)) (yaz (wI 2 100) (oO 3 101) (yaa _) (h:=rfl)) (pF wA (oO 2 100) (oO 4 102)) (mO 5 103) (loA 1 (wI 6 104) yaj ych),loA 0 (wI 6 104) yal yax⟩,mW (wI 6 104) (oS 5 1)⟩,ch2 (wI 6 104) (qO 8 106 rfl) (qO 9 107 rfl) (ybr _ _) (fun w u v h1 h2=>hdp w u v h1 h2)⟩,ch2 (wI 6 104) ((qO 7 105 rfl).imp (fun v w h=>yf1 v w h)) ((qO 10 108 rfl).imp (fun v w h=>yf1 v w h)) (yab _) (fun w u v h h'=>same11 w u v _ _ _ _ h h')⟩,ycc (wI 6 104) (oO 11 109)⟩,pF wA (oO 6 104) (oO 12 110)⟩,mO 13 111⟩,mW (wI 14 112) (oS 1 9)⟩,loA 0 (wI 14 112) yal yax⟩,mW (wI 14 112) (oS 5 1)⟩,ch2 (wI 14 112) (qO 16 114 rfl) (qO 17 115 rfl) (yab _) (fun w u v h1 h2=>hdi w u v h1 h2)⟩,ybt rfl (wI 14 112) rfl (oO 15 113) (oO 18 116) rfl (fun ρ w h1 h2=>by exact yef ρ _ _ _ w true true h1 h2)⟩,pF wA (oO 14 112) (oO 19 117)⟩
 intro _ a8 _ (S8:Zt [_,_] [_,_,_])
 refine wp_cond_false (S8.bool 0 118 rfl) (wp_skip (thenN (wp_seq ?_)))
 refine wq [V (ygc nD nL nT K D L ts rn rd),V (Vv m x Ks),kT,kF] ur2 [.inl 3,.inr 1,.inr 2] S8 ?_ ?_
 ·exact jj4 (loA 0 wA yal yax) (mS 2 1) (ch3 wA (qO 0 119 rfl) (qO 1 120 rfl) (yaa _) (yab _) (fun w u v t h1 h2 h3=>by obtain rfl:t=_:=h3.now; exact yx4 w u nD nL nT K D L ts rn rd h1 hD hL hT hK lD lL lT v m Ks x h2 hm0 (by omega))) (ycc wA (oO 2 121))
 intro _ a9 _ (S9:Zt [_,_] [_,_,_])
 refine wp_cond_false (S9.bool 0 122 rfl) (wp_skip (thenN ?_))
 refine wq [V (iV 0),kT,kT,Fw (QQ cn qc) w,V (ygc nD nL nT K D L ts rn rd),V (Vv m x Ks),Fw (QQ cn qc) w,kT,kT,kT,kT,kT,kT] [.inr 0] [.inl 12] S9 ?_ ?_
 ·exact ⟨⟨⟨⟨⟨jj8 (mS 1 8) (yb0 wA (oO 0 133) (yaa _) (h:=rfl)) (mO 1 134) (loA 1 (wI 2 135) yaj ych) (loA 0 (wI 2 135) yal yax) (mW (wI 2 135) (oS 2 1)) (ch2 (wI 2 135) (qO 4 137 rfl) (qO 5 138 rfl) (ybr _ _) (fun w u v h1 h2=>hdc w u v h1 h2)) (ch2 (wI 2 135) ((qO 3 136 rfl).imp (fun v w h=>yf1 v w h)) ((qO 6 139 rfl).imp (fun v w h=>yf1 v w h)) (yab _) (fun w u v h h'=>same11 w u v _ _ _ _ h h')),pT wA (oO 2 135) (oO 7 140)⟩,mO 8 141⟩,yex rfl (wI 9 142) rfl  (yab _) rfl (fun args w=>by go_simp) (fun w=>yro w)⟩,pT wA (oO 9 142) (oO 10 143)⟩,mO 11 144⟩
 intro _ a10 _ (S10:Zt [_] [_])
 refine wp_ret ?_
 exact yav S10 rfl (yay S10 0 4 rfl)
abbrev yg0 (nD:Nat)(nL:Nat)(nT:Nat)(K:Nat)(D:List Int)(L:List (List Int))(ts:List (Int × Int))(rn:Int)(rd:Int):Pr:=TR (Vv nD D K) (Mv nL L K) (QV nT ts K) (PR (Zv rn K) (Zv rd K))
theorem zg0 (w:World)(u:Value)(nD nL nT K:Nat)(D:List Int)(L:List (List Int))(ts:List (Int × Int))(rn rd:Int)(h:Hs w (TR (Vv nD D K) (Mv nL L K) (QV nT ts K) (PR (Zv rn K) (Zv rd K))) u)(hD:nD<=1048576)(hL:nL<=1048576)(hT:nT<=1048576)(hK:K<=1048576)(lD:D.length=nD)(lL:L.length=nL)(lT:ts.length=nT)(g:TGood D L ts rn rd)(v:Value)(m Ks:Nat)(x:List Int)(hv:Hs w (Vv m x Ks) v)(hm0:m<=1048576)(hm:m=nL)(N:Int)(q:Nat)(hp:∀ (w:World) (u v:Value),Hs w (TR (Vv nD D K) (Mv nL L K) (QV nT ts K) (PR (Zv rn K) (Zv rd K))) u->Hs w (Vv m x Ks) v->CG 11 #[u,v] w ((TWO (QQ N q) (IS (.int .i64 0)))))(hdp:∀ (w:World) (u v:Value),Hs w (TR (Vv nD D K) (Mv nL L K) (QV nT ts K) (PR (Zv rn K) (Zv rd K))) u->Hs w (Vv m x Ks) v->CG 18 #[u,v] w ((QQ N q)))(hi:∀ (w:World) (u v:Value),Hs w (TR (Vv nD D K) (Mv nL L K) (QV nT ts K) (PR (Zv rn K) (Zv rd K))) u->Hs w (Vv m x Ks) v->CG 13 #[u,v] w ((TWO (IS (.bool false)) (IS (.int .i64 0)))))(hdi:∀ (w:World) (u v:Value),Hs w (TR (Vv nD D K) (Mv nL L K) (QV nT ts K) (PR (Zv rn K) (Zv rd K))) u->Hs w (Vv m x Ks) v->CG 19 #[u,v] w ((IS (.bool false)))):
  CG 4 #[u,v] w (IS (.bool true)):=by
 refine yak (sl:=[(0,(TR (Vv nD D K) (Mv nL L K) (QV nT ts K) (PR (Zv rn K) (Zv rd K)))),(1,(Vv m x Ks))]) Tryz.func4 rfl Tryz.ntmps4 (by simp) (yae rfl (h) (yae rfl (hv) yao)) ?_
 intro a0 S0
 refine wq [.new (.box 41 (yg0 nD nL nT K D L ts rn rd)),kF] [.inl 0] [.inr 1] S0 ?_ ?_
 ·exact jj2 (bxA wA (oS 0 0) (ybe yax)) mC
 intro _ a1 _ (S1:Zt [_] [_])
 refine wq [V (yg0 nD nL nT K D L ts rn rd),V (Vv m x Ks),Fw (TWO (QQ N q) (IS (.int .i64 0))) w,Fw (TWO (QQ N q) (IS (.int .i64 0))) w,Fw (QQ N q) w,V (iV 0),.new (.box 26 zR),.put (.inr 6) (.box 26 ((QQ N q) w.heap.size)),V (iV 0)] [.inr 0,.inl 6] [.inl 8,.inr 0] S1 ?_ ?_
 ·exact ⟨jj8 (loA 0 wA yal yax) (mS 0 1) (ch2 wA (qO 0 12 rfl) (qO 1 13 rfl) (ya5 (ybr _ _) (yab _)) (fun w u v h1 h2=>hp w u v h1 h2)) (mO 2 14) (e20 wA (oO 3 11)) (e21 wA (oO 3 11)) (nwA wA ya3) (puA 6 wA (oO 4 15) yaj ybk ych),mO 5 16⟩
 intro _ a2 _ (S2:Zt [_,_] [_,_])
 refine wq [V (yg0 nD nL nT K D L ts rn rd),V (Vv m x Ks),Fw (TWO (IS (.agg #[.bool false,.slice none 0 0,.bool false,.slice none 0 0])) (IS (.int .i64 1))) w,Fw (TWO (IS (.agg #[.bool false,.slice none 0 0,.bool false,.slice none 0 0])) (IS (.int .i64 1))) w,.val zR,V (iV 1),.new (.box 26 zR),.put (.inr 6) (.box 26 zR),V (iV 1)] [.inr 0,.inr 1,.inl 6] (.inl 8 :: ur2) S2 ?_ ?_
 ·exact ⟨jj8 (loA 0 wA yal yax) (mS 1 1) (ch2 wA (qO 0 18 rfl) (qO 1 19 rfl) (ya5 (yab _) (yab _)) (fun w u v h1 h2=>yxd w u nD nL nT K D L ts rn rd h1 hD hL hT hK lD lL lT v m Ks x h2 1 (by decide) (fun w u v h1 h2=>yui w u nD nL nT K D L ts rn rd h1 hD hL hT hK lD lL lT g v m Ks x h2 hm0 1 (by omega) (by omega)))) (mO 2 20) (e20 wA (oO 3 17)) (e21 wA (oO 3 17)) (nwA wA ya3) (puA 6 wA (oO 4 21) yaj ybk ybk),mO 5 22⟩
 intro _ a3 _ (S3:Zt [_,_,_] [_,_,_])
 refine wq [V (yg0 nD nL nT K D L ts rn rd),V (Vv m x Ks),Fw (TWO (IS (.bool false)) (IS (.int .i64 0))) w,Fw (TWO (IS (.bool false)) (IS (.int .i64 0))) w,kF,V (iV 0),kF,V (iV 0)] ur3 (.inl 6 :: .inl 7 :: ur3) S3 ?_ ?_
 ·repeat' refine And.intro ?_ ?_
  ·trivial
  ·exact loA 0 wA yal yax
  ·exact mS 2 1
  ·exact ch2 wA (qO 0 24 rfl) (qO 1 25 rfl) (ya5 (yab _) (yab _)) (fun w u v h1 h2=>hi w u v h1 h2)
  ·exact mO 2 26
  ·exact e20 wA (oO 3 23)
  ·exact e21 wA (oO 3 23)
  ·exact mO 4 27
  ·exact mO 5 28
 intro _ a4 _ (S4:Zt [_,_,_] [_,_,_,_,_])
 refine wp_seq ?_
 refine wq [V (yg0 nD nL nT K D L ts rn rd),kT,kF] ur3 (.inl 2 :: ur5) S4 ?_ ?_
 ·exact jj3 (loA 0 wA yal yax) (ch1 wA (qO 0 29 rfl) (yab _) (fun w u h1=>ymn w u nD nL nT K D L ts rn rd h1 hD hL hT hK lD lL lT g)) (ycc wA (oO 1 30))
 intro _ a5 _ (S5:Zt [_,_,_] [_,_,_,_,_,_])
 refine wp_cond_false (S5.bool 0 31 rfl) (wp_skip (thenN (wp_seq ?_)))
 refine wq [V (yg0 nD nL nT K D L ts rn rd),V (iV 0),kF] ur3 [.inl 2,.inr 1,.inr 2,.inr 3,.inr 4,.inr 5] S5 ?_ ?_
 ·exact jj3 (loA 0 wA yal yax) (ch1 wA (qO 0 64 rfl) (yab _) (fun w u h1=>yjv w u nD nL nT K D L ts rn rd h1 hD hL hT hK lD lL lT g)) (yaz wA (oO 1 65) (yaa _) (h:=rfl))
 intro _ a6 _ (S6:Zt [_,_,_] [_,_,_,_,_,_])
 refine wp_cond_false (S6.bool 0 66 rfl) (wp_skip (thenN (wp_seq ?_)))
 refine wq [V (yg0 nD nL nT K D L ts rn rd),V (Vv m x Ks),kT,kF] ur3 [.inl 3,.inr 1,.inr 2,.inr 3,.inr 4,.inr 5] S6 ?_ ?_
 ·exact jj4 (loA 0 wA yal yax) (mS 5 1) (ch3 wA (qO 0 67 rfl) (qO 1 68 rfl) (yaa _) (yab _) (fun w u v t h1 h2 h3=>by obtain rfl:t=_:=h3.now; exact zcv w u nD nL nT K D L ts rn rd h1 hD hL hT hK lD lL lT v m Ks x h2 hm0 (by omega))) (ycc wA (oO 2 69))
 intro _ a7 _ (S7:Zt [_,_,_] [_,_,_,_,_,_])
 refine wp_cond_false (S7.bool 0 70 rfl) (wp_skip (thenN (wp_seq ?_)))
 refine wq [V (iV 0),kF,kF,V (iV 0),kF,kF,kF,Fw (QQ N q) w,V (yg0 nD nL nT K D L ts rn rd),V (Vv m x Ks),Fw (QQ N q) w,kT,kF,kF,kF,kF,V (yg0 nD nL nT K D L ts rn rd),V (Vv m x Ks),kF,kF,kF] [.inr 0,.inr 2] [.inl 20,.inr 3,.inr 5] S7 ?_ ?_
 ·exact ⟨⟨⟨⟨⟨⟨⟨⟨⟨⟨⟨⟨⟨jj8 (mS 4 6) (yaz wA (oO 0 98) (yaa _) (h:=rfl)) (mO 1 99) (mW (wI 2 100) (oS 2 10)) (yaz (wI 2 100) (oO 3 101) (yaa _) (h:=rfl)) (pF wA (oO 2 100) (oO 4 102)) (mO 5 103) (loA 1 (wI 6 104) yaj ych),loA 0 (wI 6 104) yal yax⟩,mW (wI 6 104) (oS 5 1)⟩,ch2 (wI 6 104) (qO 8 106 rfl) (qO 9 107 rfl) (ybr _ _) (fun w u v h1 h2=>hdp w u v h1 h2)⟩,ch2 (wI 6 104) ((qO 7 105 rfl).imp (fun v w h=>yf1 v w h)) ((qO 10 108 rfl).imp (fun v w h=>yf1 v w h)) (yab _) (fun w u v h h'=>same11 w u v _ _ _ _ h h')⟩,ycc (wI 6 104) (oO 11 109)⟩,pF wA (oO 6 104) (oO 12 110)⟩,mO 13 111⟩,mW (wI 14 112) (oS 1 9)⟩,loA 0 (wI 14 112) yal yax⟩,mW (wI 14 112) (oS 5 1)⟩,ch2 (wI 14 112) (qO 16 114 rfl) (qO 17 115 rfl) (yab _) (fun w u v h1 h2=>hdi w u v h1 h2)⟩,ybt rfl (wI 14 112) rfl (oO 15 113) (oO 18 116) rfl (fun ρ w h1 h2=>by exact yef ρ _ _ _ w false false h1 h2)⟩,pF wA (oO 14 112) (oO 19 117)⟩
 intro _ a8 _ (S8:Zt [_,_] [_,_,_])
 refine wp_cond_false (S8.bool 0 118 rfl) (wp_skip (thenN (wp_seq ?_)))
 refine wq [V (yg0 nD nL nT K D L ts rn rd),V (Vv m x Ks),kF,kT] ur2 [.inl 3,.inr 1,.inr 2] S8 ?_ ?_
 ·exact jj4 (loA 0 wA yal yax) (mS 2 1) (ch3 wA (qO 0 119 rfl) (qO 1 120 rfl) (yaa _) (yab _) (fun w u v t h1 h2 h3=>by obtain rfl:t=_:=h3.now; exact zcw w u nD nL nT K D L ts rn rd h1 hD hL hT hK lD lL lT v m Ks x h2 hm0 (by omega))) (ycc wA (oO 2 121))
 intro _ a9 _ (S9:Zt [_,_] [_,_,_])
 refine wp_cond_true (S9.bool 0 122 rfl) ?_
 refine wq [V (iV 1),kT,kT,.val zR,.val zR,kT,kT,kT,kT,kT,kT] [.inr 0] [.inl 10] S9 ?_ ?_
 ·exact ⟨⟨⟨jj8 (mS 1 8) (yb0 wA (oO 0 123) (yaa _) (h:=rfl)) (mO 1 124) (loA 1 (wI 2 125) yaj ybk) (ycr rfl (wI 2 125) rfl rfl) (ch2 (wI 2 125) ((qO 3 126 rfl).imp yif) ((qO 4 127 rfl).imp yif) (yab _) (fun w u v h h'=>same11 w u v _ _ _ _ h h')) (pT wA (oO 2 125) (oO 5 128)) (mO 6 129),yex rfl (wI 7 130) rfl  (yab _) rfl (fun args w=>by go_simp) (fun w=>yro w)⟩,pT wA (oO 7 130) (oO 8 131)⟩,mO 9 132⟩
 intro _ a10 _ (S10:Zt [_] [_])
 refine wp_ret (thenR ?_)
 exact yav S10 rfl (yay S10 0 4 rfl)
abbrev ygd (nD:Nat)(nL:Nat)(nT:Nat)(K:Nat)(D:List Int)(L:List (List Int))(ts:List (Int × Int))(rn:Int)(rd:Int):Pr:=TR (Vv nD D K) (Mv nL L K) (QV nT ts K) (PR (Zv rn K) (Zv rd K))
theorem zgy (w:World)(u:Value)(nD nL nT K:Nat)(D:List Int)(L:List (List Int))(ts:List (Int × Int))(rn rd:Int)(h:Hs w (TR (Vv nD D K) (Mv nL L K) (QV nT ts K) (PR (Zv rn K) (Zv rd K))) u)(hD:nD<=1048576)(hL:nL<=1048576)(hT:nT<=1048576)(hK:K<=1048576)(lD:D.length=nD)(lL:L.length=nL)(lT:ts.length=nT)(g:TGood D L ts rn rd)(v:Value)(m Ks:Nat)(x:List Int)(hv:Hs w (Vv m x Ks) v)(hm0:m<=1048576)(hm:m < nL)(N:Int)(q:Nat)(hp:∀ (w:World) (u v:Value),Hs w (TR (Vv nD D K) (Mv nL L K) (QV nT ts K) (PR (Zv rn K) (Zv rd K))) u->Hs w (Vv m x Ks) v->CG 11 #[u,v] w ((TWO (QQ N q) (IS (.int .i64 0)))))(hdp:∀ (w:World) (u v:Value),Hs w (TR (Vv nD D K) (Mv nL L K) (QV nT ts K) (PR (Zv rn K) (Zv rd K))) u->Hs w (Vv m x Ks) v->CG 18 #[u,v] w ((QQ N q)))(hi:∀ (w:World) (u v:Value),Hs w (TR (Vv nD D K) (Mv nL L K) (QV nT ts K) (PR (Zv rn K) (Zv rd K))) u->Hs w (Vv m x Ks) v->CG 13 #[u,v] w ((TWO (IS (.bool false)) (IS (.int .i64 0)))))(hdi:∀ (w:World) (u v:Value),Hs w (TR (Vv nD D K) (Mv nL L K) (QV nT ts K) (PR (Zv rn K) (Zv rd K))) u->Hs w (Vv m x Ks) v->CG 19 #[u,v] w ((IS (.bool false))))(cn:Int)(qc:Nat)(hc:∀ (w:World) (u v:Value),Hs w (TR (Vv nD D K) (Mv nL L K) (QV nT ts K) (PR (Zv rn K) (Zv rd K))) u->Hs w (Vv m x Ks) v->CG 12 #[u,v] w ((TWO (QQ cn qc) (IS (.int .i64 0)))))(hdc:∀ (w:World) (u v:Value),Hs w (TR (Vv nD D K) (Mv nL L K) (QV nT ts K) (PR (Zv rn K) (Zv rd K))) u->Hs w (Vv m x Ks) v->CG 20 #[u,v] w ((QQ cn qc))):
  CG 4 #[u,v] w (IS (.bool true)):=by
 refine yak (sl:=[(0,(TR (Vv nD D K) (Mv nL L K) (QV nT ts K) (PR (Zv rn K) (Zv rd K)))),(1,(Vv m x Ks))]) Tryz.func4 rfl Tryz.ntmps4 (by simp) (yae rfl (h) (yae rfl (hv) yao)) ?_
 intro a0 S0
 refine wq [.new (.box 41 (ygd nD nL nT K D L ts rn rd)),kF] [.inl 0] [.inr 1] S0 ?_ ?_
 ·exact jj2 (bxA wA (oS 0 0) (ybe yax)) mC
 intro _ a1 _ (S1:Zt [_] [_])
 refine wq [V (ygd nD nL nT K D L ts rn rd),V (Vv m x Ks),Fw (TWO (QQ N q) (IS (.int .i64 0))) w,Fw (TWO (QQ N q) (IS (.int .i64 0))) w,Fw (QQ N q) w,V (iV 0),.new (.box 26 zR),.put (.inr 6) (.box 26 ((QQ N q) w.heap.size)),V (iV 0)] [.inr 0,.inl 6] [.inl 8,.inr 0] S1 ?_ ?_
 ·exact ⟨jj8 (loA 0 wA yal yax) (mS 0 1) (ch2 wA (qO 0 12 rfl) (qO 1 13 rfl) (ya5 (ybr _ _) (yab _)) (fun w u v h1 h2=>hp w u v h1 h2)) (mO 2 14) (e20 wA (oO 3 11)) (e21 wA (oO 3 11)) (nwA wA ya3) (puA 6 wA (oO 4 15) yaj ybk ych),mO 5 16⟩
 intro _ a2 _ (S2:Zt [_,_] [_,_])
 refine wq [V (ygd nD nL nT K D L ts rn rd),V (Vv m x Ks),Fw (TWO (QQ cn qc) (IS (.int .i64 0))) w,Fw (TWO (QQ cn qc) (IS (.int .i64 0))) w,Fw (QQ cn qc) w,V (iV 0),.new (.box 26 zR),.put (.inr 6) (.box 26 ((QQ cn qc) w.heap.size)),V (iV 0)] [.inr 0,.inr 1,.inl 6] (.inl 8 :: ur2) S2 ?_ ?_
 ·exact ⟨jj8 (loA 0 wA yal yax) (mS 1 1) (ch2 wA (qO 0 18 rfl) (qO 1 19 rfl) (ya5 (ybr _ _) (yab _)) (fun w u v h1 h2=>hc w u v h1 h2)) (mO 2 20) (e20 wA (oO 3 17)) (e21 wA (oO 3 17)) (nwA wA ya3) (puA 6 wA (oO 4 21) yaj ybk ych),mO 5 22⟩
 intro _ a3 _ (S3:Zt [_,_,_] [_,_,_])
 refine wq [V (ygd nD nL nT K D L ts rn rd),V (Vv m x Ks),Fw (TWO (IS (.bool false)) (IS (.int .i64 0))) w,Fw (TWO (IS (.bool false)) (IS (.int .i64 0))) w,kF,V (iV 0),kF,V (iV 0)] ur3 (.inl 6 :: .inl 7 :: ur3) S3 ?_ ?_
 ·repeat' refine And.intro ?_ ?_
  ·trivial
  ·exact loA 0 wA yal yax
  ·exact mS 2 1
  ·exact ch2 wA (qO 0 24 rfl) (qO 1 25 rfl) (ya5 (yab _) (yab _)) (fun w u v h1 h2=>hi w u v h1 h2)
  ·exact mO 2 26
  ·exact e20 wA (oO 3 23)
  ·exact e21 wA (oO 3 23)
  ·exact mO 4 27
  ·exact mO 5 28
 intro _ a4 _ (S4:Zt [_,_,_] [_,_,_,_,_])
 refine wp_seq ?_
 refine wq [V (ygd nD nL nT K D L ts rn rd),kT,kF] ur3 (.inl 2 :: ur5) S4 ?_ ?_
 ·exact jj3 (loA 0 wA yal yax) (ch1 wA (qO 0 29 rfl) (yab _) (fun w u h1=>ymn w u nD nL nT K D L ts rn rd h1 hD hL hT hK lD lL lT g)) (ycc wA (oO 1 30))
 intro _ a5 _ (S5:Zt [_,_,_] [_,_,_,_,_,_])
 refine wp_cond_false (S5.bool 0 31 rfl) (wp_skip (thenN (wp_seq ?_)))
 refine wq [V (ygd nD nL nT K D L ts rn rd),V (iV 0),kF] ur3 [.inl 2,.inr 1,.inr 2,.inr 3,.inr 4,.inr 5] S5 ?_ ?_
 ·exact jj3 (loA 0 wA yal yax) (ch1 wA (qO 0 64 rfl) (yab _) (fun w u h1=>yjv w u nD nL nT K D L ts rn rd h1 hD hL hT hK lD lL lT g)) (yaz wA (oO 1 65) (yaa _) (h:=rfl))
 intro _ a6 _ (S6:Zt [_,_,_] [_,_,_,_,_,_])
 refine wp_cond_false (S6.bool 0 66 rfl) (wp_skip (thenN (wp_seq ?_)))
 refine wq [V (ygd nD nL nT K D L ts rn rd),V (Vv m x Ks),kT,kF] ur3 [.inl 3,.inr 1,.inr 2,.inr 3,.inr 4,.inr 5] S6 ?_ ?_
 ·exact jj4 (loA 0 wA yal yax) (mS 5 1) (ch3 wA (qO 0 67 rfl) (qO 1 68 rfl) (yaa _) (yab _) (fun w u v t h1 h2 h3=>by obtain rfl:t=_:=h3.now; exact yx3 w u nD nL nT K D L ts rn rd h1 hD hL hT hK lD lL lT v m Ks x h2 hm0 (by omega))) (ycc wA (oO 2 69))
 intro _ a7 _ (S7:Zt [_,_,_] [_,_,_,_,_,_])
 refine wp_cond_false (S7.bool 0 70 rfl) (wp_skip (thenN (wp_seq ?_)))
 refine wq [V (iV 0),kF,kF,V (iV 0),kF,kF,kF,Fw (QQ N q) w,V (ygd nD nL nT K D L ts rn rd),V (Vv m x Ks),Fw (QQ N q) w,kT,kF,kF,kF,kF,V (ygd nD nL nT K D L ts rn rd),V (Vv m x Ks),kF,kF,kF] [.inr 0,.inr 2] [.inl 20,.inr 3,.inr 5] S7 ?_ ?_
 ·exact ⟨⟨⟨⟨⟨⟨⟨⟨⟨⟨⟨⟨⟨jj8 (mS 4 6) (yaz wA (oO 0 98) (yaa _) (h:=rfl)) (mO 1 99) (mW (wI 2 100) (oS 2 10)) (yaz (wI 2 100) (oO 3 101) (yaa _) (h:=rfl)) (pF wA (oO 2 100) (oO 4 102)) (mO 5 103) (loA 1 (wI 6 104) yaj ych),loA 0 (wI 6 104) yal yax⟩,mW (wI 6 104) (oS 5 1)⟩,ch2 (wI 6 104) (qO 8 106 rfl) (qO 9 107 rfl) (ybr _ _) (fun w u v h1 h2=>hdp w u v h1 h2)⟩,ch2 (wI 6 104) ((qO 7 105 rfl).imp (fun v w h=>yf1 v w h)) ((qO 10 108 rfl).imp (fun v w h=>yf1 v w h)) (yab _) (fun w u v h h'=>same11 w u v _ _ _ _ h h')⟩,ycc (wI 6 104) (oO 11 109)⟩,pF wA (oO 6 104) (oO 12 110)⟩,mO 13 111⟩,mW (wI 14 112) (oS 1 9)⟩,loA 0 (wI 14 112) yal yax⟩,mW (wI 14 112) (oS 5 1)⟩,ch2 (wI 14 112) (qO 16 114 rfl) (qO 17 115 rfl) (yab _) (fun w u v h1 h2=>hdi w u v h1 h2)⟩,ybt rfl (wI 14 112) rfl (oO 15 113) (oO 18 116) rfl (fun ρ w h1 h2=>by exact yef ρ _ _ _ w false false h1 h2)⟩,pF wA (oO 14 112) (oO 19 117)⟩
 intro _ a8 _ (S8:Zt [_,_] [_,_,_])
 refine wp_cond_false (S8.bool 0 118 rfl) (wp_skip (thenN (wp_seq ?_)))
 refine wq [V (ygd nD nL nT K D L ts rn rd),V (Vv m x Ks),kT,kF] ur2 [.inl 3,.inr 1,.inr 2] S8 ?_ ?_
 ·exact jj4 (loA 0 wA yal yax) (mS 2 1) (ch3 wA (qO 0 119 rfl) (qO 1 120 rfl) (yaa _) (yab _) (fun w u v t h1 h2 h3=>by obtain rfl:t=_:=h3.now; exact yx4 w u nD nL nT K D L ts rn rd h1 hD hL hT hK lD lL lT v m Ks x h2 hm0 (by omega))) (ycc wA (oO 2 121))
 intro _ a9 _ (S9:Zt [_,_] [_,_,_])
 refine wp_cond_false (S9.bool 0 122 rfl) (wp_skip (thenN ?_))
 refine wq [V (iV 0),kT,kT,Fw (QQ cn qc) w,V (ygd nD nL nT K D L ts rn rd),V (Vv m x Ks),Fw (QQ cn qc) w,kT,kT,kT,kT,kT,kT] [.inr 0] [.inl 12] S9 ?_ ?_
 ·exact ⟨⟨⟨⟨⟨jj8 (mS 1 8) (yb0 wA (oO 0 133) (yaa _) (h:=rfl)) (mO 1 134) (loA 1 (wI 2 135) yaj ych) (loA 0 (wI 2 135) yal yax) (mW (wI 2 135) (oS 2 1)) (ch2 (wI 2 135) (qO 4 137 rfl) (qO 5 138 rfl) (ybr _ _) (fun w u v h1 h2=>hdc w u v h1 h2)) (ch2 (wI 2 135) ((qO 3 136 rfl).imp (fun v w h=>yf1 v w h)) ((qO 6 139 rfl).imp (fun v w h=>yf1 v w h)) (yab _) (fun w u v h h'=>same11 w u v _ _ _ _ h h')),pT wA (oO 2 135) (oO 7 140)⟩,mO 8 141⟩,yex rfl (wI 9 142) rfl  (yab _) rfl (fun args w=>by go_simp) (fun w=>yro w)⟩,pT wA (oO 9 142) (oO 10 143)⟩,mO 11 144⟩
 intro _ a10 _ (S10:Zt [_] [_])
 refine wp_ret ?_
 exact yav S10 rfl (yay S10 0 4 rfl)
end Go.Proofs.YtdnindaohpdblaaGreat
