import Derived.Test.YtdnindaohpdblaaGreatSetQ
set_option linter.all false
namespace Go.Proofs.YtdnindaohpdblaaGreat
open Go Go.RowKit Nt
set_option maxRecDepth 20000
set_option maxHeartbeats 16000000
theorem zec {A B:Int}(hB:B≠0):(rm A B).natAbs<=B.natAbs:=by
 unfold rm fl
 by_cases hp:0 < B
 ·rw [if_pos hp]
  have h1:=zk1 A (by omega:B≠0)
  have h2:=zkn A hp
  have h3:=zkt A B
  rw [zjb] at h3
  omega
 ·rw [if_neg hp]
  have h1:=zk1 (-A) (by omega:-B≠0)
  have h2:=zkn (-A) (by omega:0 < -B)
  have h3:=zkt (-A) (-B)
  rw [zjb,zk3] at h3
  omega
theorem zbx {t:Bool}{ys:List Nat}{B:Int}(e:sg t (val ys)=B)(hB:B≠0):val ys≠0:=fun h=>hB (by rw [← e,h]; cases t <;> rfl)
theorem yhf {A B:Int}{ka kb:Nat}(hB:B≠0)(hk:ka+1<=70368744177663)(hk':kb<=70368744177663):∀ w u v,Zv A ka u w->Zv B kb v w->CG 108 #[u,v] w (THREE (ZN (fl A B)) (ZN (rm A B)) (IS (.int .i64 0))):=by
 rintro w u v ⟨s,p,n,c,xs,rfl,h,rfl,hn⟩ ⟨t,q,m,d,ys,rfl,h',rfl,hm⟩
 refine (yxn w s t p q n c m d xs ys h h' (zbx rfl hB) (by omega) (by omega)).mono ?_
 rintro e w' ⟨bq,Lq,Dq,rq,cq,br,Lr,Dr,rr,cr,rfl,hb,S1,S2,N1,N2,_,_,f1,f2⟩
 exact ⟨_,rfl,hb,_,_,_,rfl,yrf N1.out S1.out f1.out,yrf N2.out S2.out f2.out,rfl⟩
theorem yge {A B:Int}(hB:B≠0):A=fl A B*B+rm A B/\(0 < B->0<=rm A B/\rm A B < B)/\(B < 0->B < rm A B/\rm A B<=0):=by
 unfold rm
 refine ⟨by omega,fun hp=>?_,fun hp=>?_⟩
 ·unfold fl
  rw [if_pos hp]
  have h1:=zk1 A (by omega:B≠0)
  have h2:=zkn A hp
  have h3:=zkt A B
  rw [zjb] at h3
  omega
 ·unfold fl
  rw [if_neg (by omega)]
  have h1:=zk1 (-A) (by omega:-B≠0)
  have h2:=zkn (-A) (by omega:0 < -B)
  have h3:=zkt (-A) (-B)
  rw [zjb,zk3] at h3
  omega
def nr (A B:Int):Int:=fl (2*A+B) (2*B)
theorem zaj {A B:Int}(hB:B≠0)(h:B.natAbs<=2*(rm A B).natAbs):fl A B+1=nr A B:=by
 obtain ⟨e,h1,h2⟩:=yge (A:=A) hB
 refine (yf9 (r:=2*rm A B-B) (by omega) ?_ (fun hp=>?_) (fun hp=>?_)).1.symm
 ·rw [Int.add_mul]
  have:fl A B*(2*B)=2*(fl A B*B):=by rw [← zj7,zjb (fl A B) 2,zj7]
  omega
 ·have:=h1 (by omega); omega
 ·have:=h2 (by omega); omega
theorem yti {A B:Int}(hB:B≠0)(h:2*(rm A B).natAbs < B.natAbs):fl A B=nr A B:=by
 obtain ⟨e,h1,h2⟩:=yge (A:=A) hB
 refine (yf9 (r:=2*rm A B+B) (by omega) ?_ (fun hp=>?_) (fun hp=>?_)).1.symm
 ·have:fl A B*(2*B)=2*(fl A B*B):=by rw [← zj7,zjb (fl A B) 2,zj7]
  omega
 ·have:=h1 (by omega); omega
 ·have:=h2 (by omega); omega
theorem yv1 {x y:Nat}(h:y<=x):0<=cmpN x y:=by unfold cmpN; split; omega; split <;> omega
theorem yv2 {x y:Nat}(h:x < y):cmpN x y < 0:=by unfold cmpN; rw [if_pos h]; omega
theorem zcx {A B:Int}(hB:B≠0):(fl A B).natAbs<=A.natAbs+1:=by
 obtain ⟨e,h1,h2⟩:=yge (A:=A) hB
 have key:(fl A B*B).natAbs<=A.natAbs+(rm A B).natAbs:=by omega
 have hr:(rm A B).natAbs < B.natAbs:=by
  rcases Int.lt_or_gt_of_ne hB with hp | hp
  ·have:=h2 hp; omega
  ·have:=h1 hp; omega
 rw [zh3] at key
 obtain ⟨f,hf⟩:∃ f,(fl A B).natAbs=f:=⟨_,rfl⟩
 obtain ⟨b,hb⟩:∃ b,B.natAbs=b:=⟨_,rfl⟩
 rw [hf,hb] at key
 rw [hb] at hr
 rw [hf]
 apply Classical.byContradiction
 intro hc
 obtain ⟨k,rfl⟩:∃ k,f=A.natAbs+2+k:=⟨f-(A.natAbs+2),by omega⟩
 have h3:(A.natAbs+2+k)*b=A.natAbs*b+2*b+k*b:=by rw [zhv,zhv]
 have h4:A.natAbs*1<=A.natAbs*b:=zhm _ (by omega)
 omega
theorem yka {A B:Int}{n:Nat}(hB:B≠0)(h:(digs A.natAbs).length<=n):(digs (fl A B).natAbs).length<=n+1:=by
 refine zhb (yag (zcx hB)) ?_
 by_cases hn:n=0
 ·subst hn
  have:A.natAbs=0:=(ya2 _).1 (by omega)
  rw [this]
  exact ya1 (by omega)
 ·refine yc3 h (zhb (ya1 (k:=1) (by omega)) (by omega))
theorem yxo (w:World)(s t:Bool)(p q:Option Addr)(n c m d:Nat)(xs ys:List Nat)(h:Sl w p n c xs)(h':Sl w q m d ys)(A B:Int)(eA:sg s (val xs)=A)(eB:sg t (val ys)=B)(hB:B≠0)(hc:0<=cmpN ((rm A B).natAbs+(rm A B).natAbs) (val ys))(hs:n+m+9<=35184372088831):
  Calls Tryz.prog 83 #[.agg #[.bool s,.slice p n c],.agg #[.bool t,.slice q m d]] w (Gives (TWO (ZN (fl A B+1)) (IS (.int .i64 0))) w):=by
 have dA:(digs A.natAbs).length<=n:=by rw [← eA]; exact yj0 h
 have dB:(digs B.natAbs).length<=m:=by rw [← eB]; exact yj0 h'
 have dR:(digs (rm A B).natAbs).length<=m:=zhb (yag (zec hB)) dB
 have dF:(digs (fl A B).natAbs).length<=n+1:=yka hB dA
 have d1:(digs (1:Int).natAbs).length<=1:=yo9 (by decide)
 refine yak (sl:=[(0,(Zx s p n c xs)),(1,(Zx t q m d ys))]) Tryz.func83 rfl Tryz.ntmps83 (by simp) (yae rfl (yhs h) (yae rfl (yhs h') yao)) ?_
 intro a0 S0
 refine wq [.new (.box 24 (Zx s p n c xs)),.new (.box 24 (Zx t q m d ys)),.new (.box 24 zI),V (iV 0)] [.inl 0,.inl 1,.inl 2] [.inl 3] S0 ?_ ?_
 ·exact jj4 (bxA wA (oS 0 0) (yes ye3)) (bxA wA (oS 1 1) (yes ye3)) (nwA wA yar) mC
 intro _ a1 _ (S1:Zt [_,_,_] [_])
 refine wq [V (Zx s p n c xs),V (Zx t q m d ys),Fw (THREE (ZN (fl A B)) (ZN (rm A B)) (IS (.int .i64 0))) w,Fw (THREE (ZN (fl A B)) (ZN (rm A B)) (IS (.int .i64 0))) w,Fw (ZN (fl A B)) w,Fw (ZN (rm A B)) w,V (iV 0),.new (.box 24 zI),.new (.box 24 zI),.put (.inr 7) (.box 24 ((ZN (fl A B)) w.heap.size)),.put (.inr 8) (.box 24 ((ZN (rm A B)) w.heap.size)),V (iV 0)] [.inr 0,.inr 1,.inr 2,.inl 7,.inl 8] [.inl 11,.inr 0] S1 ?_ ?_
 ·exact ⟨⟨⟨⟨jj8 (loA 0 wA yad ye3) (loA 1 wA yad ye3) (cc2 wA (qO 0 10 rfl) (qO 1 11 rfl) (ydc (yah _) (yah _) (yab _)) (fun w u v h1 h2=>yhf hB (by omega) (by omega) w u v ((ynw eA (zha _)) _ _ h1) ((ynw eB (zha _)) _ _ h2))) (mO 2 12) (e30 wA (oO 3 9)) (e31 wA (oO 3 9)) (e32 wA (oO 3 9)) (nwA wA yar),nwA wA yar⟩,puA 7 wA (oO 4 13) yad ya9 yai⟩,puA 8 wA (oO 5 14) yad ya9 yai⟩,mO 6 15⟩
 intro _ a2 _ (S2:Zt [_,_,_,_,_] [_,_])
 refine wp_seq ?_
 refine wq [V (iV 0),kF] ur5 (.inl 1 :: ur2) S2 ?_ ?_
 ·exact jj2 (mS 0 8) (yaz wA (oO 0 16) (yaa _) (h:=rfl))
 intro _ a3 _ (S3:Zt [_,_,_,_,_] [_,_,_])
 refine wp_cond_false (S3.bool 0 17 rfl) (wp_skip (thenN (wp_seq ?_)))
 refine wq [V (Part a3 7 1),Fw (NN ((rm A B).natAbs)) w,V (Part a3 7 1),Fw (NN ((rm A B).natAbs)) w,Fw (NN (((rm A B).natAbs)+((rm A B).natAbs))) w,V (Part a3 3 1),V (Nx q m d ys),V (Is (.int .i64 (cmpN (((rm A B).natAbs)+((rm A B).natAbs)) (val ys)))),kT] ur5 (.inl 8 :: ur3) S3 ?_ ?_
 ·exact ⟨jj8 (ptA wA 4 ydm) (plA wA (oO 0 20) 4 rfl rfl (ydn yqm)) (ptA wA 4 ydm) (plA wA (oO 2 22) 4 rfl rfl (ydn yqm)) (cc2 wA (qO 1 21 rfl) (qO 3 23 rfl) (yfv _) (fun w u v h1 h2=>zcy (by omega) (by omega) w u v ((yrg dR) _ _ h1) ((yrg dR) _ _ h2))) (ptA wA 1 ydm) (plA wA (oO 5 25) 1 rfl rfl (ydn yjy)) (cc2 wA (qO 4 24 rfl) (qO 6 26 rfl) (yab _) (fun w u v h1 h2=>zcz  w u v ((yrg (zha _)) _ _ h1) ((yoe (zha _)) _ _ h2))),yfo wA (oO 7 27) (yaa _) (h:=hc)⟩
 intro _ a4 _ (S4:Zt [_,_,_,_,_] [_,_,_,_])
 refine wp_cond_true (S4.bool 0 28 rfl) ?_
 refine wr [Fw (ZN (fl A B)) w,Fw (ZN (1)) w,Fw (ZN ((fl A B)+1)) w,.put (.inl 6) (.box 24 ((ZN ((fl A B)+1)) w.heap.size))] ur5 ur4 S4 ?_ ?_
 ·exact jj4 (loA 3 wA yad yai) (cc1 wA (yaa _) (yah _) (yjz 1 (by omega) (by omega))) (cc2 wA (qO 0 29 rfl) (qO 1 30 rfl) (yah _) (fun w u v h1 h2=>ykb (by omega) (by omega) w u v ((ybf dF) _ _ h1) ((ybf d1) _ _ h2))) (seA 3 wA (oO 2 31) yad yai yai)
 intro _ a5 _ (S5:Zt [_,_,_,_,_] [_,_,_,_])
 refine thenN ?_
 refine wq [Fw (ZN ((fl A B)+1)) w,.put (.inl 4) (.box 24 ((ZN ((fl A B)+1)) w.heap.size)),V (iV 0)] ur5 (.inl 2 :: ur3) S5 ?_ ?_
 ·exact jj3 (loA 3 wA yad yai) (seA 2 wA (oO 0 32) yad ya9 yai) mC
 intro _ a6 _ (S6:Zt [_,_,_,_,_] [_,_,_,_])
 refine wp_ret ?_
 exact ydi S6 rfl (ybb S6 2 4 rfl yad yai) (yay S6 0 5 rfl)
theorem yxp (w:World)(s t:Bool)(p q:Option Addr)(n c m d:Nat)(xs ys:List Nat)(h:Sl w p n c xs)(h':Sl w q m d ys)(A B:Int)(eA:sg s (val xs)=A)(eB:sg t (val ys)=B)(hB:B≠0)(hc:cmpN ((rm A B).natAbs+(rm A B).natAbs) (val ys) < 0)(hs:n+m+9<=35184372088831):
  Calls Tryz.prog 83 #[.agg #[.bool s,.slice p n c],.agg #[.bool t,.slice q m d]] w (Gives (TWO (ZN (fl A B)) (IS (.int .i64 0))) w):=by
 have dA:(digs A.natAbs).length<=n:=by rw [← eA]; exact yj0 h
 have dB:(digs B.natAbs).length<=m:=by rw [← eB]; exact yj0 h'
 have dR:(digs (rm A B).natAbs).length<=m:=zhb (yag (zec hB)) dB
 have dF:(digs (fl A B).natAbs).length<=n+1:=yka hB dA
 have d1:(digs (1:Int).natAbs).length<=1:=yo9 (by decide)
 refine yak (sl:=[(0,(Zx s p n c xs)),(1,(Zx t q m d ys))]) Tryz.func83 rfl Tryz.ntmps83 (by simp) (yae rfl (yhs h) (yae rfl (yhs h') yao)) ?_
 intro a0 S0
 refine wq [.new (.box 24 (Zx s p n c xs)),.new (.box 24 (Zx t q m d ys)),.new (.box 24 zI),V (iV 0)] [.inl 0,.inl 1,.inl 2] [.inl 3] S0 ?_ ?_
 ·exact jj4 (bxA wA (oS 0 0) (yes ye3)) (bxA wA (oS 1 1) (yes ye3)) (nwA wA yar) mC
 intro _ a1 _ (S1:Zt [_,_,_] [_])
 refine wq [V (Zx s p n c xs),V (Zx t q m d ys),Fw (THREE (ZN (fl A B)) (ZN (rm A B)) (IS (.int .i64 0))) w,Fw (THREE (ZN (fl A B)) (ZN (rm A B)) (IS (.int .i64 0))) w,Fw (ZN (fl A B)) w,Fw (ZN (rm A B)) w,V (iV 0),.new (.box 24 zI),.new (.box 24 zI),.put (.inr 7) (.box 24 ((ZN (fl A B)) w.heap.size)),.put (.inr 8) (.box 24 ((ZN (rm A B)) w.heap.size)),V (iV 0)] [.inr 0,.inr 1,.inr 2,.inl 7,.inl 8] [.inl 11,.inr 0] S1 ?_ ?_
 ·exact ⟨⟨⟨⟨jj8 (loA 0 wA yad ye3) (loA 1 wA yad ye3) (cc2 wA (qO 0 10 rfl) (qO 1 11 rfl) (ydc (yah _) (yah _) (yab _)) (fun w u v h1 h2=>yhf hB (by omega) (by omega) w u v ((ynw eA (zha _)) _ _ h1) ((ynw eB (zha _)) _ _ h2))) (mO 2 12) (e30 wA (oO 3 9)) (e31 wA (oO 3 9)) (e32 wA (oO 3 9)) (nwA wA yar),nwA wA yar⟩,puA 7 wA (oO 4 13) yad ya9 yai⟩,puA 8 wA (oO 5 14) yad ya9 yai⟩,mO 6 15⟩
 intro _ a2 _ (S2:Zt [_,_,_,_,_] [_,_])
 refine wp_seq ?_
 refine wq [V (iV 0),kF] ur5 (.inl 1 :: ur2) S2 ?_ ?_
 ·exact jj2 (mS 0 8) (yaz wA (oO 0 16) (yaa _) (h:=rfl))
 intro _ a3 _ (S3:Zt [_,_,_,_,_] [_,_,_])
 refine wp_cond_false (S3.bool 0 17 rfl) (wp_skip (thenN (wp_seq ?_)))
 refine wq [V (Part a3 7 1),Fw (NN ((rm A B).natAbs)) w,V (Part a3 7 1),Fw (NN ((rm A B).natAbs)) w,Fw (NN (((rm A B).natAbs)+((rm A B).natAbs))) w,V (Part a3 3 1),V (Nx q m d ys),V (Is (.int .i64 (cmpN (((rm A B).natAbs)+((rm A B).natAbs)) (val ys)))),kF] ur5 (.inl 8 :: ur3) S3 ?_ ?_
 ·exact ⟨jj8 (ptA wA 4 ydm) (plA wA (oO 0 20) 4 rfl rfl (ydn yqm)) (ptA wA 4 ydm) (plA wA (oO 2 22) 4 rfl rfl (ydn yqm)) (cc2 wA (qO 1 21 rfl) (qO 3 23 rfl) (yfv _) (fun w u v h1 h2=>zcy (by omega) (by omega) w u v ((yrg dR) _ _ h1) ((yrg dR) _ _ h2))) (ptA wA 1 ydm) (plA wA (oO 5 25) 1 rfl rfl (ydn yjy)) (cc2 wA (qO 4 24 rfl) (qO 6 26 rfl) (yab _) (fun w u v h1 h2=>zcz  w u v ((yrg (zha _)) _ _ h1) ((yoe (zha _)) _ _ h2))),yfn wA (oO 7 27) (yaa _) (h:=hc)⟩
 intro _ a4 _ (S4:Zt [_,_,_,_,_] [_,_,_,_])
 refine wp_cond_false (S4.bool 0 28 rfl) (wp_skip (thenN ?_))
 refine wq [Fw (ZN (fl A B)) w,.put (.inl 4) (.box 24 ((ZN (fl A B)) w.heap.size)),V (iV 0)] ur5 (.inl 2 :: ur3) S4 ?_ ?_
 ·exact jj3 (loA 3 wA yad yai) (seA 2 wA (oO 0 32) yad ya9 yai) mC
 intro _ a5 _ (S5:Zt [_,_,_,_,_] [_,_,_,_])
 refine wp_ret ?_
 exact ydi S5 rfl (ybb S5 2 4 rfl yad yai) (yay S5 0 5 rfl)
theorem yz4 {A B:Int}{ka kb:Nat}(hB:B≠0)(hk:ka+kb+9<=35184372088831):∀ w u v,Zv A ka u w->Zv B kb v w->CG 83 #[u,v] w (TWO (ZN (nr A B)) (IS (.int .i64 0))):=by
 rintro w u v ⟨s,p,n,c,xs,rfl,h,rfl,hn⟩ ⟨t,q,m,d,ys,rfl,h',rfl,hm⟩
 have ey:=sg_abs t (val ys)
 by_cases hc:val ys<=2*(rm (sg s (val xs)) (sg t (val ys))).natAbs
 ·rw [← zaj hB (by rw [ey]; exact hc)]
  exact yxo w s t p q n c m d xs ys h h' _ _ rfl rfl hB (yv1 (by omega)) (by omega)
 ·rw [← yti hB (by rw [ey]; omega)]
  exact yxp w s t p q n c m d xs ys h h' _ _ rfl rfl hB (yv2 (by omega)) (by omega)
theorem yvk (w:World)(s t:Bool)(p q:Option Addr)(n c m d:Nat)(xs ys:List Nat)(h:Sl w p n c xs)(h':Sl w q m d ys)(hy:val ys≠0)(hl:(0:Int) < (((digs (val xs % val ys)).length:Nat):Int))(hs:n+m+9<=35184372088831):
  Calls Tryz.prog 98 #[.agg #[.bool s,.slice p n c],.agg #[.bool t,.slice q m d]] w (Gives (TWO (IS (.agg #[.bool false,.slice none 0 0])) (IS (.int .i64 20))) w):=by
 refine yak (sl:=[(0,(Zx s p n c xs)),(1,(Zx t q m d ys))]) Tryz.func98 rfl Tryz.ntmps98 (by simp) (yae rfl (yhs h) (yae rfl (yhs h') yao)) ?_
 intro a0 S0
 refine wq [.new (.box 24 (Zx s p n c xs)),.new (.box 24 (Zx t q m d ys)),.new (.box 24 zI),V (iV 0)] [.inl 0,.inl 1,.inl 2] [.inl 3] S0 ?_ ?_
 ·exact jj4 (bxA wA (oS 0 0) (yes ye3)) (bxA wA (oS 1 1) (yes ye3)) (nwA wA yar) mC
 intro _ a1 _ (S1:Zt [_,_,_] [_])
 refine wq [V (Part a1 2 1),V (Nx p n c xs),V (Part a1 3 1),V (Nx q m d ys),Fw (THREE (NN (val xs / val ys)) (NN (val xs % val ys)) (IS (.int .i64 0))) w,Fw (THREE (NN (val xs / val ys)) (NN (val xs % val ys)) (IS (.int .i64 0))) w,Fw (NN (val xs / val ys)) w,Fw (NN (val xs % val ys)) w,V (iV 0),Fw (NN (val xs / val ys)) w,Fw (NN (val xs % val ys)) w,V (iV 0)] ur3 [.inl 9,.inl 10,.inl 11,.inr 0] S1 ?_ ?_
 ·exact ⟨⟨⟨⟨jj8 (ptA wA 0 ydm) (plA wA (oO 0 10) 0 rfl rfl (ydn yjy)) (ptA wA 1 ydm) (plA wA (oO 2 12) 1 rfl rfl (ydn yjy)) (cc2 wA (qO 1 11 rfl) (qO 3 13 rfl) (ydc (yfv _) (yfv _) (yab _)) (fun w u v h1 h2=>zc0 hy (by omega) w u v ((yoe (zha _)) _ _ h1) ((yoe (zha _)) _ _ h2))) (mO 4 14) (e30 wA (oO 5 9)) (e31 wA (oO 5 9)),e32 wA (oO 5 9)⟩,mO 6 15⟩,mO 7 16⟩,mO 8 17⟩
 intro _ a2 _ (S2:Zt [_,_,_] [_,_,_,_])
 refine wp_seq (wp_block ?_)
 refine wq [V (iV 0),kF,kF] ur3 (.inl 2 :: ur4) S2 ?_ ?_
 ·exact jj3 (mS 2 8) (yaz wA (oO 0 19) (yaa _) (h:=rfl)) (mO 1 20)
 intro _ a3 _ (S3:Zt [_,_,_] [_,_,_,_,_])
 refine wp_cond_false (S3.bool 0 18 rfl) ?_
 refine wq [Fw (NN (val xs % val ys)) w,V (Is (.int .i64 ((digs (val xs % val ys)).length:Nat))),kT,kT] ur3 [.inl 3,.inr 0,.inr 1,.inr 3,.inr 4] S3 ?_ ?_
 ·exact jj4 (mS 2 7) (yjc rfl wA rfl (oO 0 24) yyi Tryz.underlying22 rfl) (yd3 wA (oO 1 25) (yaa _) (h:=hl)) (mO 2 26)
 intro _ a4 _ (S4:Zt [_,_,_] [_,_,_,_,_])
 refine wp_cond_true (S4.bool 0 23 rfl) ?_
 refine wq [.val zI,.put (.inl 4) (.box 24 zI),V (iV 20)] ur3 (.inl 2 :: ur4) S4 ?_ ?_
 ·exact jj3 (yde rfl wA rfl rfl) (seA 2 wA (oO 0 27) yad ya9 ya9) mC
 intro _ a5 _ (S5:Zt [_,_,_] [_,_,_,_,_])
 refine wp_ret (inBlkR (thenR ?_))
 exact ydi S5 rfl (ybb S5 2 4 rfl yad ya9) (yay S5 0 5 rfl)
theorem yvl (w:World)(s t:Bool)(p q:Option Addr)(n c m d:Nat)(xs ys:List Nat)(h:Sl w p n c xs)(h':Sl w q m d ys)(hy:val ys≠0)(hl:(((digs (val xs % val ys)).length:Nat):Int)<=0)(hs:n+m+9<=35184372088831):
  Calls Tryz.prog 98 #[.agg #[.bool s,.slice p n c],.agg #[.bool t,.slice q m d]] w (Gives (TWO (ZN (sg (s != t) (val xs / val ys))) (IS (.int .i64 0))) w):=by
 refine yak (sl:=[(0,(Zx s p n c xs)),(1,(Zx t q m d ys))]) Tryz.func98 rfl Tryz.ntmps98 (by simp) (yae rfl (yhs h) (yae rfl (yhs h') yao)) ?_
 intro a0 S0
 refine wq [.new (.box 24 (Zx s p n c xs)),.new (.box 24 (Zx t q m d ys)),.new (.box 24 zI),V (iV 0)] [.inl 0,.inl 1,.inl 2] [.inl 3] S0 ?_ ?_
 ·exact jj4 (bxA wA (oS 0 0) (yes ye3)) (bxA wA (oS 1 1) (yes ye3)) (nwA wA yar) mC
 intro _ a1 _ (S1:Zt [_,_,_] [_])
 refine wq [V (Part a1 2 1),V (Nx p n c xs),V (Part a1 3 1),V (Nx q m d ys),Fw (THREE (NN (val xs / val ys)) (NN (val xs % val ys)) (IS (.int .i64 0))) w,Fw (THREE (NN (val xs / val ys)) (NN (val xs % val ys)) (IS (.int .i64 0))) w,Fw (NN (val xs / val ys)) w,Fw (NN (val xs % val ys)) w,V (iV 0),Fw (NN (val xs / val ys)) w,Fw (NN (val xs % val ys)) w,V (iV 0)] ur3 [.inl 9,.inl 10,.inl 11,.inr 0] S1 ?_ ?_
 ·exact ⟨⟨⟨⟨jj8 (ptA wA 0 ydm) (plA wA (oO 0 10) 0 rfl rfl (ydn yjy)) (ptA wA 1 ydm) (plA wA (oO 2 12) 1 rfl rfl (ydn yjy)) (cc2 wA (qO 1 11 rfl) (qO 3 13 rfl) (ydc (yfv _) (yfv _) (yab _)) (fun w u v h1 h2=>zc0 hy (by omega) w u v ((yoe (zha _)) _ _ h1) ((yoe (zha _)) _ _ h2))) (mO 4 14) (e30 wA (oO 5 9)) (e31 wA (oO 5 9)),e32 wA (oO 5 9)⟩,mO 6 15⟩,mO 7 16⟩,mO 8 17⟩
 intro _ a2 _ (S2:Zt [_,_,_] [_,_,_,_])
 refine wp_seq (wp_block ?_)
 refine wq [V (iV 0),kF,kF] ur3 (.inl 2 :: ur4) S2 ?_ ?_
 ·exact jj3 (mS 2 8) (yaz wA (oO 0 19) (yaa _) (h:=rfl)) (mO 1 20)
 intro _ a3 _ (S3:Zt [_,_,_] [_,_,_,_,_])
 refine wp_cond_false (S3.bool 0 18 rfl) ?_
 refine wq [Fw (NN (val xs % val ys)) w,V (Is (.int .i64 ((digs (val xs % val ys)).length:Nat))),kF,kF] ur3 [.inl 3,.inr 0,.inr 1,.inr 3,.inr 4] S3 ?_ ?_
 ·exact jj4 (mS 2 7) (yjc rfl wA rfl (oO 0 24) yyi Tryz.underlying22 rfl) (ybv wA (oO 1 25) (yaa _) (h:=hl)) (mO 2 26)
 intro _ a4 _ (S4:Zt [_,_,_] [_,_,_,_,_])
 refine wp_cond_false (S4.bool 0 23 rfl) (wp_skip (inBlkN (thenN ?_)))
 refine wq [V (Part a4 2 0),V (Is (.bool s)),V (Part a4 3 0),V (Is (.bool t)),V (Is (.bool (s != t))),Fw (NN (val xs / val ys)) w,Fw (ZN (sg (s != t) (val xs / val ys))) w,.put (.inl 4) (.box 24 ((ZN (sg (s != t) (val xs / val ys))) w.heap.size)),V (iV 0)] ur3 [.inl 8,.inr 0,.inr 1,.inr 3] S4 ?_ ?_
 ·exact ⟨jj8 (ptZ wA 0 ym8) (plA wA (oO 0 28) 0 rfl rfl (ynb yzh)) (ptZ wA 1 ym8) (plA wA (oO 2 30) 1 rfl rfl (ynb yzh)) (yqs wA (oO 1 29) (oO 3 31)) (mS 2 6) (ykl rfl wA rfl (oO 4 32) (oO 5 33) rfl (fun args w=>by go_simp) ypi) (seA 2 wA (oO 6 34) yad ya9 yai),mC⟩
 intro _ a5 _ (S5:Zt [_,_,_] [_,_,_,_])
 refine wp_ret ?_
 exact ydi S5 rfl (ybb S5 2 4 rfl yad yai) (yay S5 0 5 rfl)
theorem yul {s t:Bool}{x y:Nat}(hy:y≠0):rm (sg s x) (sg t y)=0 ↔ x % y=0:=by
 by_cases h0:x % y=0
 ·rw [(yfu s t x y hy (Or.inr h0)).2,h0]
  constructor
  ·exact fun _=>rfl
  ·intro _; cases t <;> rfl
 ·have hlt:=zic x (zhw hy)
  have:rm (sg s x) (sg t y)≠0:=by
   by_cases hst:s=t
   ·rw [(yfu s t x y hy (Or.inl hst)).2]
    intro e
    have:=sg_abs t (x % y)
    rw [e] at this
    exact h0 (by simpa using this.symm)
   ·rw [(ypd s t x y hy hst h0).2]
    intro e
    have:=sg_abs t (y-x % y)
    rw [e] at this
    simp at this
    omega
  exact ⟨fun e=>absurd e this,fun e=>absurd e h0⟩
theorem yst {A B:Int}{ka kb:Nat}(hB:B≠0)(hr:rm A B≠0)(hk:ka+kb+9<=35184372088831):∀ w u v,Zv A ka u w->Zv B kb v w->CG 98 #[u,v] w (TWO (IS (.agg #[.bool false,.slice none 0 0])) (IS (.int .i64 20))):=by
 rintro w u v ⟨s,p,n,c,xs,rfl,h,rfl,hn⟩ ⟨t,q,m,d,ys,rfl,h',rfl,hm⟩
 have hy:=zbx (t:=t) rfl hB
 have h0:val xs % val ys≠0:=fun e=>hr ((yul hy).2 e)
 have hl:(digs (val xs % val ys)).length≠0:=fun e=>h0 ((ya2 _).1 e)
 exact yvk w s t p q n c m d xs ys h h' hy (by omega) (by omega)
theorem yi2 {A B:Int}{ka kb:Nat}(hB:B≠0)(hr:rm A B=0)(hk:ka+kb+9<=35184372088831):∀ w u v,Zv A ka u w->Zv B kb v w->CG 98 #[u,v] w (TWO (ZN (fl A B)) (IS (.int .i64 0))):=by
 rintro w u v ⟨s,p,n,c,xs,rfl,h,rfl,hn⟩ ⟨t,q,m,d,ys,rfl,h',rfl,hm⟩
 have hy:=zbx (t:=t) rfl hB
 have h0:val xs % val ys=0:=(yul hy).1 hr
 rw [(yfu s t (val xs) (val ys) hy (Or.inr h0)).1]
 exact yvl w s t p q n c m d xs ys h h' hy (by rw [h0]; decide) (by omega)
end Go.Proofs.YtdnindaohpdblaaGreat
