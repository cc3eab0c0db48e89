import Derived.Test.YtdnindaohpdblaaGreatTzD
set_option linter.all false
namespace Go.Proofs.YtdnindaohpdblaaGreat
open Go Go.RowKit Nt
set_option maxRecDepth 20000
set_option maxHeartbeats 16000000
abbrev TnD:List Int:=[1,1,1]
abbrev TnL:List (List Int):=[[],[0]]
theorem zgx:Dl TnD 1:=fun i z h=>by
 have hz:z=1:=by
  match i,h with
  | 0,h=>simp at h; omega
  | 1,h=>simp at h; omega
  | 2,h=>simp at h; omega
  | i+3,h=>simp at h
 rw [hz]; exact yf0
theorem ze1:Mdl TnL 1:=fun i r h=>by
 match i,h with
 | 0,h=>simp at h; subst h; exact fun j z hz=>by simp at hz
 | 1,h =>
  simp at h; subst h
  exact fun j z hz=>by
   match j,hz with
   | 0,hz=>simp at hz; subst hz; exact zhb (by rw [show (0:Int).natAbs=0 from rfl,yc8]; exact zhs _) (zha 1)
   | j+1,hz=>simp at hz
 | i+2,h=>simp at h
theorem zbo:TGood TnD TnL [] 1 1:=⟨⟨by decide,by decide,by decide,fun i hi=>by
 match i,hi with
 | 0,_=>rfl
 | 1,_=>rfl,fun i hi=>by
 match i,hi with
 | 0,_=>decide
 | 1,_=>decide⟩,by decide,Or.inl rfl,fun i hi=>by simp at hi,by decide,by decide⟩
abbrev TnT:Nat->Pr:=fun lo=>TR (VN 3 TnD lo) (MN 2 TnL lo) (Is (.slice none 0 0)) (PR (ZN 1 lo) (ZN 1 lo))
theorem yxj {pd pl pr:Nat->Pr}{pt:Pr}(f1:Fresh pd)(f2:Fresh pl)(f3:Fresh (fun _=>pt))(f4:Fresh pr):Fresh (fun lo=>TR (pd lo) (pl lo) pt (pr lo)):=
 ⟨fun lo lo' v w hl h=>yy5 (fun v w h=>f1.mono _ _ v w hl h) (fun v w h=>f2.mono _ _ v w hl h) (fun v w h=>h) (fun v w h=>f4.mono _ _ v w hl h) v w h,fun lo v w w' B hB ⟨a,b,t,p,q,p',q',e,h,h1,h2,h3,h4⟩ ev=>⟨a,b,t,p,q,p',q',e,h,f1.ev _ _ _ _ B hB h1 ev,f2.ev _ _ _ _ B hB h2 ev,f3.ev lo _ _ _ B hB h3 ev,f4.ev _ _ _ _ B hB h4 ev⟩⟩
theorem ywc:Fresh TnT:=yxj fresh_vn ywb (yab _) (yfc (yah _) (yah _))
theorem ze0 {lo:Nat}:∀ v w,TnT lo v w->TR (Vv 3 TnD 1) (Mv 2 TnL 1) (QV 0 [] 1) (PR (Zv 1 1) (Zv 1 1)) v w:=yy5 (yrr zgx) (zf6 ze1) zdu (yic (ybf yf0) (ybf yf0))
theorem yrq (w:World)(z:Int)(h1:-9223372036854775808<=z)(h2:z < 9223372036854775808):
  CG 62 #[.int .i64 z] w (ZN (z)):=by
 refine yak (sl:=[(0,(iV z))]) Tryz.func62 rfl Tryz.ntmps62 (by simp) (yae rfl (ycy _) yao) ?_
 intro a0 S0
 refine wq [.new (.box 24 zI)] [.inl 0] [.inr 0] S0 ?_ ?_
 ·exact jj1 (nwA wA yar)
 intro _ a1 _ (S1:Zt [_] [_])
 refine wq [V (iV z),Fw (ZN (z)) w,.put (.inl 2) (.box 24 ((ZN (z)) w.heap.size))] [.inr 0] [] S1 ?_ ?_
 ·exact jj3 (mS 0 0) (cc1 wA (qO 0 3 rfl) (yah _) (yz1 z h1 h2)) (seA 0 wA (oO 1 4) yad ya9 yai)
 intro _ a2 _ (S2:Zt [_] [])
 refine wp_ret ?_
 exact yav S2 rfl (ybb S2 0 2 rfl yad yai)
abbrev yp0 (w:World):Pr:=(LF 1 2 ([(VN 0 (([]:List Int))),(LF 2 1 ([(ZN (0))]))])) w.heap.size
abbrev yp1 (w:World):Pr:=(LF 2 3 ([(ZN (1)),(ZN (1)),(ZN (1))])) w.heap.size
theorem zbi (w:World):
  CG 31 #[] w TnT:=by
 refine yak (sl:=[]) Tryz.func31 rfl Tryz.ntmps31 (by simp) yao ?_
 intro a0 S0
 refine wq [.new (.box 41 (Is (.agg #[.slice none 0 0,.slice none 0 0,.slice none 0 0,.bool false,.slice none 0 0,.bool false,.slice none 0 0])))] [.inl 0] [] S0 ?_ ?_
 ·exact jj1 (nwA wA yqo)
 intro _ a1 _ (S1:Zt [_] [])
 refine wq [Fw (ZN (1)) w,Fw (ZN (1)) w,Fw (ZN (1)) w,V (yp1 w),Fw (VN 0 (([]:List Int))) w,Fw (ZN (0)) w,V (Sng 24 2 ((ZN (0)) w.heap.size) w.heap.size),V (yp0 w),V (SF [(yp1 w),(yp0 w)]),Fw (ZN (1)) w,Fw (ZN (1)) w,V (PR ((ZN (1)) w.heap.size) ((ZN (1)) w.heap.size)),V (TR (yp1 w) (yp0 w) (Is (.slice none 0 0)) (PR ((ZN (1)) w.heap.size) ((ZN (1)) w.heap.size))),.put (.inl 0) (.box 41 (TR (yp1 w) (yp0 w) (Is (.slice none 0 0)) (PR ((ZN (1)) w.heap.size) ((ZN (1)) w.heap.size))))] [.inr 0] [] S1 ?_ ?_
 ·exact ⟨⟨⟨⟨⟨⟨jj8 (cc1 wA (yaa _) (yah _) (fun w u h=>by obtain rfl:u=_:=h; exact yrq w 1 (by omega) (by omega))) (cc1 wA (yaa _) (yah _) (fun w u h=>by obtain rfl:u=_:=h; exact yrq w 1 (by omega) (by omega))) (cc1 wA (yaa _) (yah _) (fun w u h=>by obtain rfl:u=_:=h; exact yrq w 1 (by omega) (by omega))) (ywu rfl wA rfl yvw (by decide) (oO 0 1) (oO 1 2) (oO 2 3) yvn yvn yvn rfl) (yws rfl wA rfl yvu (by decide) rfl) (cc1 wA (yaa _) (yah _) (fun w u h=>by obtain rfl:u=_:=h; exact yrq w 0 (by omega) (by omega))) (yhj rfl wA rfl yn4 (oO 5 6) (yb6 (by decide) yai) rfl) (ywt rfl wA rfl yvv (by decide) (oO 4 5) ((oO 6 7).imp (zes (by decide))) yy7 yy7 rfl),ym2 rfl wA rfl (oO 3 4) (oO 7 8) (fun v w h=>by obtain ⟨p,c,e⟩:=ymv v w h; exact ⟨_,_,_,e⟩) (fun v w h=>by obtain ⟨p,c,e⟩:=ymv v w h; exact ⟨_,_,_,e⟩) rfl⟩,cc1 wA (yaa _) (yah _) (fun w u h=>by obtain rfl:u=_:=h; exact yrq w 1 (by omega) (by omega))⟩,cc1 wA (yaa _) (yah _) (fun w u h=>by obtain rfl:u=_:=h; exact yrq w 1 (by omega) (by omega))⟩,yhw rfl wA rfl (oO 9 10) (oO 10 11) yai yai rfl⟩,ym3 rfl wA rfl (oO 8 9) (oO 11 12) (ybm yai yai) rfl⟩,seA 0 wA (oO 12 13) yal zeq yax⟩
 intro _ a2 _ (S2:Zt [_] [])
 refine wp_ret ?_
 exact yav S2 rfl (ybb S2 0 0 rfl yal yax)
theorem yva {B V:Nat->Prop}{w:World}{Φ Φ':Pr}{v:Value}(h:Has B w Φ v)(hΦ:∀ w1 w2,Φ v w1->Ev V w1 w2->Φ' v w2):Has (fun k=>B k\/V k) w Φ' v:=fun w' e=>by
 have e1:Ev B w (midW B V w w'):=⟨e.os,e.tape,e.output,by rw [yfe]; exact e.size,fun k hk hB=>by
  rw [yil e.size]
  by_cases hv:V k
  ·rw [if_pos ⟨hk,hv,hB⟩]
  ·rw [if_neg (fun h=>hv h.2.1)]
   exact e.block k hk (fun h=>h.elim hB hv)⟩
 have e2:Ev V (midW B V w w') w':=⟨rfl,rfl,rfl,by rw [yfe]; exact zha _,fun k hk hv=>by
  rw [yil e.size,if_neg (fun h=>hv h.2.1)]⟩
 exact hΦ _ _ (h _ e1) e2
theorem yrp {V:Nat->Prop}{w:World}{pd pl pt pr:Pr}{u:Value}(h:Has V w (TR pd pl pt pr) u):Has V w (TR (Hx V pd) (Hx V pl) (Hx V pt) (Hx V pr)) u:=fun w1 e1=>by
 obtain ⟨x,y,t,a,b,c,d,rfl,ho,_,_,_,_⟩:=h w1 e1
 have k:∀ w2,Ev V w1 w2->pd x w2/\pl y w2/\pt t w2/\pr (.agg #[a,b,c,d]) w2:=fun w2 e2=>by
  obtain ⟨x',y',t',a',b',c',d',e,_,h1,h2,h3,h4⟩:=h w2 (e1.back (fun _ _ h=>h) e2)
  cases e
  exact ⟨h1,h2,h3,h4⟩
 exact ⟨x,y,t,a,b,c,d,rfl,ho,fun w2 e2=>(k w2 e2).1,fun w2 e2=>(k w2 e2).2.1,fun w2 e2=>(k w2 e2).2.2.1,fun w2 e2=>(k w2 e2).2.2.2⟩
theorem zg3 {V:Nat->Prop}{pd pl pt pr:Pr}{u:Value}(w1 w2:World)(h:TR (Hx V pd) (Hx V pl) (Hx V pt) (Hx V pr) u w1)(e:Ev V w1 w2):TR pd pl pt pr u w2:=by
 obtain ⟨x,y,t,a,b,c,d,rfl,ho,h1,h2,h3,h4⟩:=h
 exact ⟨x,y,t,a,b,c,d,rfl,ho,h1 w2 e,h2 w2 e,h3 w2 e,h4 w2 e⟩
theorem zgp {V:Nat->Prop}{p q:Pr}{u:Value}(w1 w2:World)(h:SF [Hx V p,Hx V q] u w1)(e:Ev V w1 w2):SF [p,q] u w2:=by
 obtain ⟨cs,rfl,h1,h2,h3⟩:=h
 refine ⟨cs,rfl,h1,h2,fun f r hr=>?_⟩
 match f,hr with
 | 0,hr =>
  simp at hr
  subst hr
  obtain ⟨x,hx,k⟩:=h3 0 _ rfl
  exact ⟨x,hx,k w2 e⟩
 | 1,hr =>
  simp at hr
  subst hr
  obtain ⟨x,hx,k⟩:=h3 1 _ rfl
  exact ⟨x,hx,k w2 e⟩
theorem liftG2 {f:FuncId}{φ ψ χ Φ Ψ:Pr}{V:Nat->Prop}{lo:Nat}(C:∀ (B:Nat->Prop) (w:World) (u v:Value),lo<=w.heap.size->(∀ k,B k->k < w.heap.size)->Has B w φ u->Has B w ψ v->Calls Tryz.prog f #[u,v] w fun e w'=>∃ r,e=.returned r/\Below w.heap.size w w'/\Has B w' χ r)(hV:∀ k,V k->k < lo)(hΦ:∀ u w1 w2,Φ u w1->Ev V w1 w2->φ u w2)(hΨ:∀ u w1 w2,Ψ u w1->Ev V w1 w2->ψ u w2):
  ∀ (B:Nat->Prop) (w:World) (u v:Value),lo<=w.heap.size->(∀ k,B k->k < w.heap.size)->Has B w Φ u->Has B w Ψ v->Calls Tryz.prog f #[u,v] w fun e w'=>∃ r,e=.returned r/\Below w.heap.size w w'/\Has B w' (Hx V χ) r:=fun B w u v hl hB hu hv=>by
 refine (C (fun k=>B k\/V k) w u v hl (fun k h=>h.elim (hB k) (fun h=>zhe (hV k h) hl)) (yva hu (hΦ u)) (yva hv (hΨ v))).mono ?_
 rintro e w' ⟨r,e1,hb,h⟩
 exact ⟨r,e1,hb,yma h⟩
theorem yz9 {V:Nat->Prop}{φ:Pr}(u:Value)(w1 w2:World)(h:Hx V φ u w1)(e:Ev V w1 w2):φ u w2:=h w2 e
theorem up2 {f:FuncId}{φ ψ χ Φ:Pr}{B:Nat->Prop}{w:World}{u v:Value}(hu:Has B w φ u)(hv:Has B w ψ v)(hΦ:Has B w φ u->Hs w Φ u)(C:Hs w Φ u->Hs w (Hx B ψ) v->CG f #[u,v] w (fun _=>Hx B χ)):
  Calls Tryz.prog f #[u,v] w fun e w'=>∃ r,e=.returned r/\Below w.heap.size w w'/\Has B w' χ r:=by
 refine (C (hΦ hu) (yya hv)).mono ?_
 rintro e w' ⟨r,e1,hb,h⟩
 exact ⟨r,e1,hb,h⟩
theorem yuj (w:World)(u:Value)(nD nL nT K:Nat)(D:List Int)(L:List (List Int))(ts:List (Int × Int))(rn rd:Int)(h:Hs w (TR (Vv nD D K) (Mv nL L K) (QV nT ts K) (PR (Zv rn K) (Zv rd K))) u)(hD:nD<=1048576)(hL:nL<=1048576)(hT:nT<=1048576)(hK:K<=1048576)(lD:D.length=nD)(lL:L.length=nL)(lT:ts.length=nT)(tg:TGood D L ts rn rd)(v:Value)(m Ks:Nat)(x:List Int)(hv:Hs w (Vv m x Ks) v)(lf:Nat)(hm:m+lf<=nL):
  CG 35 #[u,v,.int .i64 ((lf:Nat):Int)] w (IS (.int .i64 0)):=by
 refine yak (sl:=[(0,(TR (Vv nD D K) (Mv nL L K) (QV nT ts K) (PR (Zv rn K) (Zv rd K)))),(1,(Vv m x Ks)),(2,(iV ((lf:Nat):Int)))]) Tryz.func35 rfl Tryz.ntmps35 (by simp) (yae rfl (h) (yae rfl (hv) (yae rfl (ycy _) yao))) ?_
 intro a0 S0
 refine wq [.new (.box 41 (TR (Vv nD D K) (Mv nL L K) (QV nT ts K) (PR (Zv rn K) (Zv rd K)))),V (iV 0)] [.inl 0] [.inr 1,.inr 2] S0 ?_ ?_
 ·exact jj2 (bxA wA (oS 0 0) (ybe yax)) mC
 intro _ a1 _ (S1:Zt [_] [_,_])
 refine wp_seq ?_
 refine wq [V (TR (Vv nD D K) (Mv nL L K) (QV nT ts K) (PR (Zv rn K) (Zv rd K))),V (iV 0),V (iV 0)] [.inr 0] (.inl 2 :: ur2) S1 ?_ ?_
 ·exact jj3 (loA 0 wA yal yax) (ch1 wA (qO 0 8 rfl) (yab _) (fun w u h=>yjv w u nD nL nT K D L ts rn rd h hD hL hT hK lD lL lT tg)) (mO 1 9)
 intro _ a2 _ (S2:Zt [_] [_,_,_])
 refine wp_block ?_
 refine wq [V (iV 0),kF,kF] [.inr 0] (.inl 2 :: ur3) S2 ?_ ?_
 ·exact jj3 (mS 0 7) (yaz wA (oO 0 11) (yaa _) (h:=rfl)) (mO 1 12)
 intro _ a3 _ (S3:Zt [_] [_,_,_,_])
 refine wp_cond_false (S3.bool 0 10 rfl) ?_
 refine wq [V (Vv m x Ks),V (iV (m:Nat)),V (iV ((lf:Nat):Int)),V (iV ((m+lf:Nat):Int)),V (Part a3 3 0),V (Part a3 3 1),V (Mv nL L K),V (iV (nL:Nat)),kF,kF] [.inr 0] [.inl 9] S3 ?_ ?_
 ·exact ⟨⟨jj8 (mS 2 1) (lnA wA (oO 0 15) Tryz.underlying35) (mS 3 2) (ya7 wA (oO 1 16) (oO 2 17)) (ptZ wA 0 yas) (ya6 rfl wA rfl (oO 4 19) rfl (fun ρ w b h=>yaw ρ _ _ w b 0 h)) (plA wA (oO 5 20) 0 rfl rfl ybj) (lnA wA (oO 6 21) Tryz.underlying36),ybv wA (oO 3 18) (oO 7 22)⟩,mO 8 23⟩
 intro _ a4 _ (S4:Zt [_] [_])
 refine wp_cond_false (S4.bool 0 14 rfl) (wp_skip (inBlkN (thenN ?_)))
 refine wq [V (iV 0)] [.inr 0] [.inl 0] S4 ?_ ?_
 ·exact jj1 mC
 intro _ a5 _ (S5:Zt [_] [_])
 refine wp_ret ?_
 exact yav S5 rfl (yay S5 0 6 rfl)
theorem zgl (w:World)(u:Value)(nD nL nT K:Nat)(D:List Int)(L:List (List Int))(ts:List (Int × Int))(rn rd:Int)(h:Hs w (TR (Vv nD D K) (Mv nL L K) (QV nT ts K) (PR (Zv rn K) (Zv rd K))) u)(hD:nD<=1048576)(hL:nL<=1048576)(hT:nT<=1048576)(hK:K<=1048576)(lD:D.length=nD)(lL:L.length=nL)(lT:ts.length=nT)(tg:TGood D L ts rn rd)(mo:Nat)(hm:1<=nL)(hmo:mo<=65536):
  CG 60 #[u,.slice none 0 0,.int .i64 ((mo:Nat):Int)] w (IS (.int .i64 0)):=by
 refine yak (sl:=[(0,(TR (Vv nD D K) (Mv nL L K) (QV nT ts K) (PR (Zv rn K) (Zv rd K)))),(1,(Is (.slice none 0 0))),(2,(iV ((mo:Nat):Int)))]) Tryz.func60 rfl Tryz.ntmps60 (by simp) (yae rfl (h) (yae rfl (ycy _) (yae rfl (ycy _) yao))) ?_
 intro a0 S0
 refine wq [.new (.box 41 (TR (Vv nD D K) (Mv nL L K) (QV nT ts K) (PR (Zv rn K) (Zv rd K)))),V (iV 0)] [.inl 0] [.inr 1,.inr 2] S0 ?_ ?_
 ·exact jj2 (bxA wA (oS 0 0) (ybe yax)) mC
 intro _ a1 _ (S1:Zt [_] [_,_])
 refine wq [V (TR (Vv nD D K) (Mv nL L K) (QV nT ts K) (PR (Zv rn K) (Zv rd K))),V (Is (.slice none 0 0)),V (iV 0),V (iV 0)] [.inr 0] [.inl 3,.inr 1] S1 ?_ ?_
 ·exact jj4 (loA 0 wA yal yax) (mS 0 1) (ch3 wA (qO 0 8 rfl) ((qO 1 9 rfl).imp ytm) (yaa _) (yab _) (fun w u v t h1 h2 h3=>by obtain rfl:t=_:=h3.now; exact yuj w u nD nL nT K D L ts rn rd h1 hD hL hT hK lD lL lT tg v 0 0 [] h2 1 (by omega))) (mO 2 10)
 intro _ a2 _ (S2:Zt [_] [_,_])
 refine wp_seq ?_
 refine wq [V (iV 0),kT,kT,V (iV ((mo:Nat):Int)),kF,kF,V (iV ((mo:Nat):Int)),kF,kF,kF] [.inr 0] [.inl 9,.inr 0] S2 ?_ ?_
 ·exact ⟨⟨jj8 (mS 0 7) (yb0 wA (oO 0 11) (yaa _) (h:=rfl)) (mO 1 12) (mW (wI 2 13) (oS 1 2)) (ybc (wI 2 13) (oO 3 14) (yaa _)) (mW (wI 2 13) (oO 4 15)) (mW (wI 5 16) (oS 1 2)) (ybv (wI 5 16) (oO 6 17) (yaa _)),pF (wI 2 13) (oO 5 16) (oO 7 18)⟩,pT wA (oO 2 13) (oO 8 19)⟩
 intro _ a3 _ (S3:Zt [_] [_,_])
 refine wp_cond_false (S3.bool 0 20 rfl) (wp_skip (thenN ?_))
 refine wq [V (iV 0),V (iV 0)] [.inr 0] [.inl 1] S3 ?_ ?_
 ·exact jj2 (mS 1 7) (mO 0 21)
 intro _ a4 _ (S4:Zt [_] [_])
 refine wp_ret ?_
 exact yav S4 rfl (yay S4 0 6 rfl)
theorem yu0 (U:Nat->Prop)(lo:Nat)(w:World)(u v:Value)(nD nL nT K K2:Nat)(D:List Int)(L:List (List Int))(ts:List (Int × Int))(rn rd:Int)(hU:∀ k,U k->k < w.heap.size)(hlo:lo<=w.heap.size)(h:Hs w (TR (Hx U (Vv nD D K)) (Hx U (Mv nL L K)) (Hx U (QV nT ts K)) (Hx U (PR (Zv rn K) (Zv rd K)))) u)(hD:nD<=1048577)(hL:nL<=1048576)(hT:nT<=1048576)(hK:K<=1048576)(lD:D.length=nD)(lL:L.length=nL)(lT:ts.length=nT)(ok:DenOk ts)(hS:dsum ts nT<=4194304)(hTL:nT=0\/nT=nL)(hK2:K<=K2)(hK3:K+4194304<=K2)(hK4:K2<=16777216)(m Kx:Nat)(x:List Int)(hv:Hs w (Hx U (Vv m x Kx)) v)(lx:x.length=m)(hm:m<=nL)(hnD:nD=nL+1)(hr:∀ j,j < nL->(L.getD j []).length=j)(hd0:∀ i,i < nL->D.getD (i+1) 0≠0)(hKx:Kx<=16777216)(hN:∀ k,k<=m->(digs (fS D (shL x ((cmN ts nT:Nat):Int) (tauL ts nL) nL m) L nL k).1.natAbs).length<=134217728)(hR:∀ k,k<=m->(digs (fS D (shL x ((cmN ts nT:Nat):Int) (tauL ts nL) nL m) L nL k).2.natAbs).length<=134217728):
  CG 36 #[u,v] w (fun _=>Hx U (SPk (APx nD nL nL K2 D L (tauL ts nL) ((cmN ts nT:Nat):Int)) nL D L (tauL ts nL) ((cmN ts nT:Nat):Int) x m lo m)):=by
 refine yak (sl:=[(0,(TR (Hx U (Vv nD D K)) (Hx U (Mv nL L K)) (Hx U (QV nT ts K)) (Hx U (PR (Zv rn K) (Zv rd K))))),(1,(Hx U (Vv m x Kx)))]) Tryz.func36 rfl Tryz.ntmps36 (by simp) (yae rfl (h) (yae rfl (hv) yao)) ?_
 intro a0 S0
 refine wq [.new (.box 41 (TR (Hx U (Vv nD D K)) (Hx U (Mv nL L K)) (Hx U (QV nT ts K)) (Hx U (PR (Zv rn K) (Zv rd K))))),.new (.box 75 (Is (.agg #[.pointer none,.slice none 0 0,.bool false,.slice none 0 0,.bool false,.slice none 0 0,.bool false,.slice none 0 0])))] [.inl 0,.inl 1] [.inr 1] S0 ?_ ?_
 ·exact jj2 (bxA wA (oS 0 0) (ybe yax)) (nwA wA yfa)
 intro _ a1 _ (S1:Zt [_,_] [_])
 refine wq [V (Part a1 2 0),V (SF [(Hx U (Vv nD D K)),(Hx U (Mv nL L K))]),V (Part a1 2 2),V (Hx U (QV nT ts K)),V (Hx U (APx nD nL nL K2 D L (tauL ts nL) ((cmN ts nT:Nat):Int))),V (Hx U (Vv m x Kx)),V (Hx U (SPk (APx nD nL nL K2 D L (tauL ts nL) ((cmN ts nT:Nat):Int)) nL D L (tauL ts nL) ((cmN ts nT:Nat):Int) x m lo m)),.put (.inl 4) (.box 75 (Hx U (SPk (APx nD nL nL K2 D L (tauL ts nL) ((cmN ts nT:Nat):Int)) nL D L (tauL ts nL) ((cmN ts nT:Nat):Int) x m lo m)))] ur2 [] S1 ?_ ?_
 ·repeat' refine And.intro ?_ ?_
  ·trivial
  ·exact ptZ wA 0 yas
  ·exact plA wA (oO 0 5) 0 rfl rfl ycb
  ·exact ptA wA 0 yap
  ·exact plA wA (oO 2 7) 0 rfl rfl yat
  ·exact yda rfl wA rfl (oO 1 6) (oO 3 8) rfl (fun args w=>by go_simp) (fun B w2 u v hl hB hu hv=>liftG2 (fun B w u v _ hB hu hv=>of_H hL hT (by omega) lT ok hS hTL hK2 hK3 B w u v hB hu hv) hU (fun u w1 w2=>zgp w1 w2) yz9 B w2 u v hl hB hu hv)
  ·exact mS 0 1
  ·exact yda rfl wA rfl (oO 4 9) (oO 5 10) rfl (fun args w=>by go_simp) (fun B w2 u v hl hB hu hv=>liftG2 (fun B w u v hl hB hu hv=>at_H hD hL (by omega) hK4 lD lL (yju (by rw [lT]; exact hTL)) lx hm rfl hnD hr hd0 hKx hN hR B w u v (zhb hlo hl) hB hu hv) hU yz9 yz9 B w2 u v hl hB hu hv)
  ·exact seA 1 wA (oO 6 11) ybd yks (yyy yby)
 intro _ a2 _ (S2:Zt [_,_] [])
 refine wp_ret ?_
 exact yav S2 rfl (ybb S2 1 4 rfl ybd (yyy yby))
theorem zdt {U:Nat->Prop}:∀ v w,Is (.slice none 0 0) v w->Hx U (Vv 0 [] 0) v w:=fun v w h w' e=>ytm v w' h
theorem zga (U:Nat->Prop)(lo:Nat)(w:World)(u:Value)(nD nL nT K K2:Nat)(D:List Int)(L:List (List Int))(ts:List (Int × Int))(rn rd:Int)(hU:∀ k,U k->k < w.heap.size)(hlo:lo<=w.heap.size)(h:Hs w (TR (Hx U (Vv nD D K)) (Hx U (Mv nL L K)) (Hx U (QV nT ts K)) (Hx U (PR (Zv rn K) (Zv rd K)))) u)(hD:nD<=1048577)(hL:nL<=1048576)(hT:nT<=1048576)(hK:K<=1048576)(lD:D.length=nD)(lL:L.length=nL)(lT:ts.length=nT)(ok:DenOk ts)(hS:dsum ts nT<=4194304)(hTL:nT=0\/nT=nL)(hK2:K<=K2)(hK3:K+4194304<=K2)(hK4:K2<=16777216)(hnD:nD=nL+1)(hr:∀ j,j < nL->(L.getD j []).length=j)(hd0:∀ i,i < nL->D.getD (i+1) 0≠0):
  CG 61 #[u] w (fun _=>(Hx U (BF 113 (SPk (APx nD nL nL K2 D L (tauL ts nL) ((cmN ts nT:Nat):Int)) nL D L (tauL ts nL) ((cmN ts nT:Nat):Int) [] 0 lo 0) (PR (Zv rn K) (Zv rd K)) (Vv 0 [] 0)))):=by
 refine yak (sl:=[(0,(TR (Hx U (Vv nD D K)) (Hx U (Mv nL L K)) (Hx U (QV nT ts K)) (Hx U (PR (Zv rn K) (Zv rd K)))))]) Tryz.func61 rfl Tryz.ntmps61 (by simp) (yae rfl (h) yao) ?_
 intro a0 S0
 refine wq [.new (.box 41 (TR (Hx U (Vv nD D K)) (Hx U (Mv nL L K)) (Hx U (QV nT ts K)) (Hx U (PR (Zv rn K) (Zv rd K))))),V (Is (.nilFunc))] [.inl 0] [] S0 ?_ ?_
 ·exact jj2 (bxA wA (oS 0 0) (ybe yax)) mC
 intro _ a1 _ (S1:Zt [_] [])
 refine wq [V (TR (Hx U (Vv nD D K)) (Hx U (Mv nL L K)) (Hx U (QV nT ts K)) (Hx U (PR (Zv rn K) (Zv rd K)))),V (Hx U (SPk (APx nD nL nL K2 D L (tauL ts nL) ((cmN ts nT:Nat):Int)) nL D L (tauL ts nL) ((cmN ts nT:Nat):Int) [] 0 lo 0)),V (Part a1 1 3),V (Hx U (PR (Zv rn K) (Zv rd K))),V (Hx U (BF 113 (SPk (APx nD nL nL K2 D L (tauL ts nL) ((cmN ts nT:Nat):Int)) nL D L (tauL ts nL) ((cmN ts nT:Nat):Int) [] 0 lo 0) (PR (Zv rn K) (Zv rd K)) (Vv 0 [] 0))),V (Hx U (BF 113 (SPk (APx nD nL nL K2 D L (tauL ts nL) ((cmN ts nT:Nat):Int)) nL D L (tauL ts nL) ((cmN ts nT:Nat):Int) [] 0 lo 0) (PR (Zv rn K) (Zv rd K)) (Vv 0 [] 0)))] [.inr 0] [.inl 5] S1 ?_ ?_
 ·exact jj6 (loA 0 wA yal yax) (yda rfl wA rfl (oO 0 3) (yaa _) rfl (fun args w=>by go_simp) (fun B w2 u v hl hB hu hv=>liftG2 (φ:=TR (Vv nD D K) (Mv nL L K) (QV nT ts K) (PR (Zv rn K) (Zv rd K))) (ψ:=(Vv 0 [] 0)) (fun B w2 u v hl hB hu hv=>up2 hu hv (fun h=>Has.mono' (yrp h) (fun k h=>h.elim)) (fun h1 h2=>yu0 B lo w2 u v nD nL nT K K2 D L ts rn rd hB (zhb hlo hl) h1 hD hL hT hK lD lL lT ok hS hTL hK2 hK3 hK4 0 0 [] h2 rfl (by omega) hnD hr hd0 (by omega) (fun k hk=>by obtain rfl:k=0:=(by omega); exact (by show (digs 0).length<=_; rw [yc8]; simp)) (fun k hk=>by obtain rfl:k=0:=(by omega); exact zhb (ytp) (by omega)))) hU (fun u w1 w2=>zg3 w1 w2) (fun u w1 w2 h _=>ytm u w2 h) B w2 u v hl hB hu hv)) (ptA wA 0 ybp) (plA wA (oO 2 5) 0 rfl rfl ycp) (ykk rfl wA rfl (oO 1 4) (yaa _) (oO 3 6) rfl (fun args w=>by go_simp) (fun B w2 u v t hl hB hu hv ht=>lift3 (fun B w u v t hB hu hv ht=>yr1 yby (ybm yan yan) (fun v w h=>by obtain ⟨p,c,e⟩:=yh7 _ _ h; exact ⟨p,_,c,e⟩) B w u v t hB hu hv ht) hU B w2 u v t hl hB hu (hv.imp (fun w h=>zdt v w h)) ht)) (mO 4 7)
 intro _ a2 _ (S2:Zt [_] [_])
 refine wp_ret ?_
 exact yav S2 rfl (yay S2 0 2 rfl)
end Go.Proofs.YtdnindaohpdblaaGreat
