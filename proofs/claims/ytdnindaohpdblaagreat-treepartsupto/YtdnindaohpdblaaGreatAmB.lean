import Derived.Test.YtdnindaohpdblaaGreatAmA
import Derived.Test.YtdnindaohpdblaaGreatCoB
set_option linter.all false
namespace Go.Proofs.YtdnindaohpdblaaGreat
open Go Go.RowKit Nt
set_option maxRecDepth 20000
set_option maxHeartbeats 16000000
theorem zb5 {B:Nat->Prop}{w:World}{sz:Nat}{φ:Pr}{v:Value}(hz:0 < sz)(hc:Cel sz φ)(h:Has B w (AtE sz φ) v):∃ u,Celv sz u/\Has B w φ u/\Has B w (AtE sz (PI u φ)) v:=by
 obtain ⟨b,o,u,rfl,h1,h2,h3⟩:=id h.now
 obtain ⟨x0,hx0⟩:∃ x,u.cells[0]? = some x:=⟨u.cells[0]'(by omega),zh4 _⟩
 have hn:¬ B b:=yki (h1 0 x0 hx0) (fun w' e=>by
  obtain ⟨b',o',u',e',h1',h2',h3'⟩:=h w' e
  cases e'
  obtain ⟨x',hx'⟩:∃ x,u'.cells[0]? = some x:=⟨u'.cells[0]'(by omega),zh4 _⟩
  rw [h1' 0 x' hx']; rfl)
 have key:∀ w',Ev B w w'->(∀ (j:Nat) x,u.cells[j]? = some x->w'.cell? ⟨b,o+j,none⟩=some x)/\φ u w':=fun w' e=>by
  obtain ⟨b',o',u',e',h1',h2',h3'⟩:=h w' e
  cases e'
  have:u'=u:=yhd (hc _ _ h3') (hc _ _ h3) (by
   apply Array.ext
   ·rw [h2,h2']
   ·intro i hi hi'
    have a1:=h1 i _ (zh4 hi')
    have a2:=h1' i _ (zh4 hi)
    have a3:=yg9 a1 hn e
    rw [a3] at a2
    exact (Option.some.inj a2).symm)
  rw [← this]
  exact ⟨h1',h3'⟩
 exact ⟨u,hc u w h3,fun w' e=>(key w' e).2,fun w' e=>⟨b,o,u,rfl,(key w' e).1,h2,rfl,(key w' e).2⟩⟩
theorem yxu {B:Nat->Prop}{w:World}{sz n:Nat}{φs:List Pr}{v:Value}(hz:0 < sz)(hc:∀ (k:Nat) φ,φs[k]? = some φ->Cel sz φ)(h:Has B w (Ar sz n φs) v):∃ vs:List Value,vs.length=n/\(∀ (k:Nat) u φ,vs[k]? = some u->φs[k]? = some φ->Has B w φ u)/\Has B w (Ar sz n (Pl vs φs)) v:=by
 obtain ⟨p,c,rfl,hl,hb,_⟩:=id h.now
 have key:∀ k:Nat,∃ u:Value,∀ φ,φs[k]? = some φ->Has B w φ u/\∃ b o,p=some ⟨b,o,none⟩/\Has B w (AtE sz (PI u φ)) (.pointer (some ⟨b,o+sz*k,none⟩)):=fun k=>by
  cases hk:φs[k]? with
  | none=>exact ⟨undef,fun φ hφ=>by cases hφ⟩
  | some φ =>
   obtain ⟨b,o,c',e1,_,hat⟩:=yzi h hk
   cases e1
   obtain ⟨u,_,h2,h3⟩:=zb5 hz (hc k φ hk) hat
   exact ⟨u,fun φ' hφ'=>by cases hφ'; exact ⟨h2,b,o,rfl,h3⟩⟩
 obtain ⟨f,hf⟩:=Classical.axiomOfChoice key
 have hget:∀ k u,((List.range n).map f)[k]? = some u->u=f k:=fun k u hu=>by
  rw [zhi] at hu
  obtain ⟨k',h1,rfl⟩:=zkk.1 hu
  have hlt:=(zhh.1 h1).1
  rw [List.length_range] at hlt
  rw [zh5 hlt] at h1
  cases h1
  rfl
 refine ⟨(List.range n).map f,by simp,fun k u φ hu hφ=>by rw [hget k u hu]; exact (hf k φ hφ).1,fun w' e=>⟨p,c,rfl,by simp [Pl,hl],hb,fun i ψ hψ=>?_⟩⟩
 obtain ⟨u,φ,h1,h2,rfl⟩:=zjr.1 hψ
 obtain ⟨_,b,o,e1,h3⟩:=hf i φ h2
 obtain ⟨b',o',u',e2,h4,h5,h6⟩:=h3 w' e
 cases e2
 refine ⟨b,o,u',e1,h4,h5,?_⟩
 rw [hget i u h1]
 exact h6
abbrev Zl (sh:List Int)(lo:Nat):List Pr:=(sh.map ZN).map (· lo)
theorem yql {sh:List Int}{lo k:Nat}{φ:Pr}(h:(Zl sh lo)[k]? = some φ):∃ z,sh[k]? = some z/\φ=ZN z lo:=by
 obtain ⟨ψ,h1,rfl⟩:=ybs h
 obtain ⟨z,h2,rfl⟩:=ybs h1
 exact ⟨z,h2,rfl⟩
theorem yzn {sh:List Int}{lo:Nat}{vs:List Value}:∀ (k:Nat) φ,(Pl vs (Zl sh lo))[k]? = some φ->Cel 2 φ:=fun k φ h=>by
 obtain ⟨u,φ',h1,h2,rfl⟩:=zjr.1 h
 obtain ⟨z,_,rfl⟩:=yql h2
 exact fun v w hv=>yb6 (by decide) yai v w hv.2
theorem zge {sh:List Int}{lo k Ks:Nat}{vs:List Value}(lv:vs.length=k)(ls:sh.length=k)(hd:Dl sh Ks):∀ v w,Ar 2 k (Pl vs (Zl sh lo)) v w->Vv k sh Ks v w:=yg8 (by simp [Pl,lv,ls]) (fun i φ φ' h1 h2 v w hv=>by
 obtain ⟨u,φ'',_,h4,rfl⟩:=zjr.1 h1
 obtain ⟨z,hz,rfl⟩:=yql h4
 obtain ⟨z',hz',rfl⟩:=ybs h2
 rw [hz] at hz'
 cases hz'
 exact ybf (hd i z hz) v w hv.2)
theorem yna {vr:Value}{R:Int}{lo K:Nat}(h:(digs R.natAbs).length<=K):∀ v w,PI vr (ZN R lo) v w->Zv R K v w:=fun v w hv=>ybf h v w hv.2
theorem yl6 {vr:Value}{R:Int}{lo:Nat}:Shp 2 (PI vr (ZN R lo)):=fun v w hv=>yai v w hv.2
theorem yyn {vs:List Value}{φs:List Pr}{φ:Pr}{k i:Nat}{ψ:Pr}(lv:vs.length=k)(lf:φs.length=k)(h:(Pl vs φs ++ [φ])[i]? = some ψ):(∃ u φ',vs[i]? = some u/\φs[i]? = some φ'/\i < k/\ψ=PI u φ')\/(i=k/\ψ=φ):=by
 have hl:(Pl vs φs).length=k:=by simp [Pl,lv,lf]
 rcases zi0 i k with hi | hi
 ·rw [zh1 (by omega)] at h
  obtain ⟨u,φ',h1,h2,rfl⟩:=zjr.1 h
  exact Or.inl ⟨u,φ',h1,h2,hi,rfl⟩
 ·rw [zhq (by omega),hl] at h
  obtain rfl:i=k:=by
   have:=(zhh.1 h).1
   simp at this
   omega
  simp at h
  exact Or.inr ⟨rfl,h.symm⟩
theorem yxw {sh:List Int}{lo lo' k Ks:Nat}{vs:List Value}{Z:Int}(lv:vs.length=k)(ls:sh.length=k)(hd:Dl (sh ++ [Z]) Ks):∀ v w,ArN 2 (k+1) (Pl vs (Zl sh lo) ++ [ZN Z lo']) lo' v w->Vv (k+1) (sh ++ [Z]) Ks v w:=fun v w h=>yg8 (by simp [Pl,lv,ls]) (fun i φ φ' h1 h2 v w hv=>by
 obtain ⟨z',hz',rfl⟩:=ybs h2
 rcases yyn (k:=k) lv (by simp [ls]) h1 with ⟨u,φ'',_,h4,hi,rfl⟩ | ⟨rfl,rfl⟩
 ·obtain ⟨z,hz,rfl⟩:=yql h4
  rw [zh1 (by omega),hz] at hz'
  cases hz'
  exact ybf (hd i _ (by rw [zh1 (by omega)]; exact hz)) v w hv.2
 ·rw [zhq (by omega),ls,zio] at hz'
  cases hz'
  exact ybf (hd i Z (by rw [zhq (by omega),ls,zio]; rfl)) v w hv) v w h.1
theorem yxv {sh:List Int}{lo lo' k:Nat}{vs:List Value}{Z:Int}(lv:vs.length=k)(ls:sh.length=k):∀ v w,ArN 2 (k+1) (Pl vs (Zl sh lo) ++ [ZN Z lo']) lo' v w->LF 2 (k+1) (vs.map IS ++ [ZN Z]) lo' v w:=fun v w h=>⟨yg8 (by simp [Pl,lv,ls]) (fun i φ φ' h1 h2 v w hv=>by
 obtain ⟨ψ,hψ,rfl⟩:=ybs h2
 rcases yyn (k:=k) lv (by simp [ls]) h1 with ⟨u,φ'',h3,h4,hi,rfl⟩ | ⟨rfl,rfl⟩
 ·rw [zh1 (by simp; omega)] at hψ
  obtain ⟨u',hu',rfl⟩:=ybs hψ
  rw [h3] at hu'
  cases hu'
  exact hv.1
 ·rw [zhq (by simp; omega)] at hψ
  simp [lv] at hψ
  rw [← hψ]
  exact hv) v w h.1,h.2⟩
theorem ysp {n:Nat}{vs:List Value}{Z:Int}:Fresh (LF 2 n (vs.map IS ++ [ZN Z])):=yij (by decide) (fun i ψ h=>by
 have:=zhl h
 rcases zjn.1 this with h | h
 ·obtain ⟨u,_,rfl⟩:=zko.1 h
  exact yab u
 ·simp at h
  rw [h]
  exact yah Z)
theorem yzt {sh:List Int}{Z:Int}{K:Nat}(h:Dl sh K)(hz:(digs Z.natAbs).length<=K):Dl (sh ++ [Z]) K:=fun i z hi=>by
 rcases zjn.1 (zhl hi) with h1 | h1
 ·obtain ⟨j,hj⟩:=List.mem_iff_getElem?.1 h1
  exact h j z hj
 ·simp at h1
  rw [h1]
  exact hz
abbrev yp2  : Rk:=.box 75 (Is (.agg #[.pointer none,.slice none 0 0,.bool false,.slice none 0 0,.bool false,.slice none 0 0,.bool false,.slice none 0 0]))
abbrev ygy (w:World)(nL:Nat)(L:List (List Int))(k:Nat)(sh:List Int)(Z:Int):Pr:=(ZN (fB (sh ++ [Z]) L nL (k+1))) w.heap.size
abbrev yji  : Rk:=.box 24 zI
abbrev yko (w:World)(k:Nat)(vs:List Value)(Z:Int):Pr:=(LF 2 (k+1) (vs.map IS ++ [ZN Z])) w.heap.size
theorem zcb (w:World)(pa:Value)(nD nL nT K:Nat)(D:List Int)(L:List (List Int))(τ:List Int)(dn:Int)(hD:nD<=1048577)(hL:nL<=1048576)(hT:nT<=1048576)(hK:K<=16777216)(lD:D.length=nD)(lL:L.length=nL)(lT:τ.length=nT)(u x:Value)(k lo Ks KB KN Kx:Nat)(sh:List Int)(vs:List Value)(vr:Value)(b N R X Z D0 D1 W M N1:Int)(h:Hs w (SP (AP pa nD nL nT K D L τ dn) (Ar 2 k (Pl vs (Zl sh lo))) (Zv b KB) (Zv N KN) (PI vr (ZN R lo))) u)(hx:Hs w (Zv X Kx) x)(hk:k < nL)(hnT:nT=nL)(hnD:nD=nL+1)(ls:sh.length=k)(lv:vs.length=k)(hr:∀ j,j < nL->(L.getD j []).length=j)(hd0:D1≠0)(dsh:Dl sh Ks)(hKs:Ks<=67108864)(hKB:KB<=134217728)(hKN:KN<=134217728)(hR:(digs R.natAbs).length<=134217728)(hKx:Kx<=16777216)(eZ:X*dn-τ.getD (nL-1-k) 0=Z)(eD0:D.getD (nL-1-k) 0=D0)(eD1:D.getD (nL-1-k+1) 0=D1)(eW:Z*D1+b=W)(eM:N*D0+R*(W*W)=M)(psi:Nat->Pr)(hm:(rm M D1=0/\fl M D1=N1/\psi=(SPN (IS (pa)) (LF 2 (k+1) (vs.map IS ++ [ZN Z])) (ZN (fB (sh ++ [Z]) L nL (k+1))) (ZN (N1)) (IS (vr))))\/(rm M D1≠0/\psi=(SPN (IS (pa)) (LF 2 (k+1) (vs.map IS ++ [ZN Z])) (ZN (fB (sh ++ [Z]) L nL (k+1))) (ZN (M)) (ZN (R*D1))))):
  CG 94 #[u,x] w psi:=by
 obtain ⟨_,_,_,_,_,ha,_,hbv,hNv,_⟩:=you h.now
 have hamd:=ymg ha
 have hpb:=ye7 hbv
 have hpN:=ye7 hNv
 have hpx:=ye7 hx.now
 have hp0:(digs D0.natAbs).length<=K:=by rw [← eD0]; exact yb2 hamd.1 _
 have hp1:(digs D1.natAbs).length<=K:=by rw [← eD1]; exact yb2 hamd.1 _
 have q0:(digs (X*dn).natAbs).length<=33554432:=by rw [zh3]; exact zhb (yaq hpx hamd.2.2.2) (by omega)
 have q1:(digs Z.natAbs).length<=33554433:=by rw [← eZ]; exact yec q0 (zhb (yb2 hamd.2.2.1 _) (by omega))
 have q2:(digs (Z*D1).natAbs).length<=50331649:=by rw [zh3]; exact zhb (yaq q1 hp1) (by omega)
 have q3:(digs W.natAbs).length<=134217729:=by rw [← eW]; exact yj7 (zhb q2 (by omega)) (zhb hpb hKB)
 have q4:(digs (W*W).natAbs).length<=268435458:=by rw [zh3]; exact zhb (yaq q3 q3) (by omega)
 have q5:(digs (R*(W*W)).natAbs).length<=402653186:=by rw [zh3]; exact zhb (yaq hR q4) (by omega)
 have q6:(digs (N*D0).natAbs).length<=402653186:=by rw [zh3]; exact zhb (yaq hpN hp0) (by omega)
 have q7:(digs M.natAbs).length<=402653187:=by rw [← eM]; exact yj7 q6 q5
 have q8:(digs (R*D1).natAbs).length<=150994944:=by rw [zh3]; exact zhb (yaq hR hp1) (by omega)
 have d2:Dl (sh ++ [Z]) 67108864:=yzt (fun i z hz=>zhb (dsh i z hz) hKs) (zhb q1 (by omega))
 refine yak (sl:=[(0,(SP (AP pa nD nL nT K D L τ dn) (Ar 2 k (Pl vs (Zl sh lo))) (Zv b KB) (Zv N KN) (PI vr (ZN R lo)))),(1,(Zv X Kx))]) Tryz.func94 rfl Tryz.ntmps94 (by simp) (yae rfl (h) (yae rfl (hx) yao)) ?_
 intro a0 S0
 refine wq [.new (.box 75 (SP (AP pa nD nL nT K D L τ dn) (Ar 2 k (Pl vs (Zl sh lo))) (Zv b KB) (Zv N KN) (PI vr (ZN R lo)))),.new (.box 24 (Zv X Kx)),.new (yp2)] [.inl 0,.inl 1,.inl 2] [] S0 ?_ ?_
 ·exact jj3 (bxA wA (oS 0 0) (yek yby)) (bxA wA (oS 1 1) (yes yan)) (nwA wA yfa)
 intro _ a1 _ (S1:Zt [_,_,_] [])
 refine wq [V (Part a1 2 0),V (AP pa nD nL nT K D L τ dn),V (SP (AP pa nD nL nT K D L τ dn) (Ar 2 k (Pl vs (Zl sh lo))) (Zv b KB) (Zv N KN) (PI vr (ZN R lo))),V (iV ((nL-1-k:Nat):Int)),V (AP pa nD nL nT K D L τ dn),V (iV ((nL-1-k:Nat):Int))] ur3 [.inl 4,.inl 5] S1 ?_ ?_
 ·exact jj6 (ptZ wA 0 ycv) (plA wA (oO 0 14) 0 rfl rfl (ybg ydt (k:=0) rfl (by decide) (by decide))) (loA 0 wA ybd yby) (ch1 wA ((qO 2 16 rfl).imp (yg1 (fun v w h=>h) (zge lv ls dsh) (fun v w h=>h) (fun v w h=>h) (yna hR))) (yab _) (fun w u0 h0=>(yov w pa nD nL nT K D L τ dn hD hL hT hK lD lL lT u0 _ _ _ _ _ _ _ _ _ h0 (by omega) ls ((nL-1-k:Nat):Int) (by omega)))) (mO 1 15) (mO 3 17)
 intro _ a2 _ (S2:Zt [_,_,_] [_,_])
 refine wq [V (AP pa nD nL nT K D L τ dn),V (AP pa nD nL nT K D L τ dn),V (AtE 2 (SF [(Vv nD D K),(Mv nL L K)])),V (AtE 1 (Vv nD D K)),V (Vv nD D K),V (iV ((nL-1-k:Nat):Int)),V (AtE 2 (Zv D0 K)),V (Zv D0 K),V (AP pa nD nL nT K D L τ dn),V (AP pa nD nL nT K D L τ dn),V (AtE 2 (SF [(Vv nD D K),(Mv nL L K)])),V (AtE 1 (Vv nD D K)),V (Vv nD D K),V (iV ((nL-1-k:Nat):Int)),V (iV ((nL-1-k+1:Nat):Int)),V (AtE 2 (Zv D1 K)),V (Zv D1 K),.new (yji),.new (yji),.put (.inr 17) (.box 24 (Zv D0 K)),.put (.inr 18) (.box 24 (Zv D1 K))] [.inr 0,.inr 1,.inr 2,.inl 17,.inl 18] ur2 S2 ?_ ?_
 ·exact ⟨⟨⟨⟨⟨⟨⟨⟨⟨⟨⟨⟨⟨jj8 (mS 0 5) (ycq rfl wA rfl (oO 0 18) yf2 rfl) (ybu (d:=0) rfl wA rfl ((oO 1 19).imp yf4) (fun ρ w b k h=>yed ρ _ _ w b k h) ymf rfl) (ybu (d:=0) rfl wA rfl (oO 2 20) (fun ρ w b k h=>yfi ρ _ _ w b k h) (ynm (f:=0) rfl) rfl) (alA wA ycf yez (oO 3 21)) (mS 1 6) (axA wA yb5 (oO 4 22) (oO 5 23) (by rw [← eD0]; exact yej (by omega)) rfl) (alC wA yba yan (oO 6 24)),mS 0 5⟩,ycq rfl wA rfl (oO 8 26) yf2 rfl⟩,ybu (d:=0) rfl wA rfl ((oO 9 27).imp yf4) (fun ρ w b k h=>yed ρ _ _ w b k h) ymf rfl⟩,ybu (d:=0) rfl wA rfl (oO 10 28) (fun ρ w b k h=>yfi ρ _ _ w b k h) (ynm (f:=0) rfl) rfl⟩,alA wA ycf yez (oO 11 29)⟩,mS 1 6⟩,ya7 wA (oO 13 31) (yaa _)⟩,axA wA yb5 (oO 12 30) (oO 14 32) (by rw [← eD1]; exact yej (by omega)) rfl⟩,alC wA yba yan (oO 15 33)⟩,nwA wA yar⟩,nwA wA yar⟩,puA 17 wA (oO 7 25) yad ya9 yan⟩,puA 18 wA (oO 16 34) yad ya9 yan⟩
 intro _ a3 _ (S3:Zt [_,_,_,_,_] [_,_])
 refine wq [V (AP pa nD nL nT K D L τ dn),V (Zv X Kx),V (iV ((nL-1-k:Nat):Int)),Fw (ZN (Z)) w,.new (yji),.put (.inr 4) (.box 24 ((ZN (Z)) w.heap.size))] [.inr 0,.inr 2,.inr 3,.inr 4,.inl 4] [.inr 0] S3 ?_ ?_
 ·exact jj6 (mS 0 5) (loA 1 wA yad yan) (mS 1 6) (ch3 wA (qO 0 35 rfl) (qO 1 36 rfl) (qO 2 37 rfl) (yah _) (fun w u v i h1 h2 h3=>by obtain rfl:u=pa:=h1.now.1; obtain rfl:i=_:=h3.now; exact Gives.cast (ψ:=ZN Z) (zfo w _ nD nL nT K D L τ dn hD hL hT hK lD lL lT h1 v X Kx (nL-1-k) h2 (by omega) hKx) (by rw [eZ]))) (nwA wA yar) (puA 4 wA (oO 3 38) yad ya9 yai)
 intro _ a4 _ (S4:Zt [_,_,_,_,_] [_])
 refine wq [Fw (ZN (Z)) w,V (Zv D1 K),Fw (ZN (Z*D1)) w,V (Part a4 2 2),V (Zv b KB),Fw (ZN (W)) w,.new (yji),.put (.inr 6) (.box 24 ((ZN (W)) w.heap.size))] [.inr 0,.inr 1,.inr 2,.inr 3,.inr 4,.inl 6] [.inr 0] S4 ?_ ?_
 ·repeat' refine And.intro ?_ ?_
  ·trivial
  ·exact loA 4 wA yad yai
  ·exact loA 3 wA yad yan
  ·exact cc2 wA (qO 0 39 rfl) (qO 1 40 rfl) (yah _) (fun w u v h1 h2=>ydv (by omega) w u v ((ybf q1) _ _ h1) ((fun _ _ h=>h) _ _ h2))
  ·exact ptA wA 0 ygq
  ·exact plA wA (oO 3 42) 0 rfl rfl (ybg yba (k:=2) rfl (by decide) (by decide))
  ·exact cc2 wA (qO 2 41 rfl) (qO 4 43 rfl) (yah _) (fun w u0 u1 h0 h1=>Gives.cast (ψ:=(ZN (W))) ((fun w u v h1 h2=>ykb (by omega) (by omega) w u v ((ybf q2) _ _ h1) ((fun _ _ h=>h) _ _ h2)) w u0 u1 h0 h1) (by rw [eW]))
  ·exact nwA wA yar
  ·exact puA 6 wA (oO 5 44) yad ya9 yai
 intro _ a5 _ (S5:Zt [_,_,_,_,_,_] [_])
 refine wq [V (AP pa nD nL nT K D L τ dn),V (Part a5 2 1),V (Ar 2 k (Pl vs (Zl sh lo))),V (Part a5 2 1),V (Ar 2 k (Pl vs (Zl sh lo))),V (iV (k:Nat)),V (Part a5 2 1),V (Ar 2 k (Pl vs (Zl sh lo))),V (iV (k:Nat)),V (ArC 2 k (Pl vs (Zl sh lo))),Fw (ZN (Z)) w,V (Sng 24 2 ((ZN (Z)) w.heap.size) w.heap.size),V (ArN 2 (k+1) (Pl vs (Zl sh lo) ++ [((ZN (Z)) w.heap.size)]) w.heap.size),V (Part a5 2 4),V (Zv N KN),V (Zv D0 K),Fw (ZN (N*D0)) w,V (Part a5 2 6),V (PI vr (ZN R lo)),Fw (ZN (W)) w,Fw (ZN (W)) w,Fw (ZN (W*W)) w,Fw (ZN (R*(W*W))) w,Fw (ZN (M)) w,V (Part a5 2 6),V (PI vr (ZN R lo)),V (SP (AP pa nD nL nT K D L τ dn) (ArN 2 (k+1) (Pl vs (Zl sh lo) ++ [((ZN (Z)) w.heap.size)]) w.heap.size) zI ((ZN (M)) w.heap.size) (PI vr (ZN R lo))),.new (yp2),.put (.inr 27) (.box 75 (SP (AP pa nD nL nT K D L τ dn) (ArN 2 (k+1) (Pl vs (Zl sh lo) ++ [((ZN (Z)) w.heap.size)]) w.heap.size) zI ((ZN (M)) w.heap.size) (PI vr (ZN R lo))))] [.inr 0,.inr 1,.inr 3,.inl 27] [] S5 ?_ ?_
 ·exact ⟨⟨⟨⟨⟨⟨⟨⟨⟨⟨⟨⟨⟨⟨⟨⟨⟨⟨⟨⟨⟨jj8 (mS 0 5) (ptA wA 0 yep) (plA wA (oO 1 46) 0 rfl rfl (ybg ycf (k:=1) rfl (by decide) (by decide))) (ptA wA 0 yep) (plA wA (oO 3 48) 0 rfl rfl (ybg ycf (k:=1) rfl (by decide) (by decide))) (lnA wA (oO 4 49) Tryz.underlying35) (ptA wA 0 yep) (plA wA (oO 6 51) 0 rfl rfl (ybg ycf (k:=1) rfl (by decide) (by decide))),lnA wA (oO 7 52) Tryz.underlying35⟩,ypt rfl wA rfl (oO 2 47) (oO 5 50) (oO 8 53) rfl⟩,loA 4 wA yad yai⟩,yhj rfl wA rfl yn4 (oO 10 55) (yb6 (by decide) yai) rfl⟩,yja rfl wA rfl (oO 9 54) yzn (oO 11 56) ypa Tryz.underlying35 ⟨by unfold maxLen; omega,by omega⟩ rfl⟩,ptA wA 0 yeq⟩,plA wA (oO 13 58) 0 rfl rfl (ybg yba (k:=3) rfl (by decide) (by decide))⟩,loA 2 wA yad yan⟩,cc2 wA (qO 14 59 rfl) (qO 15 60 rfl) (yah _) (fun w u v h1 h2=>ydv (by omega) w u v ((fun _ _ h=>h) _ _ h1) ((fun _ _ h=>h) _ _ h2))⟩,ptA wA 0 yd7⟩,plA wA (oO 17 62) 0 rfl rfl (ybg yba (k:=4) rfl (by decide) (by decide))⟩,loA 5 wA yad yai⟩,loA 5 wA yad yai⟩,cc2 wA (qO 19 64 rfl) (qO 20 65 rfl) (yah _) (fun w u v h1 h2=>ydv (by omega) w u v ((ybf q3) _ _ h1) ((ybf q3) _ _ h2))⟩,cc2 wA (qO 18 63 rfl) (qO 21 66 rfl) (yah _) (fun w u v h1 h2=>ydv (by omega) w u v ((yna hR) _ _ h1) ((ybf q4) _ _ h2))⟩,cc2 wA (qO 16 61 rfl) (qO 22 67 rfl) (yah _) (fun w u0 u1 h0 h1=>Gives.cast (ψ:=(ZN (M))) ((fun w u v h1 h2=>ykb (by omega) (by omega) w u v ((ybf q6) _ _ h1) ((ybf q5) _ _ h2)) w u0 u1 h0 h1) (by rw [eM]))⟩,ptA wA 0 yd7⟩,plA wA (oO 24 69) 0 rfl rfl (ybg yba (k:=4) rfl (by decide) (by decide))⟩,yli rfl wA rfl (oO 0 45) yf2 (oO 12 57) (fun v w h=>by obtain ⟨p,c,e⟩:=yh7 v w h.1; exact ⟨_,_,_,e⟩) (oO 23 68) yai (oO 25 70) yl6 rfl⟩,nwA wA yfa⟩,puA 27 wA (oO 26 71) ybd yks yby⟩
 intro _ a6 _ (S6:Zt [_,_,_,_] [])
 rcases hm with ⟨hm,eN,rfl⟩ | ⟨hm,rfl⟩
 ·skip
  have q9:(digs N1.natAbs).length<=402653188:=by rw [← eN]; exact yka hd0 q7
  refine wp_seq ?_
  refine wq [V (Part a6 11 4),Fw (ZN (M)) w,V (Zv D1 K),Fw (TWO (ZN (N1)) (IS (.int .i64 0))) w,Fw (TWO (ZN (N1)) (IS (.int .i64 0))) w,Fw (ZN (N1)) w,V (iV 0),.new (yji),.put (.inr 7) (.box 24 ((ZN (N1)) w.heap.size)),V (iV 0)] [.inr 0,.inr 1,.inr 2,.inr 3,.inl 7] [.inl 9] S6 ?_ ?_
  ·exact ⟨⟨jj8 (ptA wA 3 yeq) (plA wA (oO 0 73) 3 rfl rfl (ybg yba (k:=3) rfl (by decide) (by decide))) (loA 2 wA yad yan) (cc2 wA (qO 1 74 rfl) (qO 2 75 rfl) (ya5 (yah _) (yab _)) (fun w u v h1 h2=>Gives.cast (ψ:=(TWO (ZN (N1)) (IS (.int .i64 0)))) (yi2 hd0 hm (by omega) w u v ((ybf q7) _ _ h1) ((fun _ _ h=>h) _ _ h2)) (by rw [eN]))) (mO 3 76) (e20 wA (oO 4 72)) (e21 wA (oO 4 72)) (nwA wA yar),puA 7 wA (oO 5 77) yad ya9 yai⟩,mO 6 78⟩
  intro B7 a7 W7 (S7:Zt [_,_,_,_,_] [_])
  refine wq [V (iV 0),kT] ur5 [.inl 1] S7 ?_ ?_
  ·exact jj2 (mS 0 13) (yb0 wA (oO 0 79) (yaa _) (h:=rfl))
  intro B8 a8 W8 (S8:Zt [_,_,_,_,_] [_])
  refine wp_cond_true (S8.bool 0 80 rfl) ?_
  refine wr [Fw (ZN (N1)) w,V (Part a8 11 4),.put (.inl 11) (.box 75 (SP (AP pa nD nL nT K D L τ dn) (ArN 2 (k+1) (Pl vs (Zl sh lo) ++ [((ZN (Z)) w.heap.size)]) w.heap.size) zI ((ZN (N1)) w.heap.size) (PI vr (ZN R lo))))] [.inr 0,.inr 1,.inr 3] [] S8 ?_ ?_
  ·exact jj3 (loA 4 wA yad yai) (ptA wA 3 yeq) (yio (m:=3) rfl wA rfl (oO 1 82) (k:=3) rfl (by kernel_rfl) (oO 0 81) yh3 (yb6 (by decide) yai) (by decide) (by decide) rfl (by kernel_rfl) rfl)
  intro B9 a9 W9 (S9:Zt [_,_,_] [])
  refine thenN ?_
  refine wq [V (SP (AP pa nD nL nT K D L τ dn) (ArN 2 (k+1) (Pl vs (Zl sh lo) ++ [((ZN (Z)) w.heap.size)]) w.heap.size) zI ((ZN (N1)) w.heap.size) (PI vr (ZN R lo))),V (ygy w nL L k sh Z),V (Part a9 11 2),.put (.inl 11) (.box 75 (SP (AP pa nD nL nT K D L τ dn) (ArN 2 (k+1) (Pl vs (Zl sh lo) ++ [((ZN (Z)) w.heap.size)]) w.heap.size) (ygy w nL L k sh Z) ((ZN (N1)) w.heap.size) (PI vr (ZN R lo))))] ur3 [] S9 ?_ ?_
  ·exact jj4 (loA 2 wA ybd yby) (ch1 wA ((qO 0 88 rfl).imp (yg1 (fun v w h=>h) (yxw lv ls d2) ymd (ybf q9) (yna hR))) (yah _) (fun w u0 h0=>(yu1 w pa nD nL nT K D L τ dn hD hL hT hK lD lL lT u0 (k+1) _ _ _ _ (sh ++ [Z]) _ _ _ h0 (by omega) (by simp [ls]) (zha _) hr))) (ptA wA 2 ygq) (yio (m:=2) rfl wA rfl (oO 2 90) (k:=2) rfl (by kernel_rfl) (oO 1 89) yh3 (yb6 (by decide) yai) (by decide) (by decide) rfl (by kernel_rfl) rfl)
  intro B10 a10 W10 (S10:Zt [_,_,_] [])
  ·skip
   replace S10:Sta w 92 [(2,(.box 75 (SP (AP pa nD nL nT K D L τ dn) (Ar 2 k (Pl vs (Zl sh lo))) (Zv b KB) (Zv N KN) (PI vr (ZN R lo))))),(4,(yp2)),(11,(.box 75 (SP (Is (pa)) (yko w k vs Z) (ygy w nL L k sh Z) ((ZN (N1)) w.heap.size) (Is (vr)))))] [] B10 a10 W10:=S10.reboxS 2 rfl (yg1 yn1 (yxv lv ls) (fun v w h=>h) (fun v w h=>h) yn1)
   refine wq [V (SP (Is (pa)) (yko w k vs Z) (ygy w nL L k sh Z) ((ZN (N1)) w.heap.size) (Is (vr))),.put (.inl 4) (.box 75 (SP (Is (pa)) (yko w k vs Z) (ygy w nL L k sh Z) ((ZN (N1)) w.heap.size) (Is (vr))))] ur3 [] S10 ?_ ?_
   ·exact jj2 (loA 2 wA ybd yby) (seA 1 wA (oO 0 91) ybd yks yby)
   intro B11 a11 W11 (S11:Zt [_,_,_] [])
   refine wp_ret ?_
   exact yav S11 rfl (ybb S11 1 4 rfl ybd yby)
 ·skip
  refine wp_seq ?_
  refine wq [V (Part a6 11 4),Fw (ZN (M)) w,V (Zv D1 K),Fw (TWO (IS (.agg #[.bool false,.slice none 0 0])) (IS (.int .i64 20))) w,Fw (TWO (IS (.agg #[.bool false,.slice none 0 0])) (IS (.int .i64 20))) w,.val zI,V (iV 20),.new (yji),.put (.inr 7) (yji),V (iV 20)] [.inr 0,.inr 1,.inr 2,.inr 3,.inl 7] [.inl 9] S6 ?_ ?_
  ·exact ⟨⟨jj8 (ptA wA 3 yeq) (plA wA (oO 0 73) 3 rfl rfl (ybg yba (k:=3) rfl (by decide) (by decide))) (loA 2 wA yad yan) (cc2 wA (qO 1 74 rfl) (qO 2 75 rfl) (ya5 (yab _) (yab _)) (fun w u v h1 h2=>yst hd0 hm (by omega) w u v ((ybf q7) _ _ h1) ((fun _ _ h=>h) _ _ h2))) (mO 3 76) (e20 wA (oO 4 72)) (e21 wA (oO 4 72)) (nwA wA yar),puA 7 wA (oO 5 77) yad ya9 ya9⟩,mO 6 78⟩
  intro B7 a7 W7 (S7:Zt [_,_,_,_,_] [_])
  refine wq [V (iV 20),kF] ur5 [.inl 1] S7 ?_ ?_
  ·exact jj2 (mS 0 13) (yk0 wA (oO 0 79) (yaa _) (h:=by decide))
  intro B8 a8 W8 (S8:Zt [_,_,_,_,_] [_])
  refine wp_cond_false (S8.bool 0 80 rfl) ?_
  refine wr [V (Part a8 11 6),V (PI vr (ZN R lo)),V (Zv D1 K),Fw (ZN (R*D1)) w,V (Part a8 11 6),.put (.inl 11) (.box 75 (SP (AP pa nD nL nT K D L τ dn) (ArN 2 (k+1) (Pl vs (Zl sh lo) ++ [((ZN (Z)) w.heap.size)]) w.heap.size) zI ((ZN (M)) w.heap.size) ((ZN (R*D1)) w.heap.size)))] [.inr 0,.inr 1,.inr 3] [] S8 ?_ ?_
  ·exact jj6 (ptA wA 3 yd7) (plA wA (oO 0 83) 3 rfl rfl (ybg yba (k:=4) rfl (by decide) (by decide))) (loA 2 wA yad yan) (cc2 wA (qO 1 84 rfl) (qO 2 85 rfl) (yah _) (fun w u v h1 h2=>ydv (by omega) w u v ((yna hR) _ _ h1) ((fun _ _ h=>h) _ _ h2))) (ptA wA 3 yd7) (yio (m:=4) rfl wA rfl (oO 4 87) (k:=3) rfl (by kernel_rfl) (oO 3 86) yh3 (yb6 (by decide) yai) (by decide) (by decide) rfl (by kernel_rfl) rfl)
  intro B9 a9 W9 (S9:Zt [_,_,_] [])
  refine thenN ?_
  refine wq [V (SP (AP pa nD nL nT K D L τ dn) (ArN 2 (k+1) (Pl vs (Zl sh lo) ++ [((ZN (Z)) w.heap.size)]) w.heap.size) zI ((ZN (M)) w.heap.size) ((ZN (R*D1)) w.heap.size)),V (ygy w nL L k sh Z),V (Part a9 11 2),.put (.inl 11) (.box 75 (SP (AP pa nD nL nT K D L τ dn) (ArN 2 (k+1) (Pl vs (Zl sh lo) ++ [((ZN (Z)) w.heap.size)]) w.heap.size) (ygy w nL L k sh Z) ((ZN (M)) w.heap.size) ((ZN (R*D1)) w.heap.size)))] ur3 [] S9 ?_ ?_
  ·exact jj4 (loA 2 wA ybd yby) (ch1 wA ((qO 0 88 rfl).imp (yg1 (fun v w h=>h) (yxw lv ls d2) ymd (ybf q7) (ybf q8))) (yah _) (fun w u0 h0=>(yu1 w pa nD nL nT K D L τ dn hD hL hT hK lD lL lT u0 (k+1) _ _ _ _ (sh ++ [Z]) _ _ _ h0 (by omega) (by simp [ls]) (zha _) hr))) (ptA wA 2 ygq) (yio (m:=2) rfl wA rfl (oO 2 90) (k:=2) rfl (by kernel_rfl) (oO 1 89) yh3 (yb6 (by decide) yai) (by decide) (by decide) rfl (by kernel_rfl) rfl)
  intro B10 a10 W10 (S10:Zt [_,_,_] [])
  ·skip
   replace S10:Sta w 92 [(2,(.box 75 (SP (AP pa nD nL nT K D L τ dn) (Ar 2 k (Pl vs (Zl sh lo))) (Zv b KB) (Zv N KN) (PI vr (ZN R lo))))),(4,(yp2)),(11,(.box 75 (SP (Is (pa)) (yko w k vs Z) (ygy w nL L k sh Z) ((ZN (M)) w.heap.size) ((ZN (R*D1)) w.heap.size))))] [] B10 a10 W10:=S10.reboxS 2 rfl (yg1 yn1 (yxv lv ls) (fun v w h=>h) (fun v w h=>h) (fun v w h=>h))
   refine wq [V (SP (Is (pa)) (yko w k vs Z) (ygy w nL L k sh Z) ((ZN (M)) w.heap.size) ((ZN (R*D1)) w.heap.size)),.put (.inl 4) (.box 75 (SP (Is (pa)) (yko w k vs Z) (ygy w nL L k sh Z) ((ZN (M)) w.heap.size) ((ZN (R*D1)) w.heap.size)))] ur3 [] S10 ?_ ?_
   ·exact jj2 (loA 2 wA ybd yby) (seA 1 wA (oO 0 91) ybd yks yby)
   intro B11 a11 W11 (S11:Zt [_,_,_] [])
   refine wp_ret ?_
   exact yav S11 rfl (ybb S11 1 4 rfl ybd yby)
abbrev APx (nD nL nT K:Nat)(D:List Int)(L:List (List Int))(τ:List Int)(dn:Int):Pr:=AtE 5 (AM (Vv nD D K) (Mv nL L K) (Vv nT τ K) (Zv dn K))
theorem zeu {φa ps pb pn pr:Pr}{nD nL nT K:Nat}{D:List Int}{L:List (List Int)}{τ:List Int}{dn:Int}(hφ:∀ v w,φa v w->APx nD nL nT K D L τ dn v w){B:Nat->Prop}{w:World}{u:Value}(h:Has B w (SP φa ps pb pn pr) u):∃ pa,Has B w (SP (AP pa nD nL nT K D L τ dn) ps pb pn pr) u:=by
 obtain ⟨cs,rfl,hsz,hone,_⟩:=id h.now
 refine ⟨ofPart cs 0 1,fun w' e=>?_⟩
 obtain ⟨cs',e1,_,_,hp⟩:=h w' e
 cases e1
 refine ⟨cs,rfl,hsz,hone,fun j p hj=>?_⟩
 match j,hj with
 | 0,hj=>simp only [zil,Option.some.injEq] at hj; subst hj; exact ⟨rfl,hφ _ _ (hp 0 _ rfl)⟩
 | j+1,hj=>exact hp (j+1) p hj
theorem zdg {vs:List Value}{sh:List Int}{Z:Int}{lo lo' k:Nat}{v:Value}{w:World}(lv:vs.length=k)(ls:sh.length=k)(hlo:lo<=lo')(hv:∀ (i:Nat) u z,vs[i]? = some u->sh[i]? = some z->ZN z lo u w)(h:LF 2 (k+1) (vs.map IS ++ [ZN Z]) lo' v w):VN (k+1) (sh ++ [Z]) lo v w:=by
 obtain ⟨⟨p,c,e,l,b,a⟩,hf⟩:=h
 refine ⟨⟨p,c,e,by simp [ls],b,fun i φ hφ=>?_⟩,fun b o n c e'=>zhb hlo (hf b o n c e')⟩
 obtain ⟨ψ,hψ,rfl⟩:=ybs hφ
 obtain ⟨z,hz,rfl⟩:=ybs hψ
 rcases zi0 i k with hi | hi
 ·rw [zh1 (by omega)] at hz
  obtain ⟨u,hu⟩:∃ u,vs[i]? = some u:=⟨_,zhj (by omega)⟩
  obtain ⟨b',o',u',e1,e2,e3,e4⟩:=a i (Is u) (by rw [zhi,zh1 (by simp; omega),zhi,hu]; rfl)
  have e5:u'=u:=e4
  subst e5
  exact ⟨b',o',u',e1,e2,e3,hv i _ z hu hz⟩
 ·have hlt:=(zhh.1 hz).1
  simp [ls] at hlt
  obtain rfl:i=k:=by omega
  rw [zhq (by omega),ls,zio] at hz
  cases hz
  obtain ⟨b',o',u',e1,e2,e3,e4⟩:=a i (ZN Z lo') (by rw [zhi,zhq (by simp; omega)]; simp [lv])
  exact ⟨b',o',u',e1,e2,e3,(yah Z).mono _ _ _ _ hlo e4⟩
def nx (M D1 R:Int):Int × Int:=if rm M D1=0 then (fl M D1,R) else (M,R*D1)
theorem Has.mono' {B B':Nat->Prop}{w:World}{φ:Pr}{v:Value}(h:Has B w φ v)(hB:∀ k,B' k->B k):Has B' w φ v:=fun w' e=>h w' (e.mono hB)
theorem yr8 {φa:Pr}{nD nL nT K:Nat}{D:List Int}{L:List (List Int)}{τ:List Int}{dn:Int}(hφ:∀ v w,φa v w->APx nD nL nT K D L τ dn v w)(hD:nD<=1048577)(hL:nL<=1048576)(hT:nT<=1048576)(hK:K<=16777216)(lD:D.length=nD)(lL:L.length=nL)(lT:τ.length=nT)
  {k lo Kx Ks:Nat} {sh:List Int} {b N R X Z D0 D1 W M:Int} (hk:k < nL) (hnT:nT=nL) (hnD:nD=nL+1) (ls:sh.length=k) (hr:∀ j,j < nL->(L.getD j []).length=j) (hd0:D1≠0) (dsh:Dl sh Ks) (hKs:Ks<=67108864) (hb:(digs b.natAbs).length<=134217728) (hN:(digs N.natAbs).length<=134217728) (hR:(digs R.natAbs).length<=134217728) (hKx:Kx<=16777216)
  (eZ:X*dn-τ.getD (nL-1-k) 0=Z) (eD0:D.getD (nL-1-k) 0=D0) (eD1:D.getD (nL-1-k+1) 0=D1) (eW:Z*D1+b=W) (eM:N*D0+R*(W*W)=M)
  (B:Nat->Prop) (w:World) (u x:Value) (hlo:lo<=w.heap.size) (hB:∀ k,B k->k < w.heap.size) (h:Has B w (SP φa (VN k sh lo) (ZN b lo) (ZN N lo) (ZN R lo)) u) (hx:Has B w (Zv X Kx) x):
  Calls Tryz.prog 94 #[u,x] w fun e w'=>∃ r,e=.returned r/\Below w.heap.size w w'/\Has B w' (SP φa (VN (k+1) (sh ++ [Z]) lo) (ZN (fB (sh ++ [Z]) L nL (k+1)) lo) (ZN (nx M D1 R).1 lo) (ZN (nx M D1 R).2 lo)) r:=by
 obtain ⟨cs,rfl,hsz,hone,_⟩:=id h.now
 have part:∀ (j:Nat) p,([(0,1,φa),(1,1,VN k sh lo),(2,2,ZN b lo),(4,2,ZN N lo),(6,2,ZN R lo)]:List (Nat × Nat × Pr))[j]? = some p->Has B w p.2.2 (ofPart cs p.1 p.2.1):=fun j p hj w' e=>by
  obtain ⟨cs',e1,_,_,hp'⟩:=h w' e
  cases e1
  exact hp' j p hj
 have hA:Has B w φa (ofPart cs 0 1):=part 0 _ rfl
 have hS:Has B w (VN k sh lo) (ofPart cs 1 1):=part 1 _ rfl
 have hbv:Has B w (ZN b lo) (ofPart cs 2 2):=part 2 _ rfl
 have hNv:Has B w (ZN N lo) (ofPart cs 4 2):=part 3 _ rfl
 have hRv:Has B w (ZN R lo) (ofPart cs 6 2):=part 4 _ rfl
 obtain ⟨vs,lv,hv,hpin⟩:=yxu (sz:=2) (φs:=Zl sh lo) (by decide) (fun j φ hφ=>by obtain ⟨z,_,rfl⟩:=yql hφ; exact yb6 (by decide) yai) (hS.imp (fun w h=>zad _ _ h))
 have hu:Hs w (SP (AP (ofPart cs 0 1) nD nL nT K D L τ dn) (Ar 2 k (Pl vs (Zl sh lo))) (Zv b 134217728) (Zv N 134217728) (PI (ofPart cs 6 2) (ZN R lo))) (.agg cs):=fun w' e=>by
  have e':Ev B w w':=e.mono (fun _ h=>h.elim)
  refine ⟨cs,rfl,hsz,hone,fun j p hj=>?_⟩
  match j,hj with
  | 0,hj=>simp only [zil,Option.some.injEq] at hj; subst hj; exact ⟨rfl,hφ _ _ (hA w' e')⟩
  | 1,hj=>simp only [zjd,zil,Option.some.injEq] at hj; subst hj; exact hpin w' e'
  | 2,hj=>simp at hj; subst hj; exact ybf hb _ _ (hbv w' e')
  | 3,hj=>simp at hj; subst hj; exact ybf hN _ _ (hNv w' e')
  | 4,hj=>simp at hj; subst hj; exact ⟨rfl,hRv w' e'⟩
 have hx':Hs w (Zv X Kx) x:=hx.hs
 have fin:∀ (N1 R1:Int) (ρ:Nat->Pr),Fresh ρ->(∀ w'' v,Ev B w w''->ρ w.heap.size v w''->ZN R1 lo v w'')->∀ e w',Gives (SPN (IS (ofPart cs 0 1)) (LF 2 (k+1) (vs.map IS ++ [ZN Z])) (ZN (fB (sh ++ [Z]) L nL (k+1))) (ZN N1) ρ) w e w'->∃ r,e=.returned r/\Below w.heap.size w w'/\Has B w' (SP φa (VN (k+1) (sh ++ [Z]) lo) (ZN (fB (sh ++ [Z]) L nL (k+1)) lo) (ZN N1 lo) (ZN R1 lo)) r:=by
  rintro N1 R1 ρ hF hρ e w' ⟨r,rfl,hbl,hr'⟩
  refine ⟨r,rfl,hbl,fun w'' e''=>?_⟩
  have ev:Ev B w w'':=(Ev.of_below hbl).back (fun _ _ h=>h) e''
  have hr'':=(ype (yab (ofPart cs 0 1)) (ysp (n:=k+1) (vs:=vs) (Z:=Z)) (yah _) (yah N1) hF).ev _ _ _ _ B hB hr' e''
  obtain ⟨ds,rfl,hs2,ho2,hp2⟩:=hr''
  refine ⟨ds,rfl,hs2,ho2,fun j p hj=>?_⟩
  match j,hj with
  | 0,hj =>
   simp only [zil,Option.some.injEq] at hj; subst hj
   have q:ofPart ds 0 1=ofPart cs 0 1:=hp2 0 _ rfl
   have q2:=hA w'' ev
   show φa (ofPart ds 0 1) w''
   rw [q]
   exact q2
  | 1,hj =>
   simp at hj; subst hj
   exact zdg lv ls hlo (fun i u' z h1 h2=>hv i u' _ h1 (by rw [zhi,zhi,h2]; rfl) w'' ev) (hp2 1 _ rfl)
  | 2,hj=>simp at hj; subst hj; exact (yah _).mono _ _ _ _ hlo (hp2 2 _ rfl)
  | 3,hj=>simp at hj; subst hj; exact (yah _).mono _ _ _ _ hlo (hp2 3 _ rfl)
  | 4,hj=>simp at hj; subst hj; exact hρ w'' _ ev (hp2 4 _ rfl)
 by_cases hm:rm M D1=0
 ·rw [show nx M D1 R=(fl M D1,R) from if_pos hm]
  exact (zcb w (ofPart cs 0 1) nD nL nT K D L τ dn hD hL hT hK lD lL lT (.agg cs) x k lo Ks 134217728 134217728 Kx sh vs (ofPart cs 6 2) b N R X Z D0 D1 W M (fl M D1) hu hx' hk hnT hnD ls lv hr hd0 dsh hKs (zha _) (zha _) hR hKx eZ eD0 eD1 eW eM _ (Or.inl ⟨hm,rfl,rfl⟩)).mono (fin _ _ (IS _) (yab _) (fun w'' v ev q=>by have q':v=_:=q; rw [q']; exact hRv w'' ev))
 ·rw [show nx M D1 R=(M,R*D1) from if_neg hm]
  exact (zcb w (ofPart cs 0 1) nD nL nT K D L τ dn hD hL hT hK lD lL lT (.agg cs) x k lo Ks 134217728 134217728 Kx sh vs (ofPart cs 6 2) b N R X Z D0 D1 W M M hu hx' hk hnT hnD ls lv hr hd0 dsh hKs (zha _) (zha _) hR hKx eZ eD0 eD1 eW eM _ (Or.inr ⟨hm,rfl⟩)).mono (fin _ _ (ZN (R*D1)) (yah _) (fun w'' v ev q=>(yah _).mono _ _ _ _ hlo q))
theorem yyw {x:List Int}{dn:Int}{τ:List Int}{n Kx K:Nat}(hx:Dl x Kx)(ht:Dl τ K)(hd:(digs dn.natAbs).length<=K)(m:Nat):Dl (shL x dn τ n m) (Kx+K+1):=fun i z hz=>by
 have hi:i < m:=by have:=(zhh.1 hz).1; rw [ygf] at this; exact this
 rw [yop hi] at hz
 simp only [Option.some.injEq] at hz
 rw [← hz]
 exact yec (by rw [zh3]; exact yaq (yb2 hx _) hd) (zhb (yb2 ht _) (by omega))
theorem yqd {x:List Int}{dn:Int}{τ:List Int}{n m k:Nat}(hk:k < m):(shL x dn τ n m).getD k 0=x.getD k 0*dn-τ.getD (n-1-k) 0:=by
 rw [zhc,yop hk]
 rfl
theorem zgc {x:List Int}{dn:Int}{τ D:List Int}{L:List (List Int)}{n m k:Nat}{D0 D1 W M:Int}(hk:k < m)(hm:m<=n)(eD0:D.getD (n-1-k) 0=D0)(eD1:D.getD (n-1-k+1) 0=D1)(eW:(x.getD k 0*dn-τ.getD (n-1-k) 0)*D1+fB (shL x dn τ n k) L n k=W)(eM:(fS D (shL x dn τ n m) L n k).1*D0+(fS D (shL x dn τ n m) L n k).2*(W*W)=M):
  nx M D1 (fS D (shL x dn τ n m) L n k).2=fS D (shL x dn τ n m) L n (k+1):=by
 have e1:fW D (shL x dn τ n m) L n k=W:=by
  rw [← eW,fW,yqd hk,eD1,fB,if_neg (by omega),ymp (sh':=shL x dn τ n k) (fun j hj=>by rw [yqd (show j < m by omega),yqd hj])]
 have e2:fM D (shL x dn τ n m) L n k (fS D (shL x dn τ n m) L n k)=M:=by rw [fM,e1,eD0,eM]
 rw [fS,e2,eD1,nx]
theorem zcp {sh:List Int}{L:List (List Int)}{Ks K n k:Nat}(hs:Dl sh Ks)(hL:Mdl L K):(digs (fB sh L n k).natAbs).length<=Ks+K+k:=by
 rw [fB]
 split
 ·rw [show (0:Int).natAbs=0 from rfl,yc8]; exact zhs _
 ·have q:=yl9 (ypb hs hL n (n-1-k) k) k
  rw [zhg (by rw [yfs]; omega)] at q
  exact q
abbrev SPk (φa:Pr)(nL:Nat)(D:List Int)(L:List (List Int))(τ:List Int)(dn:Int)(x:List Int)(m lo k:Nat):Pr:=SP φa (VN k (shL x dn τ nL k) lo) (ZN (fB (shL x dn τ nL k) L nL k) lo) (ZN (fS D (shL x dn τ nL m) L nL k).1 lo) (ZN (fS D (shL x dn τ nL m) L nL k).2 lo)
theorem yzp {φa:Pr}{nD nL nT K:Nat}{D:List Int}{L:List (List Int)}{τ:List Int}{dn:Int}(hφ:∀ v w,φa v w->APx nD nL nT K D L τ dn v w)(hD:nD<=1048577)(hL:nL<=1048576)(hT:nT<=1048576)(hK:K<=16777216)(lD:D.length=nD)(lL:L.length=nL)(lT:τ.length=nT){k m lo Kx:Nat}{x:List Int}(hk:k < m)(hm:m<=nL)(hnT:nT=nL)(hnD:nD=nL+1)(hr:∀ j,j < nL->(L.getD j []).length=j)(hd0:∀ i,i < nL->D.getD (i+1) 0≠0)(dx:Dl x Kx)(hKx:Kx<=16777216)
  (hN:∀ k,k<=m->(digs (fS D (shL x dn τ nL m) L nL k).1.natAbs).length<=134217728) (hR:∀ k,k<=m->(digs (fS D (shL x dn τ nL m) L nL k).2.natAbs).length<=134217728)
  (B:Nat->Prop) (w:World) (u v:Value) (hlo:lo<=w.heap.size) (hB:∀ k,B k->k < w.heap.size) (h:Has B w (SPk φa nL D L τ dn x m lo k) u) (hx:Has B w (Zv (x.getD k 0) Kx) v):
  Calls Tryz.prog 94 #[u,v] w fun e w'=>∃ r,e=.returned r/\Below w.heap.size w w'/\Has B w' (SPk φa nL D L τ dn x m lo (k+1)) r:=by
 obtain ⟨_,_,_,_,_,ha,_⟩:=you h.now
 obtain ⟨d1,d2,d3,d4⟩:=ymg ⟨rfl,hφ _ _ ha⟩
 have hsd:=yyw (n:=nL) dx d3 d4 k
 have key:=yr8 hφ hD hL hT hK lD lL lT (k:=k) (lo:=lo) (Kx:=Kx) (Ks:=33554433) (sh:=shL x dn τ nL k) (X:=x.getD k 0) (by omega) hnT hnD (ygf _ _ _ _ _) hr (hd0 (nL-1-k) (by omega)) (fun i z hz=>zhb (hsd i z hz) (by omega)) (by omega) (zhb (zcp hsd d2) (by omega)) (hN k (by omega)) (hR k (by omega)) hKx rfl rfl rfl rfl rfl B w u v hlo hB h hx
 rw [zgc hk hm rfl rfl rfl rfl] at key
 exact key
theorem fB_0 {x:List Int}{dn:Int}{τ:List Int}{L:List (List Int)}{n:Nat}:fB (shL x dn τ n 0) L n 0=0:=by
 rw [fB]
 split
 ·rfl
 ·rfl
abbrev yng  : Rk:=.box 75 (Is (.agg #[.pointer none,.slice none 0 0,.bool false,.slice none 0 0,.bool false,.slice none 0 0,.bool false,.slice none 0 0]))
theorem at_w (w:World)(pa:Value)(nD nL nT K:Nat)(D:List Int)(L:List (List Int))(τ:List Int)(dn:Int)(hD:nD<=1048577)(hL:nL<=1048576)(hT:nT<=1048576)(hK:K<=16777216)(lD:D.length=nD)(lL:L.length=nL)(lT:τ.length=nT)(ha:Hs w (AP pa nD nL nT K D L τ dn) pa)(v:Value)(m Kx:Nat)(x:List Int)(hv:Hs w (Vv m x Kx) v)(lx:x.length=m)(hm:m<=nL)(hnT:nT=nL)(hnD:nD=nL+1)(hr:∀ j,j < nL->(L.getD j []).length=j)(hd0:∀ i,i < nL->D.getD (i+1) 0≠0)(hKx:Kx<=16777216)(hN:∀ k,k<=m->(digs (fS D (shL x dn τ nL m) L nL k).1.natAbs).length<=134217728)(hR:∀ k,k<=m->(digs (fS D (shL x dn τ nL m) L nL k).2.natAbs).length<=134217728):
  CG 70 #[pa,v] w (SPN (IS (pa)) (VN m (shL x dn τ nL m)) (ZN (fB (shL x dn τ nL m) L nL m)) (ZN ((fS D (shL x dn τ nL m) L nL m).1)) (ZN ((fS D (shL x dn τ nL m) L nL m).2))):=by
 have dx:=yie hv.now
 refine yak (sl:=[(0,(AP pa nD nL nT K D L τ dn)),(1,(Vv m x Kx))]) Tryz.func70 rfl Tryz.ntmps70 (by simp) (yae rfl (ha) (yae rfl (hv) yao)) ?_
 intro a0 S0
 refine wq [.new (yng)] [.inl 0] ur2 S0 ?_ ?_
 ·exact jj1 (nwA wA yfa)
 intro _ a1 _ (S1:Zt [_] [_,_])
 refine wq [V (AP pa nD nL nT K D L τ dn),Fw (ZN (1)) w,V (SP (AP pa nD nL nT K D L τ dn) (Is (.slice none 0 0)) zI zI ((ZN (1)) w.heap.size)),.new (yng),.put (.inr 3) (.box 75 (SP (AP pa nD nL nT K D L τ dn) (Is (.slice none 0 0)) zI zI ((ZN (1)) w.heap.size)))] [.inr 0,.inl 3] [.inr 1] S1 ?_ ?_
 ·exact jj5 (mS 0 0) (cc1 wA (yaa _) (yah _) (yjz (1) (by omega) (by omega))) (ylh rfl wA rfl (oO 0 8) yf2 (oO 1 9) yai rfl) (nwA wA yfa) (puA 3 wA (oO 2 10) ybd yks yby)
 intro B2 a2 W2 (S2:Zt [_,_] [_])
 refine wp_seq ?_
 replace S2:Sta w 22 [(4,(yng)),(5,(.box 75 (SP (AP pa nD nL nT K D L τ dn) ((VN 0 (shL x dn τ nL 0)) w.heap.size) ((ZN (fB (shL x dn τ nL 0) L nL 0)) w.heap.size) ((ZN ((fS D (shL x dn τ nL m) L nL 0).1)) w.heap.size) ((ZN ((fS D (shL x dn τ nL m) L nL 0).2)) w.heap.size))))] [(1,Vv m x Kx)] B2 a2 W2:=S2.reboxS 1 rfl (yg1 (fun v w h=>h) zdv (fun v w h=>by rw [fB_0]; exact ymc v w h) ymc (fun v w h=>h))
 refine wq [V (Vv m x Kx),V (iV (m:Nat)),V (iV 0)] ur2 [.inl 0,.inl 1,.inl 2] S2 ?_ ?_
 ·exact jj3 (mS 0 1) (lnA wA (oO 0 11) Tryz.underlying35) mC
 intro B3 a3 _ (S3:Zt [_,_] [_,_,_])
 refine wp_block ?_
 refine ybi (fun (k0:Nat) a W=>(k0<=m)/\∃ Bq,Sta w 22 [(4,(yng)),(5,(.box 75 (SP (AP pa nD nL nT K D L τ dn) ((VN k0 (shL x dn τ nL k0)) w.heap.size) ((ZN (fB (shL x dn τ nL k0) L nL k0)) w.heap.size) ((ZN ((fS D (shL x dn τ nL m) L nL k0).1)) w.heap.size) ((ZN ((fS D (shL x dn τ nL m) L nL k0).2)) w.heap.size))))] [(11,Vv m x Kx),(12,iV (m:Nat)),(13,iV (k0:Nat))] Bq a W) (fun (k0:Nat)=>m-k0) ?_ 0 ⟨zhs _,B3,S3.sub [0,1] [0,1,2]⟩
 rintro k0 a4 _ ⟨hcond,_,S4⟩
 by_cases hlt:k0 < m
 ·skip
  refine wq [kT] ur2 (.inl 0 :: ur3) S4 ?_ ?_
  ·exact jj1 (ya8 wA (oS 2 13) (oS 1 12))
  intro B5 a5 W5 (S5:Zt [_,_] [_,_,_,_])
  refine wp_seq (wp_cond_true (S5.bool 0 14 rfl) (wp_skip (thenN (wp_seq (wp_block ?_)))))
  refine wq [V (AtE 2 (Zv (x.getD k0 0) Kx)),V (Zv (x.getD k0 0) Kx),.new (.box 24 zI),.put (.inr 2) (.box 24 (Zv (x.getD k0 0) Kx))] [.inr 0,.inr 1,.inl 2] [.inr 1,.inr 2,.inr 3] S5 ?_ ?_
  ·exact jj4 (axA wA yb5 (oS 1 11) (oS 3 13) (yej (by omega)) rfl) (alC wA yba yan (oO 0 15)) (nwA wA yar) (puA 2 wA (oO 1 16) yad ya9 yan)
  intro B6 a6 W6 (S6:Zt [_,_,_] [_,_,_])
  refine wr [V (SP (AP pa nD nL nT K D L τ dn) ((VN k0 (shL x dn τ nL k0)) w.heap.size) ((ZN (fB (shL x dn τ nL k0) L nL k0)) w.heap.size) ((ZN ((fS D (shL x dn τ nL m) L nL k0).1)) w.heap.size) ((ZN ((fS D (shL x dn τ nL m) L nL k0).2)) w.heap.size)),V (Zv (x.getD k0 0) Kx),V (SP (AP pa nD nL nT K D L τ dn) ((VN (k0+1) (shL x dn τ nL (k0+1))) w.heap.size) ((ZN (fB (shL x dn τ nL (k0+1)) L nL (k0+1))) w.heap.size) ((ZN ((fS D (shL x dn τ nL m) L nL (k0+1)).1)) w.heap.size) ((ZN ((fS D (shL x dn τ nL m) L nL (k0+1)).2)) w.heap.size)),.put (.inl 5) (.box 75 (SP (AP pa nD nL nT K D L τ dn) ((VN (k0+1) (shL x dn τ nL (k0+1))) w.heap.size) ((ZN (fB (shL x dn τ nL (k0+1)) L nL (k0+1))) w.heap.size) ((ZN ((fS D (shL x dn τ nL m) L nL (k0+1)).1)) w.heap.size) ((ZN ((fS D (shL x dn τ nL m) L nL (k0+1)).2)) w.heap.size)))] ur2 ur3 S6 ?_ ?_
  ·exact jj4 (loA 1 wA ybd yby) (loA 2 wA yad yan) (yda rfl wA rfl (oO 0 17) (oO 1 18) rfl (fun args w=>by go_simp) (fun B' w' u' v' hlo' hB' h1 h2=>yzp yf4 hD hL hT hK lD lL lT hlt hm hnT hnD hr hd0 dx hKx hN hR B' w' u' v' hlo' hB' h1 h2)) (seA 1 wA (oO 2 19) ybd yby yby)
  intro _ a7 _ (S7:Zt [_,_] [_,_,_])
  refine inBlkN (thenN ?_)
  refine wr [V (iV (k0+1:Nat)),V (iV (k0+1:Nat))] ur2 (.inl 1 :: ur2) S7 ?_ ?_
  ·exact jj2 (ya7 wA (oS 2 13) (yaa _)) (mO 0 20)
  intro B8 a8 _ (S8:Zt [_,_] [_,_,_])
  refine thenN ?_
  exact ⟨k0+1,⟨by omega,B8,S8.sub [0,1] [1,2,0]⟩,by omega⟩
 ·have ek:k0=m:=by omega
  rw [ek] at S4
  refine wq [kF] ur2 (.inl 0 :: ur3) S4 ?_ ?_
  ·exact jj1 (ybc wA (oS 2 13) (oS 1 12))
  intro B5 a5 W5 (S5:Zt [_,_] [_,_,_,_])
  refine wp_seq (wp_cond_false (S5.bool 0 14 rfl) (wp_exit (thenX (thenX (inBlkE (thenN ?_))))))
  replace S5:Sta w 22 [(4,(yng)),(5,(.box 75 (SP (Is (pa)) ((VN m (shL x dn τ nL m)) w.heap.size) ((ZN (fB (shL x dn τ nL m) L nL m)) w.heap.size) ((ZN ((fS D (shL x dn τ nL m) L nL m).1)) w.heap.size) ((ZN ((fS D (shL x dn τ nL m) L nL m).2)) w.heap.size))))] [(14,bF),(11,Vv m x Kx),(12,iV (m:Nat)),(13,iV (m:Nat))] B5 a5 W5:=S5.reboxS 1 rfl (yg1 yn1 (fun v w h=>h) (fun v w h=>h) (fun v w h=>h) (fun v w h=>h))
  refine wq [V (SP (Is (pa)) ((VN m (shL x dn τ nL m)) w.heap.size) ((ZN (fB (shL x dn τ nL m) L nL m)) w.heap.size) ((ZN ((fS D (shL x dn τ nL m) L nL m).1)) w.heap.size) ((ZN ((fS D (shL x dn τ nL m) L nL m).2)) w.heap.size)),.put (.inl 4) (.box 75 (SP (Is (pa)) ((VN m (shL x dn τ nL m)) w.heap.size) ((ZN (fB (shL x dn τ nL m) L nL m)) w.heap.size) ((ZN ((fS D (shL x dn τ nL m) L nL m).1)) w.heap.size) ((ZN ((fS D (shL x dn τ nL m) L nL m).2)) w.heap.size)))] ur2 [.inr 1,.inr 2,.inr 3] S5 ?_ ?_
  ·exact jj2 (loA 1 wA ybd yby) (seA 0 wA (oO 0 21) ybd yks yby)
  intro B6 a6 W6 (S6:Zt [_,_] [_,_,_])
  refine wp_ret ?_
  exact yav S6 rfl (ybb S6 0 4 rfl ybd yby)
theorem at_H {nD nL nT K:Nat}{D:List Int}{L:List (List Int)}{τ:List Int}{dn:Int}(hD:nD<=1048577)(hL:nL<=1048576)(hT:nT<=1048576)(hK:K<=16777216)(lD:D.length=nD)(lL:L.length=nL)(lT:τ.length=nT){lo m Kx:Nat}{x:List Int}(lx:x.length=m)(hm:m<=nL)(hnT:nT=nL)(hnD:nD=nL+1)(hr:∀ j,j < nL->(L.getD j []).length=j)(hd0:∀ i,i < nL->D.getD (i+1) 0≠0)(hKx:Kx<=16777216)(hN:∀ k,k<=m->(digs (fS D (shL x dn τ nL m) L nL k).1.natAbs).length<=134217728)(hR:∀ k,k<=m->(digs (fS D (shL x dn τ nL m) L nL k).2.natAbs).length<=134217728)
  (B:Nat->Prop) (w:World) (u v:Value) (hlo:lo<=w.heap.size) (hB:∀ k,B k->k < w.heap.size) (h:Has B w (APx nD nL nT K D L τ dn) u) (hv:Has B w (Vv m x Kx) v):
  Calls Tryz.prog 70 #[u,v] w fun e w'=>∃ r,e=.returned r/\Below w.heap.size w w'/\Has B w' (SPk (APx nD nL nT K D L τ dn) nL D L τ dn x m lo m) r:=by
 have ha:Hs w (AP u nD nL nT K D L τ dn) u:=fun w' e=>⟨rfl,h w' (e.mono (fun _ h=>h.elim))⟩
 refine (at_w w u nD nL nT K D L τ dn hD hL hT hK lD lL lT ha v m Kx x hv.hs lx hm hnT hnD hr hd0 hKx hN hR).mono ?_
 rintro e w' ⟨r,rfl,hbl,hr'⟩
 refine ⟨r,rfl,hbl,fun w'' e''=>?_⟩
 have ev:Ev B w w'':=(Ev.of_below hbl).back (fun _ _ h=>h) e''
 have hF:=ype (yab u) (fresh_vn (n:=m) (zs:=shL x dn τ nL m)) (yah (fB (shL x dn τ nL m) L nL m)) (yah (fS D (shL x dn τ nL m) L nL m).1) (yah (fS D (shL x dn τ nL m) L nL m).2)
 obtain ⟨ds,rfl,hs2,ho2,hp2⟩:=hF.mono _ lo _ _ hlo (hF.ev _ _ _ _ B hB hr' e'')
 refine ⟨ds,rfl,hs2,ho2,fun j p hj=>?_⟩
 match j,hj with
 | 0,hj =>
  simp only [zil,Option.some.injEq] at hj; subst hj
  have q:ofPart ds 0 1=u:=hp2 0 _ rfl
  show APx nD nL nT K D L τ dn (ofPart ds 0 1) w''
  rw [q]
  exact h w'' ev
 | j+1,hj=>exact hp2 (j+1) p hj
theorem zgq (w:World)(pa:Value)(nD nL nT K:Nat)(D:List Int)(L:List (List Int))(τ:List Int)(dn:Int)(hD:nD<=1048577)(hL:nL<=1048576)(hT:nT<=1048576)(hK:K<=16777216)(lD:D.length=nD)(lL:L.length=nL)(lT:τ.length=nT)(u:Value)(k lo Ks KB KN KR:Nat)(sh:List Int)(b N R D1:Int)(vn:Value)(h:Hs w (SP (AP pa nD nL nT K D L τ dn) (Vv k sh Ks) (Zv b KB) (PI vn (ZN N lo)) (Zv R KR)) u)(hk:k<=nL)(ls:sh.length=k)(hnT:nT=nL)(hnD:nD=nL+1)(hN:(digs N.natAbs).length<=KN)(hKR:KR<=134217728)(eD:D.getD (nL-k) 0=D1):
  CG 37 #[u] w (PRF (IS (vn)) (ZN ((dn*dn)*(R*D1)))):=by
 obtain ⟨_,_,_,_,_,ha,_,_,_,hRv⟩:=you h.now
 have hamd:=ymg ha
 have hp1:(digs D1.natAbs).length<=K:=by rw [← eD]; exact yb2 hamd.1 _
 have hpR:=ye7 hRv
 have q1:(digs (dn*dn).natAbs).length<=33554432:=by rw [zh3]; exact zhb (yaq hamd.2.2.2 hamd.2.2.2) (by omega)
 have q2:(digs (R*D1).natAbs).length<=150994944:=by rw [zh3]; exact zhb (yaq hpR hp1) (by omega)
 refine yak (sl:=[(0,(SP (AP pa nD nL nT K D L τ dn) (Vv k sh Ks) (Zv b KB) (PI vn (ZN N lo)) (Zv R KR)))]) Tryz.func37 rfl Tryz.ntmps37 (by simp) (yae rfl (h) yao) ?_
 intro a0 S0
 refine wq [.new (.box 75 (SP (AP pa nD nL nT K D L τ dn) (Vv k sh Ks) (Zv b KB) (PI vn (ZN N lo)) (Zv R KR))),.new (.box 26 zR)] [.inl 0,.inl 1] [] S0 ?_ ?_
 ·exact jj2 (bxA wA (oS 0 0) (yek yby)) (nwA wA ya3)
 intro _ a1 _ (S1:Zt [_,_] [])
 refine wq [V (Part a1 1 0),V (AP pa nD nL nT K D L τ dn),V (AP pa nD nL nT K D L τ dn),V (AtE 2 (Zv dn K)),V (Zv dn K),V (Part a1 1 0),V (AP pa nD nL nT K D L τ dn),V (AP pa nD nL nT K D L τ dn),V (AtE 2 (Zv dn K)),V (Zv dn K),Fw (ZN (dn*dn)) w,.new (.box 24 zI),.put (.inr 11) (.box 24 ((ZN (dn*dn)) w.heap.size))] [.inr 0,.inr 1,.inl 11] [] S1 ?_ ?_
 ·exact ⟨⟨⟨⟨⟨jj8 (ptZ wA 0 ycv) (plA wA (oO 0 4) 0 rfl rfl (ybg ydt (k:=0) rfl (by decide) (by decide))) (ycq rfl wA rfl (oO 1 5) yf2 rfl) (ybu (d:=3) rfl wA rfl ((oO 2 6).imp yf4) (fun ρ w b k h=>yfh ρ _ _ w b k h) yqp rfl) (alC wA yba yan (oO 3 7)) (ptZ wA 0 ycv) (plA wA (oO 5 9) 0 rfl rfl (ybg ydt (k:=0) rfl (by decide) (by decide))) (ycq rfl wA rfl (oO 6 10) yf2 rfl),ybu (d:=3) rfl wA rfl ((oO 7 11).imp yf4) (fun ρ w b k h=>yfh ρ _ _ w b k h) yqp rfl⟩,alC wA yba yan (oO 8 12)⟩,cc2 wA (qO 4 8 rfl) (qO 9 13 rfl) (yah _) (fun w u v h1 h2=>ydv (by omega) w u v ((fun _ _ h=>h) _ _ h1) ((fun _ _ h=>h) _ _ h2))⟩,nwA wA yar⟩,puA 11 wA (oO 10 14) yad ya9 yai⟩
 intro _ a2 _ (S2:Zt [_,_,_] [])
 refine wq [V (Part a2 1 4),V (PI vn (ZN N lo)),Fw (ZN (dn*dn)) w,V (Part a2 1 6),V (Zv R KR),V (Part a2 1 0),V (AP pa nD nL nT K D L τ dn),V (AP pa nD nL nT K D L τ dn),V (AtE 2 (SF [(Vv nD D K),(Mv nL L K)])),V (AtE 1 (Vv nD D K)),V (Vv nD D K),V (SP (AP pa nD nL nT K D L τ dn) (Vv k sh Ks) (Zv b KB) (PI vn (ZN N lo)) (Zv R KR)),V (iV ((nL:Int)-(k:Int)-1)),V (iV ((nL-k:Nat):Int)),V (AtE 2 (Zv D1 K)),V (Zv D1 K),Fw (ZN (R*D1)) w,Fw (ZN ((dn*dn)*(R*D1))) w,V (PR (PI vn (ZN N lo)) ((ZN ((dn*dn)*(R*D1))) w.heap.size)),.put (.inl 2) (.box 26 (PR (PI vn (ZN N lo)) ((ZN ((dn*dn)*(R*D1))) w.heap.size)))] ur2 [] S2 ?_ ?_
 ·exact ⟨⟨⟨⟨⟨⟨⟨⟨⟨⟨⟨⟨jj8 (ptA wA 0 yeq) (plA wA (oO 0 15) 0 rfl rfl (ybg yba (k:=3) rfl (by decide) (by decide))) (loA 2 wA yad yai) (ptA wA 0 yd7) (plA wA (oO 3 18) 0 rfl rfl (ybg yba (k:=4) rfl (by decide) (by decide))) (ptZ wA 0 ycv) (plA wA (oO 5 20) 0 rfl rfl (ybg ydt (k:=0) rfl (by decide) (by decide))) (ycq rfl wA rfl (oO 6 21) yf2 rfl),ybu (d:=0) rfl wA rfl ((oO 7 22).imp yf4) (fun ρ w b k h=>yed ρ _ _ w b k h) ymf rfl⟩,ybu (d:=0) rfl wA rfl (oO 8 23) (fun ρ w b k h=>yfi ρ _ _ w b k h) (ynm (f:=0) rfl) rfl⟩,alA wA ycf yez (oO 9 24)⟩,loA 0 wA ybd yby⟩,ch1 wA ((qO 11 26 rfl).imp (yg1 (fun v w h=>h) (fun v w h=>h) (fun v w h=>h) (yna hN) (fun v w h=>h))) (yab _) (fun w u0 h0=>(yov w pa nD nL nT K D L τ dn hD hL hT hK lD lL lT u0 _ _ _ _ _ _ _ _ _ h0 hk ls _ rfl))⟩,ya7 wA (oO 12 27) (yaa _)⟩,axA wA yb5 (oO 10 25) (oO 13 28) (by rw [← eD]; exact yej (by omega)) rfl⟩,alC wA yba yan (oO 14 29)⟩,cc2 wA (qO 4 19 rfl) (qO 15 30 rfl) (yah _) (fun w u v h1 h2=>ydv (by omega) w u v ((fun _ _ h=>h) _ _ h1) ((fun _ _ h=>h) _ _ h2))⟩,cc2 wA (qO 2 17 rfl) (qO 16 31 rfl) (yah _) (fun w u v h1 h2=>ydv (by omega) w u v ((ybf q1) _ _ h1) ((ybf q2) _ _ h2))⟩,yhw rfl wA rfl (oO 1 16) (oO 17 32) yl6 yai rfl⟩,seA 1 wA (oO 18 33) yaj ybk (ybm yl6 yai)⟩
 intro _ a3 _ (S3:Zt [_,_] [])
 refine wp_ret ?_
 exact yav S3 rfl (by obtain ⟨v,h1,h2⟩:=ybb S3 1 2 rfl yaj (ybm yl6 yai); exact ⟨v,h1,yic yn1 (fun _ _ h=>h) _ _ h2⟩)
theorem ytn {φa:Pr}{nD nL nT K:Nat}{D:List Int}{L:List (List Int)}{τ:List Int}{dn:Int}(hφ:∀ v w,φa v w->APx nD nL nT K D L τ dn v w)(hD:nD<=1048577)(hL:nL<=1048576)(hT:nT<=1048576)(hK:K<=16777216)(lD:D.length=nD)(lL:L.length=nL)(lT:τ.length=nT){k lo Ks:Nat}{sh:List Int}{b N R:Int}(hk:k<=nL)(ls:sh.length=k)(hnT:nT=nL)(hnD:nD=nL+1)(dsh:Dl sh Ks)(hR:(digs R.natAbs).length<=134217728)
  (B:Nat->Prop) (w:World) (u:Value) (hlo:lo<=w.heap.size) (hB:∀ k,B k->k < w.heap.size) (h:Has B w (SP φa (VN k sh lo) (ZN b lo) (ZN N lo) (ZN R lo)) u):
  Calls Tryz.prog 37 #[u] w fun e w'=>∃ r,e=.returned r/\Below w.heap.size w w'/\Has B w' (PR (ZN N lo) (ZN ((dn*dn)*(R*D.getD (nL-k) 0)) lo)) r:=by
 obtain ⟨cs,rfl,hsz,hone,_⟩:=id h.now
 have part:∀ (j:Nat) p,([(0,1,φa),(1,1,VN k sh lo),(2,2,ZN b lo),(4,2,ZN N lo),(6,2,ZN R lo)]:List (Nat × Nat × Pr))[j]? = some p->Has B w p.2.2 (ofPart cs p.1 p.2.1):=fun j p hj w' e=>by
  obtain ⟨cs',e1,_,_,hp'⟩:=h w' e
  cases e1
  exact hp' j p hj
 have hNv:Has B w (ZN N lo) (ofPart cs 4 2):=part 3 _ rfl
 have hu:Hs w (SP (AP (ofPart cs 0 1) nD nL nT K D L τ dn) (Vv k sh Ks) (Zv b (digs b.natAbs).length) (PI (ofPart cs 4 2) (ZN N lo)) (Zv R 134217728)) (.agg cs):=fun w' e=>by
  have e':Ev B w w':=e.mono (fun _ h=>h.elim)
  refine ⟨cs,rfl,hsz,hone,fun j p hj=>?_⟩
  match j,hj with
  | 0,hj=>simp only [zil,Option.some.injEq] at hj; subst hj; exact ⟨rfl,hφ _ _ (part 0 _ rfl w' e')⟩
  | 1,hj=>simp only [zjd,zil,Option.some.injEq] at hj; subst hj; exact yrr dsh _ _ (part 1 _ rfl w' e')
  | 2,hj=>simp at hj; subst hj; exact ybf (zha _) _ _ (part 2 _ rfl w' e')
  | 3,hj=>simp at hj; subst hj; exact ⟨rfl,hNv w' e'⟩
  | 4,hj=>simp at hj; subst hj; exact ybf hR _ _ (part 4 _ rfl w' e')
 refine (zgq w (ofPart cs 0 1) nD nL nT K D L τ dn hD hL hT hK lD lL lT (.agg cs) k lo Ks _ (digs N.natAbs).length 134217728 sh b N R _ (ofPart cs 4 2) hu hk ls hnT hnD (zha _) (zha _) rfl).mono ?_
 rintro e w' ⟨r,rfl,hbl,hr⟩
 refine ⟨r,rfl,hbl,fun w'' e''=>?_⟩
 have ev:Ev B w w'':=(Ev.of_below hbl).back (fun _ _ h=>h) e''
 obtain ⟨x0,x1,y0,y1,rfl,h1,h2⟩:=(yfc (yab (ofPart cs 4 2)) (yah _)).ev _ _ _ _ B hB hr e''
 have h1':(.agg #[x0,x1]:Value)=ofPart cs 4 2:=h1
 exact ⟨x0,x1,y0,y1,rfl,by rw [h1']; exact hNv w'' ev,(yah _).mono _ _ _ _ hlo h2⟩
theorem za7 (w:World)(pa:Value)(nD nL nT K:Nat)(D:List Int)(L:List (List Int))(τ:List Int)(dn:Int)(hD:nD<=1048577)(hL:nL<=1048576)(hT:nT<=1048576)(hK:K<=16777216)(lD:D.length=nD)(lL:L.length=nL)(lT:τ.length=nT)(u:Value)(k Ks KB KN KR:Nat)(sh:List Int)(b N R:Int)(h:Hs w (SP (AP pa nD nL nT K D L τ dn) (Vv k sh Ks) (Zv b KB) (Zv N KN) (Zv R KR)) u)(hk:k < nL)(ls:sh.length=k)(hnT:nT=nL)(hnD:nD=nL+1)(T0 D1:Int)(eT:τ.getD (nL-1-k) 0=T0)(eD:D.getD (nL-1-k+1) 0=D1)(hKB:KB<=134217728):
  CG 39 #[u] w (PRF (ZN (T0*D1-b)) (ZN (dn*D1))):=by
 obtain ⟨_,_,_,_,_,ha,_,_,_,_⟩:=you h.now
 have hamd:=ymg ha
 have hp1:(digs D1.natAbs).length<=K:=by rw [← eD]; exact yb2 hamd.1 _
 have hpT:(digs T0.natAbs).length<=K:=by rw [← eT]; exact yb2 hamd.2.2.1 _
 have q1:(digs (T0*D1).natAbs).length<=33554432:=by rw [zh3]; exact zhb (yaq hpT hp1) (by omega)
 refine yak (sl:=[(0,(SP (AP pa nD nL nT K D L τ dn) (Vv k sh Ks) (Zv b KB) (Zv N KN) (Zv R KR)))]) Tryz.func39 rfl Tryz.ntmps39 (by simp) (yae rfl (h) yao) ?_
 intro a0 S0
 refine wq [.new (.box 75 (SP (AP pa nD nL nT K D L τ dn) (Vv k sh Ks) (Zv b KB) (Zv N KN) (Zv R KR))),.new (.box 26 zR)] [.inl 0,.inl 1] [] S0 ?_ ?_
 ·exact jj2 (bxA wA (oS 0 0) (yek yby)) (nwA wA ya3)
 intro _ a1 _ (S1:Zt [_,_] [])
 refine wq [V (Part a1 1 0),V (AP pa nD nL nT K D L τ dn),V (AP pa nD nL nT K D L τ dn),V (AtE 2 (SF [(Vv nD D K),(Mv nL L K)])),V (AtE 1 (Vv nD D K)),V (Vv nD D K),V (SP (AP pa nD nL nT K D L τ dn) (Vv k sh Ks) (Zv b KB) (Zv N KN) (Zv R KR)),V (iV ((nL-1-k:Nat):Int)),V (iV ((nL-1-k+1:Nat):Int)),V (AtE 2 (Zv D1 K)),V (Zv D1 K),.new (.box 24 zI),.put (.inr 11) (.box 24 (Zv D1 K))] [.inr 0,.inr 1,.inl 11] [] S1 ?_ ?_
 ·exact ⟨⟨⟨⟨⟨jj8 (ptZ wA 0 ycv) (plA wA (oO 0 5) 0 rfl rfl (ybg ydt (k:=0) rfl (by decide) (by decide))) (ycq rfl wA rfl (oO 1 6) yf2 rfl) (ybu (d:=0) rfl wA rfl ((oO 2 7).imp yf4) (fun ρ w b k h=>yed ρ _ _ w b k h) ymf rfl) (ybu (d:=0) rfl wA rfl (oO 3 8) (fun ρ w b k h=>yfi ρ _ _ w b k h) (ynm (f:=0) rfl) rfl) (alA wA ycf yez (oO 4 9)) (loA 0 wA ybd yby) (ch1 wA (qO 6 11 rfl) (yab _) (fun w u0 h0=>(yov w pa nD nL nT K D L τ dn hD hL hT hK lD lL lT u0 _ _ _ _ _ _ _ _ _ h0 (by omega) ls ((nL-1-k:Nat):Int) (by omega)))),ya7 wA (oO 7 12) (yaa _)⟩,axA wA yb5 (oO 5 10) (oO 8 13) (by rw [← eD]; exact yej (by omega)) rfl⟩,alC wA yba yan (oO 9 14)⟩,nwA wA yar⟩,puA 11 wA (oO 10 15) yad ya9 yan⟩
 intro _ a2 _ (S2:Zt [_,_,_] [])
 refine wq [V (Part a2 1 0),V (AP pa nD nL nT K D L τ dn),V (AP pa nD nL nT K D L τ dn),V (AtE 1 (Vv nT τ K)),V (Vv nT τ K),V (SP (AP pa nD nL nT K D L τ dn) (Vv k sh Ks) (Zv b KB) (Zv N KN) (Zv R KR)),V (iV ((nL-1-k:Nat):Int)),V (AtE 2 (Zv T0 K)),V (Zv T0 K),V (Zv D1 K),Fw (ZN (T0*D1)) w,V (Part a2 1 2),V (Zv b KB),Fw (ZN ((T0*D1)-b)) w,.new (.box 24 zI),.put (.inr 14) (.box 24 ((ZN ((T0*D1)-b)) w.heap.size))] [.inr 0,.inr 1,.inr 2,.inl 14] [] S2 ?_ ?_
 ·exact ⟨⟨⟨⟨⟨⟨⟨⟨jj8 (ptZ wA 0 ycv) (plA wA (oO 0 16) 0 rfl rfl (ybg ydt (k:=0) rfl (by decide) (by decide))) (ycq rfl wA rfl (oO 1 17) yf2 rfl) (ybu (d:=2) rfl wA rfl ((oO 2 18).imp yf4) (fun ρ w b k h=>ym7 ρ _ _ w b k h) zb1 rfl) (alA wA ycf yez (oO 3 19)) (loA 0 wA ybd yby) (ch1 wA (qO 5 21 rfl) (yab _) (fun w u0 h0=>(yov w pa nD nL nT K D L τ dn hD hL hT hK lD lL lT u0 _ _ _ _ _ _ _ _ _ h0 (by omega) ls ((nL-1-k:Nat):Int) (by omega)))) (axA wA yb5 (oO 4 20) (oO 6 22) (by rw [← eT]; exact yej (by omega)) rfl),alC wA yba yan (oO 7 23)⟩,loA 2 wA yad yan⟩,cc2 wA (qO 8 24 rfl) (qO 9 25 rfl) (yah _) (fun w u v h1 h2=>ydv (by omega) w u v ((fun _ _ h=>h) _ _ h1) ((fun _ _ h=>h) _ _ h2))⟩,ptA wA 0 ygq⟩,plA wA (oO 11 27) 0 rfl rfl (ybg yba (k:=2) rfl (by decide) (by decide))⟩,cc2 wA (qO 10 26 rfl) (qO 12 28 rfl) (yah _) (fun w u v h1 h2=>ykc (by omega) (by omega) w u v ((ybf q1) _ _ h1) ((fun _ _ h=>h) _ _ h2))⟩,nwA wA yar⟩,puA 14 wA (oO 13 29) yad ya9 yai⟩
 intro _ a3 _ (S3:Zt [_,_,_,_] [])
 refine wq [Fw (ZN ((T0*D1)-b)) w,V (Part a3 1 0),V (AP pa nD nL nT K D L τ dn),V (AP pa nD nL nT K D L τ dn),V (AtE 2 (Zv dn K)),V (Zv dn K),V (Zv D1 K),Fw (ZN (dn*D1)) w,V (PR ((ZN ((T0*D1)-b)) w.heap.size) ((ZN (dn*D1)) w.heap.size)),.put (.inl 2) (.box 26 (PR ((ZN ((T0*D1)-b)) w.heap.size) ((ZN (dn*D1)) w.heap.size)))] ur2 [] S3 ?_ ?_
 ·exact ⟨⟨jj8 (loA 3 wA yad yai) (ptZ wA 0 ycv) (plA wA (oO 1 31) 0 rfl rfl (ybg ydt (k:=0) rfl (by decide) (by decide))) (ycq rfl wA rfl (oO 2 32) yf2 rfl) (ybu (d:=3) rfl wA rfl ((oO 3 33).imp yf4) (fun ρ w b k h=>yfh ρ _ _ w b k h) yqp rfl) (alC wA yba yan (oO 4 34)) (loA 2 wA yad yan) (cc2 wA (qO 5 35 rfl) (qO 6 36 rfl) (yah _) (fun w u v h1 h2=>ydv (by omega) w u v ((fun _ _ h=>h) _ _ h1) ((fun _ _ h=>h) _ _ h2))),yhw rfl wA rfl (oO 0 30) (oO 7 37) yai yai rfl⟩,seA 1 wA (oO 8 38) yaj ybk (ybm yai yai)⟩
 intro _ a4 _ (S4:Zt [_,_] [])
 refine wp_ret ?_
 exact yav S4 rfl (ybb S4 1 2 rfl yaj (ybm yai yai))
theorem zas {sz n:Nat}{φs:List Pr}{g:Value}:∀ v w,PI g (Ar sz n φs) v w->∃ p c,v=.slice p n c:=fun v w h=>yh7 v w h.2
theorem yxl {n k k':Nat}{zs:List Int}(hk:k<=k'):∀ v w,Vv n zs k v w->Vv n zs k' v w:=yg8 (by simp) (fun i φ φ' h1 h2 v w h=>by
 obtain ⟨z,hz,rfl⟩:=ybs h1
 obtain ⟨z',hz',rfl⟩:=ybs h2
 rw [hz] at hz'
 cases hz'
 exact yvq hk _ _ h)
theorem yzm {sz:Nat}{φs ψs:List Pr}{xs:List Value}{w:World}(hl:φs.length=ψs.length)(hi:∀ (i:Nat) φ ψ,φs[i]? = some φ->ψs[i]? = some ψ->∀ v,φ v w->ψ v w)(h:CE sz φs xs w):CE sz ψs xs w:=by
 obtain ⟨us,e,l,c,a⟩:=h
 refine ⟨us,e,l.trans hl,c,fun i u ψ hu hψ=>?_⟩
 obtain ⟨φ,hφ⟩:∃ φ,φs[i]? = some φ:=⟨φs[i]'(by rw [hl]; exact (zhh.1 hψ).1),zhj _⟩
 exact hi i φ ψ hφ hψ u (a i u φ hu hφ)
theorem yvz {n lo:Nat}{xs:List Value}{w:World}(h:CE 2 (List.replicate n zI) xs w):CE 2 (((List.replicate n (0:Int)).map ZN).map (· lo)) xs w:=by
 refine yzm (by simp) (fun i φ ψ hφ hψ v hv=>?_) h
 rw [zi5] at hφ
 rw [zhi,zhi,zi5] at hψ
 split at hφ
 ·rename_i hi
  rw [if_pos hi] at hψ
  simp only [Option.some.injEq,Option.map_some] at hφ hψ
  subst hφ
  rw [← hψ]
  exact ymc v w hv
 ·cases hφ
theorem ysk (n K:Nat):Dl (List.replicate n (0:Int)) K:=fun i z h=>by
 rw [zi5] at h
 split at h
 ·simp only [Option.some.injEq] at h
  rw [← h]
  show (digs (0:Int).natAbs).length<=K
  rw [show (0:Int).natAbs=0 from rfl,yc8]
  exact zhs _
 ·cases h
def AQ (gx gy:Value)(n:Nat)(τ:List Int)(dn:Int):Nat->Pr:=fun lo v w=>AtE 5 (AMI gx gy n τ dn lo) v w/\∀ b k,v=.pointer (some ⟨b,k,none⟩)->lo<=b
theorem fresh_aq {gx gy:Value}{n:Nat}{τ:List Int}{dn:Int}:Fresh (AQ gx gy n τ dn):=by
 refine ⟨fun lo lo' v w hl ⟨⟨b,o,u,e,h1,h2,h3⟩,hf⟩=>⟨⟨b,o,u,e,h1,h2,fresh_ami.mono _ _ _ _ hl h3⟩,fun b k e=>zhb hl (hf b k e)⟩,fun lo v w w' B hB ⟨⟨b,o,u,e,h1,h2,h3⟩,hf⟩ ev=>?_⟩
 have hb:=hf b o e
 exact ⟨⟨b,o,u,e,fun j x hx=>yg9 (h1 j x hx) (fun h=>by have:=hB b h; omega) ev,h2,fresh_ami.ev _ _ _ _ B hB h3 ev⟩,hf⟩
def tauL (ts:List (Int × Int))(n:Nat):List Int:=if ts.length=0 then List.replicate n 0 else tlL ts (cmN ts ts.length)
theorem yju {ts:List (Int × Int)}{n:Nat}(h:ts.length=0\/ts.length=n):(tauL ts n).length=n:=by
 rw [tauL]
 split
 ·simp
 ·rw [yqg]; omega
theorem yy3 {ts:List (Int × Int)}{n K S K':Nat}(h:DenOk ts)(hd:∀ i,i < ts.length->(digs (ts.getD i (0,0)).1.natAbs).length<=K)(hs:dsum ts ts.length<=S)(hk:K+S<=K'):Dl (tauL ts n) K':=by
 rw [tauL]
 split
 ·exact ysk _ _
 ·intro i z hz
  have hi:i < ts.length:=by have:=(zhh.1 hz).1; rw [yqg] at this; exact this
  rw [yu8 hi] at hz
  simp only [Option.some.injEq] at hz
  rw [← hz,zh3,zhy]
  refine zhb (yaq (hd i hi) (l:=S) (zhb (yag (zia _ _)) (zhb (yj5 h _ (zha _)) hs))) hk
abbrev yjh (w:World)(nT:Nat)(ts:List (Int × Int)):Pr:=(ZN (((cmN ts nT:Nat):Int))) w.heap.size
theorem of_0 (w:World)(u t gx gy:Value)(nL nT K Kt:Nat)(L:List (List Int))(ts:List (Int × Int))(h:Hs w (SF [Is gx,PI gy (Mv nL L K)]) u)(ht:Hs w (QV nT ts Kt) t)(hL:nL<=1048576)(hT:nT<=1048576)(hKt:Kt<=1048576)(lt:ts.length=nT)(ok:DenOk ts)(hS:dsum ts nT<=4194304)(h0:nT=0):
  CG 69 #[u,t] w (AQ gx gy nL (List.replicate nL 0) ((cmN ts nT:Nat):Int)):=by
 refine yak (sl:=[(0,(SF [(Is (gx)),(PI gy (Mv nL L K))])),(1,(QV nT ts Kt))]) Tryz.func69 rfl Tryz.ntmps69 (by simp) (yae rfl (h) (yae rfl (ht) yao)) ?_
 intro a0 S0
 refine wq [.new (.box 38 (SF [(Is (gx)),(PI gy (Mv nL L K))])),V (Is (.pointer none))] [.inl 0] [.inr 1] S0 ?_ ?_
 ·exact jj2 (bxA wA (oS 0 0) (yf5 yei)) mC
 intro _ a1 _ (S1:Zt [_] [_])
 refine wq [V (QV nT ts Kt),Fw (TWO (VN nT (tlL ts (cmN ts nT))) (ZN (((cmN ts nT:Nat):Int)))) w,Fw (TWO (VN nT (tlL ts (cmN ts nT))) (ZN (((cmN ts nT:Nat):Int)))) w,Fw (VN nT (tlL ts (cmN ts nT))) w,V (yjh w nT ts),.new (.box 24 zI),Fw (VN nT (tlL ts (cmN ts nT))) w,.put (.inr 5) (.box 24 (yjh w nT ts))] [.inr 0,.inl 5] [.inl 6,.inr 0] S1 ?_ ?_
 ·repeat' refine And.intro ?_ ?_
  ·trivial
  ·exact mS 0 1
  ·exact ch1 wA (qO 0 8 rfl) (ya5 fresh_vn (yah _)) (fun w u h=>yy8 w u nT Kt ts h hT hKt lt ok hS)
  ·exact mO 1 9
  ·exact e20 wA (oO 2 7)
  ·exact e21 wA (oO 2 7)
  ·exact nwA wA yar
  ·exact mO 3 10
  ·exact puA 5 wA (oO 4 11) yad ya9 yai
 intro _ a2 _ (S2:Zt [_,_] [_,_])
 refine wp_seq ?_
 refine wq [V (QV nT ts Kt),V (iV (nT:Nat)),kT] ur2 [.inl 2,.inr 0] S2 ?_ ?_
 ·exact jj3 (mS 1 1) (lnA wA (oO 0 12) Tryz.underlying39) (ycl wA (oO 1 13) (yaa _))
 intro _ a3 _ (S3:Zt [_,_] [_,_])
 refine wp_cond_true (S3.bool 0 14 rfl) ?_
 refine wr [V (Part a3 2 1),V (PI gy (Mv nL L K)),V (iV (nL:Nat)),.new (.row 24 2 nL (CE 2 (List.replicate nL zI))),.ref 3] [.inr 0,.inr 1,.inl 4] [] S3 ?_ ?_
 ·exact jj5 (ptA wA 0 yaw) (plA wA (oO 0 15) 0 rfl rfl (ploadS rfl yb1)) (yjc rfl wA rfl (oO 1 16) zas Tryz.underlying36 rfl) (yjd rfl wA rfl Tryz.underlying35 infoInt yn5 (by decide) (oO 2 17) ⟨by omega,by unfold maxLen; omega⟩ rfl) (yog 3 rfl wA (Or.inr rfl) (by kernel_rfl) rfl rfl)
 intro _ a4 W4 (S4:Sta w 24 [(2,(.box 38 (SF [(Is (gx)),(PI gy (Mv nL L K))]))),(6,(.box 24 (yjh w nT ts))),(5,(.row 24 2 nL (CE 2 (List.replicate nL zI))))] [] _ _ _)
 refine thenN ?_
 obtain ⟨B5,S5⟩:∃ Bq,Sta w 24 [(2,(.box 38 (SF [(Is (gx)),(PI gy (Mv nL L K))]))),(6,(.box 24 (yjh w nT ts)))] [(5,((VN nL (List.replicate nL 0)) w.heap.size))] Bq a4 W4:=⟨_,S4.freeze 2 rfl (by simp) (fun v w' xs ho hc=>ynj (by decide) v w' xs ho (yvz hc))⟩
 obtain ⟨a5,W5,e1,e2⟩:∃ a W,a4=a/\W4=W:=⟨_,_,rfl,rfl⟩
 rw [e1,e2] at S5 ⊢
 clear e1 e2
 replace S5:Sta w 24 [(2,(.box 38 (SF [(Is (gx)),(Is (gy))]))),(6,(.box 24 (yjh w nT ts)))] [(5,((VN nL (List.replicate nL 0)) w.heap.size))] B5 a5 W5:=S5.reboxS 0 rfl (yys (fun v w h=>h) yn1)
 refine wq [V (SF [(Is (gx)),(Is (gy))]),Fw (VN nL (List.replicate nL 0)) w,V (yjh w nT ts),V (AM (Is (gx)) (Is (gy)) ((VN nL (List.replicate nL 0)) w.heap.size) (yjh w nT ts)),V (fun v W=>AtE 5 (AM (Is gx) (Is gy) (VN nL (List.replicate nL 0) w.heap.size) (ZN (((cmN ts nT:Nat):Int)) w.heap.size)) v W/\∀ b k,v=.pointer (some ⟨b,k,none⟩)->w.heap.size<=b),V (fun v W=>AtE 5 (AM (Is gx) (Is gy) (VN nL (List.replicate nL 0) w.heap.size) (ZN (((cmN ts nT:Nat):Int)) w.heap.size)) v W/\∀ b k,v=.pointer (some ⟨b,k,none⟩)->w.heap.size<=b)] [.inr 0] [.inl 5] S5 ?_ ?_
 ·exact jj6 (loA 0 wA ygh yei) (mS 0 5) (loA 1 wA yad yai) (yib rfl wA rfl (oO 0 19) (oO 1 20) (oO 2 21) (fun v w h=>by obtain ⟨p,c,e⟩:=ymv v w h; exact ⟨_,_,_,e⟩) yai rfl) (ykj rfl wA rfl (oO 3 22) yyx rfl) (mO 4 23)
 intro _ a6 _ (S6:Zt [_] [_])
 refine wp_ret ?_
 exact yav S6 rfl (yay S6 0 4 rfl)
theorem of_t (w:World)(u t gx gy:Value)(nL nT K Kt:Nat)(L:List (List Int))(ts:List (Int × Int))(h:Hs w (SF [Is gx,PI gy (Mv nL L K)]) u)(ht:Hs w (QV nT ts Kt) t)(hL:nL<=1048576)(hT:nT<=1048576)(hKt:Kt<=1048576)(lt:ts.length=nT)(ok:DenOk ts)(hS:dsum ts nT<=4194304)(h0:nT≠0):
  CG 69 #[u,t] w (AQ gx gy nT (tlL ts (cmN ts nT)) ((cmN ts nT:Nat):Int)):=by
 refine yak (sl:=[(0,(SF [(Is (gx)),(PI gy (Mv nL L K))])),(1,(QV nT ts Kt))]) Tryz.func69 rfl Tryz.ntmps69 (by simp) (yae rfl (h) (yae rfl (ht) yao)) ?_
 intro a0 S0
 refine wq [.new (.box 38 (SF [(Is (gx)),(PI gy (Mv nL L K))])),V (Is (.pointer none))] [.inl 0] [.inr 1] S0 ?_ ?_
 ·exact jj2 (bxA wA (oS 0 0) (yf5 yei)) mC
 intro _ a1 _ (S1:Zt [_] [_])
 refine wq [V (QV nT ts Kt),Fw (TWO (VN nT (tlL ts (cmN ts nT))) (ZN (((cmN ts nT:Nat):Int)))) w,Fw (TWO (VN nT (tlL ts (cmN ts nT))) (ZN (((cmN ts nT:Nat):Int)))) w,Fw (VN nT (tlL ts (cmN ts nT))) w,Fw (ZN (((cmN ts nT:Nat):Int))) w,.new (.box 24 zI),Fw (VN nT (tlL ts (cmN ts nT))) w,.put (.inr 5) (.box 24 ((ZN (((cmN ts nT:Nat):Int))) w.heap.size))] [.inr 0,.inl 5] [.inl 6,.inr 0] S1 ?_ ?_
 ·repeat' refine And.intro ?_ ?_
  ·trivial
  ·exact mS 0 1
  ·exact ch1 wA (qO 0 8 rfl) (ya5 fresh_vn (yah _)) (fun w u h=>yy8 w u nT Kt ts h hT hKt lt ok hS)
  ·exact mO 1 9
  ·exact e20 wA (oO 2 7)
  ·exact e21 wA (oO 2 7)
  ·exact nwA wA yar
  ·exact mO 3 10
  ·exact puA 5 wA (oO 4 11) yad ya9 yai
 intro _ a2 _ (S2:Zt [_,_] [_,_])
 refine wp_seq ?_
 refine wq [V (QV nT ts Kt),V (iV (nT:Nat)),kF] ur2 [.inl 2,.inr 0] S2 ?_ ?_
 ·exact jj3 (mS 1 1) (lnA wA (oO 0 12) Tryz.underlying39) (ycd wA (oO 1 13) (yaa _))
 intro B3 a3 W3 (S3:Zt [_,_] [_,_])
 refine wp_cond_false (S3.bool 0 14 rfl) (wp_skip (thenN ?_))
 replace S3:Sta w 24 [(2,(.box 38 (SF [(Is (gx)),(Is (gy))]))),(6,(.box 24 ((ZN (((cmN ts nT:Nat):Int))) w.heap.size)))] [(14,bF),(5,((VN nT (tlL ts (cmN ts nT))) w.heap.size))] B3 a3 W3:=S3.reboxS 0 rfl (yys (fun v w h=>h) yn1)
 refine wq [V (SF [(Is (gx)),(Is (gy))]),Fw (VN nT (tlL ts (cmN ts nT))) w,Fw (ZN (((cmN ts nT:Nat):Int))) w,V (AM (Is (gx)) (Is (gy)) ((VN nT (tlL ts (cmN ts nT))) w.heap.size) ((ZN (((cmN ts nT:Nat):Int))) w.heap.size)),V (fun v W=>AtE 5 (AM (Is gx) (Is gy) (VN nT (tlL ts (cmN ts nT)) w.heap.size) (ZN (((cmN ts nT:Nat):Int)) w.heap.size)) v W/\∀ b k,v=.pointer (some ⟨b,k,none⟩)->w.heap.size<=b),V (fun v W=>AtE 5 (AM (Is gx) (Is gy) (VN nT (tlL ts (cmN ts nT)) w.heap.size) (ZN (((cmN ts nT:Nat):Int)) w.heap.size)) v W/\∀ b k,v=.pointer (some ⟨b,k,none⟩)->w.heap.size<=b)] [.inr 0] [.inl 5] S3 ?_ ?_
 ·exact jj6 (loA 0 wA ygh yei) (mS 1 5) (loA 1 wA yad yai) (yib rfl wA rfl (oO 0 19) (oO 1 20) (oO 2 21) (fun v w h=>by obtain ⟨p,c,e⟩:=ymv v w h; exact ⟨_,_,_,e⟩) yai rfl) (ykj rfl wA rfl (oO 3 22) yyx rfl) (mO 4 23)
 intro _ a4 _ (S4:Zt [_] [_])
 refine wp_ret ?_
 exact yav S4 rfl (yay S4 0 4 rfl)
theorem of_H {nD nL nT K Kt K2:Nat}{D:List Int}{L:List (List Int)}{ts:List (Int × Int)}(hL:nL<=1048576)(hT:nT<=1048576)(hKt:Kt<=1048576)(lt:ts.length=nT)(ok:DenOk ts)(hS:dsum ts nT<=4194304)(hTL:nT=0\/nT=nL)(hK2:K<=K2)(hK3:Kt+4194304<=K2)
  (B:Nat->Prop) (w:World) (u v:Value) (hB:∀ k,B k->k < w.heap.size) (h:Has B w (SF [Vv nD D K,Mv nL L K]) u) (hv:Has B w (QV nT ts Kt) v):
  Calls Tryz.prog 69 #[u,v] w fun e w'=>∃ r,e=.returned r/\Below w.heap.size w w'/\Has B w' (APx nD nL nL K2 D L (tauL ts nL) ((cmN ts nT:Nat):Int)) r:=by
 obtain ⟨cs,rfl,c1,c2,c3⟩:=id h.now
 match cs,c1,c2,c3 with
 | ⟨[gx,gy]⟩,_,c2,c3 =>
  have hx:Has B w (Vv nD D K) gx:=fun w' e=>by
   obtain ⟨cs',e1,_,_,h4⟩:=h w' e
   cases e1
   obtain ⟨x,hx,hp⟩:=h4 0 _ rfl
   simp at hx
   subst hx
   exact hp
  have hy:Has B w (Mv nL L K) gy:=fun w' e=>by
   obtain ⟨cs',e1,_,_,h4⟩:=h w' e
   cases e1
   obtain ⟨x,hx,hp⟩:=h4 1 _ rfl
   simp at hx
   subst hx
   exact hp
  have hu:Hs w (SF [Is gx,PI gy (Mv nL L K)]) (.agg #[gx,gy]):=fun w' e=>⟨_,rfl,rfl,c2,fun f q hq=>by
   match f,hq with
   | 0,hq=>simp at hq; subst hq; exact ⟨_,rfl,rfl⟩
   | 1,hq=>simp at hq; subst hq; exact ⟨_,rfl,rfl,hy w' (e.mono (fun _ h=>h.elim))⟩⟩
  have hdt:∀ i,i < ts.length->(digs (ts.getD i (0,0)).1.natAbs).length<=Kt:=fun i hi=>(zd8 hv.now hi).1
  have hcl:(digs ((cmN ts nT:Nat):Int).natAbs).length<=K2:=by rw [zhy]; exact zhb (yj5 ok nT (by omega)) (by omega)
  have htl:Dl (tauL ts nL) K2:=yy3 ok hdt (by rw [lt]; exact hS) hK3
  have fin:∀ e w',Gives (AQ gx gy nL (tauL ts nL) ((cmN ts nT:Nat):Int)) w e w'->∃ r,e=.returned r/\Below w.heap.size w w'/\Has B w' (APx nD nL nL K2 D L (tauL ts nL) ((cmN ts nT:Nat):Int)) r:=by
   rintro e w' ⟨r,rfl,hbl,hr⟩
   refine ⟨r,rfl,hbl,fun w'' e''=>?_⟩
   have ev:Ev B w w'':=(Ev.of_below hbl).back (fun _ _ h=>h) e''
   obtain ⟨⟨b,o,a,e1,h1,h2,x,y,t,p,q,e3,h4,g1,g2,g3,g4⟩,_⟩:=fresh_aq.ev _ _ _ _ B hB hr e''
   have g1':x=gx:=g1
   have g2':y=gy:=g2
   subst g1' g2'
   exact ⟨b,o,a,e1,h1,h2,x,y,t,p,q,e3,h4,yxl hK2 _ _ (hx w'' ev),zai hK2 _ _ (hy w'' ev),yrr htl _ _ g3,ybf hcl _ _ g4⟩
  by_cases h0:nT=0
  ·have key:=of_0 w (.agg #[gx,gy]) v gx gy nL nT K Kt L ts hu hv.hs hL hT hKt lt ok hS h0
   refine key.mono (fun e w' hg=>fin e w' ?_)
   rw [show tauL ts nL=List.replicate nL 0 from if_pos (by omega)]
   exact hg
  ·have key:=of_t w (.agg #[gx,gy]) v gx gy nL nT K Kt L ts hu hv.hs hL hT hKt lt ok hS h0
   refine key.mono (fun e w' hg=>fin e w' ?_)
   have e1:nT=nL:=by omega
   subst e1
   rw [show tauL ts nT=tlL ts (cmN ts nT) from by rw [tauL,if_neg (by omega),lt]]
   exact hg
end Go.Proofs.YtdnindaohpdblaaGreat
