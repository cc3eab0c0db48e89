import Derived.Test.YtdnindaohpdblaaGreatTpA
set_option linter.all false
namespace Go.Proofs.YtdnindaohpdblaaGreat
open Go Go.RowKit Nt
set_option maxRecDepth 20000
set_option maxHeartbeats 16000000
theorem yt0 (w:World)(u v:Value)(nD nL nT m:Nat)(D:List Int)(L:List (List Int))(ts:List (Int × Int))(rn rd:Int)(x:List Int)(h:Hs w (TR (Vv nD D 1048576) (Mv nL L 1048576) (QV nT ts 1048576) (PR (Zv rn 1048576) (Zv rd 1048576))) u)(hv:Hs w (Vv m x 1048576) v)(hD:nD<=1048576)(hL:nL<=1048576)(hT:nT<=1048576)(hm0:m<=1048576)(lD:D.length=nD)(lL:L.length=nL)(lT:ts.length=nT)(lx:x.length=m)
  (A S Kx Kd:Nat) (J:Kx+m+(A+S)+Kd+3<=1048577) (dx:Dl x Kx) (dD:Dl D Kd) (dL:Mdl L Kd) (hnum:∀ i,i < ts.length->(digs (ts.getD i (0,0)).1.natAbs).length<=A) (hds:dsum ts ts.length<=S) (hwt:wtD D (nL+1)<=Kd):
  CG 4 #[u,v] w (IS (.bool true)):=by
 have c1:(1048576:Nat)<=1048576:=zha _
 rcases yxe D L ts rn rd with g | tg
 rotate_left
 ·exact tp_b w u nD nL nT 1048576 D L ts rn rd h hD hL hT c1 lD lL lT tg v m 1048576 x hv hm0
 rcases zi0 nL m with hc | hml
 ·exact tp_a w u nD nL nT 1048576 D L ts rn rd h hD hL hT c1 lD lL lT g v m 1048576 x hv hm0 hc
 have hgl:=g.g.len
 have ok:DenOk ts:=g.t
 have hq:=g.len
 have hnL:nL=L.length:=lL.symm
 have hdn0:cmN ts nT≠0:=zcc ok nT (by omega)
 have hdl:(digs (cmN ts nT)).length<=S:=by rw [← lT]; exact zhb (yj5 ok _ (zha _)) hds
 have dτ:Dl (tauL ts nL) (A+S):=yy3 ok hnum hds (zha _)
 have bτ:Dl (tauL ts nL) 2097152:=fun i z hz=>zhb (dτ i z hz) (by omega)
 have tok:TauOk ts (tauL ts nL) (cmN ts nT):=by rw [← lT]; exact zex ok
 have hdz:(digs ((cmN ts nT:Nat):Int).natAbs).length<=S:=by rw [zhy]; exact hdl
 have hdp:0 < ((cmN ts nT:Nat):Int):=by omega
 have hsx:Dl (shL x ((cmN ts nT:Nat):Int) (tauL ts nL) nL m) (Kx+(A+S)+1):=yyw dx dτ (by omega) m
 have hwt0:wtD D nL<=wtD D (nL+1):=by rw [yvh]; omega
 have hS:=zcs (m:=m) (sh:=shL x ((cmN ts nT:Nat):Int) (tauL ts nL) nL m) g.g hnL (by omega) dD dL hsx (W:=1048576) (by omega)
 have hN:∀ k,k<=m->(digs (fS D (shL x ((cmN ts nT:Nat):Int) (tauL ts nL) nL m) L nL k).1.natAbs).length<=5242890:=fun k hk=>by have:=(hS k hk).2; omega
 have hR:∀ k,k<=m->(digs (fS D (shL x ((cmN ts nT:Nat):Int) (tauL ts nL) nL m) L nL k).2.natAbs).length<=1048577:=fun k hk=>by have:=(hS k hk).1; omega
 have hN6:∀ k,k<=m->(digs (fS D (shL x ((cmN ts nT:Nat):Int) (tauL ts nL) nL m) L nL k).1.natAbs).length<=67108864:=fun k hk=>zhb (hN k hk) (by omega)
 have hR6:∀ k,k<=m->(digs (fS D (shL x ((cmN ts nT:Nat):Int) (tauL ts nL) nL m) L nL k).2.natAbs).length<=67108864:=fun k hk=>zhb (hR k hk) (by omega)
 have pR:=ysn (sh:=shL x ((cmN ts nT:Nat):Int) (tauL ts nL) nL m) g.g hnL m (by omega)
 have pD:∀ i,i<=nL->0 < D.getD i 0:=fun i hi=>g.g.d i (by omega)
 have hdd:0 < ((cmN ts nT:Nat):Int)*((cmN ts nT:Nat):Int):=Int.mul_pos hdp hdp
 have bq0:∀ k,k<=m->(digs (qF D (shL x ((cmN ts nT:Nat):Int) (tauL ts nL) nL m) L nL (cmN ts nT) k)).length<=8388608:=fun k hk=>zhb (zgf hdl (hR k hk) (zfy dD k)) (by omega)
 have bW0:∀ k,k < m->(digs (fW D (shL x ((cmN ts nT:Nat):Int) (tauL ts nL) nL m) L nL k).natAbs).length<=3145820:=fun k hk=>zhb (zct dD dL hsx) (by omega)
 have hsh:∀ j,j < m->(shL x ((cmN ts nT:Nat):Int) (tauL ts nL) nL m).getD j 0=x.getD j 0*((cmN ts nT:Nat):Int)-(tauL ts nL).getD (nL-1-j) 0:=fun j hj=>yqd hj
 obtain ⟨q0,z0,d0⟩:=yyg (Int.mul_pos hdd (Int.mul_pos pR (pD (nL-m) (by omega)))) (k:=8388608) (zhb (yet (yet hdz hdz) (yet (hR m (zha _)) (yb2 dD _))) (by omega))
 have hSs:dsum ts nT<=4194304:=by rw [← lT]; omega
 have hp:=fun w u v h hv=>zg2 w u nD nL nT 1048576 D L ts rn rd h hD hL hT c1 lD lL lT g v m 1048576 x hv lx (by omega) hSs hN6 hR6 hml _ hsx _ q0 z0 (by omega)
 have hdp':∀ (w:World) (u v:Value),Hs w (TR (Vv nD D 1048576) (Mv nL L 1048576) (QV nT ts 1048576) (PR (Zv rn 1048576) (Zv rd 1048576))) u->Hs w (Vv m x 1048576) v->CG 18 #[u,v] w (QQ (fS D (shL x ((cmN ts nT:Nat):Int) (tauL ts nL) nL m) L nL m).1 (((cmN ts nT:Nat):Int)*((cmN ts nT:Nat):Int)*((fS D (shL x ((cmN ts nT:Nat):Int) (tauL ts nL) nL m) L nL m).2*D.getD (nL-m) 0)).toNat):=fun w u v h hv =>
  Gives.cast (zd1 w u nD nL nT 1048576 D L ts rn rd h hD hL hT c1 lD lL lT g (tauL ts nL) (cmN ts nT) hdn0 (by omega) tok bτ m 1048576 x _ v hv lx (by omega) hsh _ (by omega) hsx hml bW0 (fun k hk=>zhb (hN k hk) (by omega)) bq0) (zav g.g hnL hdn0 (by omega) q0 z0)
 obtain ⟨rdn,erd⟩:∃ n:Nat,rd=(n:Int):=⟨rd.toNat,by have:=g.rd; omega⟩
 have hr0:rdn≠0:=by have:=g.rd; omega
 have bN8:(digs (fS D (shL x ((cmN ts nT:Nat):Int) (tauL ts nL) nL m) L nL m).1.natAbs).length<=8388608:=zhb (hN m (zha _)) (by omega)
 have hin:(fS D (shL x ((cmN ts nT:Nat):Int) (tauL ts nL) nL m) L nL m).1*(rdn:Int)<=rn*(((((cmN ts nT:Nat):Int)*((cmN ts nT:Nat):Int)*((fS D (shL x ((cmN ts nT:Nat):Int) (tauL ts nL) nL m) L nL m).2*D.getD (nL-m) 0)).toNat:Nat):Int)\/rn*(((((cmN ts nT:Nat):Int)*((cmN ts nT:Nat):Int)*((fS D (shL x ((cmN ts nT:Nat):Int) (tauL ts nL) nL m) L nL m).2*D.getD (nL-m) 0)).toNat:Nat):Int) < (fS D (shL x ((cmN ts nT:Nat):Int) (tauL ts nL) nL m) L nL m).1*(rdn:Int):=(Int.lt_or_le _ _).symm
 have hit:=fun hle w u v h hv=>zgv w u nD nL nT 1048576 D L ts rn rd h hD hL hT c1 lD lL lT g v m 1048576 x hv lx (by omega) hSs hN6 hR6 hml _ hsx _ q0 z0 (by omega) bN8 d0 rdn erd hr0 hle
 have hif:=fun hle w u v h hv=>zgu w u nD nL nT 1048576 D L ts rn rd h hD hL hT c1 lD lL lT g v m 1048576 x hv lx (by omega) hSs hN6 hR6 hml _ hsx _ q0 z0 (by omega) bN8 d0 rdn erd hr0 hle
 have hdt:=fun hle w u v h hv=>in_t w u nD nL nT 1048576 D L ts rn rd h hD hL hT c1 lD lL lT m 1048576 x v hv rdn erd hr0 _ _ z0 bN8 d0 hdp' hle
 have hdf:=fun hle w u v h hv=>in_f w u nD nL nT 1048576 D L ts rn rd h hD hL hT c1 lD lL lT m 1048576 x v hv rdn erd hr0 _ _ z0 bN8 d0 hdp' hle
 rcases zi0 m nL with hlt | hge
 rotate_left
 ·rcases hin with hle | hle
  ·exact zg1 w u nD nL nT 1048576 D L ts rn rd h hD hL hT c1 lD lL lT g v m 1048576 x hv hm0 (by omega) _ _ hp hdp' (hit hle) (hdt hle)
  ·exact zg0 w u nD nL nT 1048576 D L ts rn rd h hD hL hT c1 lD lL lT g v m 1048576 x hv hm0 (by omega) _ _ hp hdp' (hif hle) (hdf hle)
 have p1:=pD (nL-1-m+1) (by omega)
 have bD1:(digs (D.getD (nL-1-m+1) 0).natAbs).length<=Kd:=yb2 dD _
 have bB:(digs (fB (shL x ((cmN ts nT:Nat):Int) (tauL ts nL) nL m) L nL m).natAbs).length<=Kx+(A+S)+1+Kd+m:=zcp hsx dL
 have bcn:(digs ((tauL ts nL).getD (nL-1-m) 0*D.getD (nL-1-m+1) 0-fB (shL x ((cmN ts nT:Nat):Int) (tauL ts nL) nL m) L nL m).natAbs).length<=67108864:=zhb (ysj (k:=Kx+(A+S)+1+Kd+m) (zhb (yet (yb2 dτ _) bD1) (by omega)) bB) (by omega)
 obtain ⟨qc,zc,dc⟩:=yyg (Int.mul_pos hdp p1) (k:=8388608) (zhb (yet hdz bD1) (by omega))
 have hc:=fun w u v h hv=>zgt w u nD nL nT 1048576 D L ts rn rd h hD hL hT c1 lD lL lT g v m 1048576 x hv lx (by omega) hSs hN6 hR6 hlt _ hsx (zhb bB (by omega)) _ qc zc (by omega) bcn
 have hdc:∀ (w:World) (u v:Value),Hs w (TR (Vv nD D 1048576) (Mv nL L 1048576) (QV nT ts 1048576) (PR (Zv rn 1048576) (Zv rd 1048576))) u->Hs w (Vv m x 1048576) v->CG 20 #[u,v] w (QQ ((tauL ts nL).getD (nL-1-m) 0*D.getD (nL-1-m+1) 0-fB (shL x ((cmN ts nT:Nat):Int) (tauL ts nL) nL m) L nL m) (((cmN ts nT:Nat):Int)*D.getD (nL-1-m+1) 0).toNat):=fun w u v h hv =>
  Gives.cast (zca w u nD nL nT 1048576 D L ts rn rd h hD hL hT c1 lD lL lT g (tauL ts nL) (cmN ts nT) hdn0 (by omega) tok bτ m 1048576 x _ v hv lx (by omega) hsh _ (by omega) hsx hlt) (by
   obtain ⟨e1,e2⟩:=yqy g.g (i:=nL-1-m+1) (by omega)
   have e3:((cmN ts nT*dN D (nL-1-m+1):Nat):Int)=((cmN ts nT:Nat):Int)*D.getD (nL-1-m+1) 0:=by rw [zho,← e1]
   rw [fB,if_neg (by omega),← e3,zju])
 rcases hin with hle | hle
 ·exact zgz w u nD nL nT 1048576 D L ts rn rd h hD hL hT c1 lD lL lT g v m 1048576 x hv hm0 hlt _ _ hp hdp' (hit hle) (hdt hle) _ _ hc hdc
 ·exact zgy w u nD nL nT 1048576 D L ts rn rd h hD hL hT c1 lD lL lT g v m 1048576 x hv hm0 hlt _ _ hp hdp' (hif hle) (hdf hle) _ _ hc hdc
theorem zbr {W:World}{a b a1 a3 b3:Option Addr}{n c m d n1 c1 n3 c3 m3 d3 k:Nat}{s t:Bool}{es:List El}{rs:List Rw}{rq:List Ra}{xs ys:List Nat}(s0:Ls W a n c es)(z0:Ms W b m d rs)(s1:Qs W a1 n1 c1 rq)(s3:Sl W a3 n3 c3 xs)(z3:Sl W b3 m3 d3 ys)(h1:∀ (i:Nat) (x:El),es[i]? = some x->x.c<=k)(h2:∀ (i:Nat) (r:Rw),rs[i]? = some r->r.c<=k/\∀ (j:Nat) (x:El),r.es[j]? = some x->x.c<=k)(h3:∀ (i:Nat) r,rq[i]? = some r->r.x.n<=k/\r.y.n<=k)(h4:n3<=k)(h5:m3<=k):
  Hs W (TR (Vv n (es.map El.z) k) (Mv m (zz (rs.map Rw.es)) k) (QV n1 (qz rq) k) (PR (Zv (sg s (val xs)) k) (Zv (sg t (val ys)) k))) (.agg #[.slice a n c,.slice b m d,.slice a1 n1 c1,.bool s,.slice a3 n3 c3,.bool t,.slice b3 m3 d3]):=fun w' ev =>
 ⟨_,_,_,_,_,_,_,rfl,by simp [Value.oneCell'],yve (fun i x hx=>by
  obtain ⟨_,_,_,_,_,hs⟩:=s0.lie i x hx
  exact zhb hs.cap (h1 i x hx)) _ w' (ywm s0 w' ev),zdr (ms_n z0 h2).1 _ w' (zdn z0 w' ev),zgi s1 h3 w' ev,⟨_,_,_,_,rfl,⟨_,_,_,_,_,rfl,yj1 s3 (fun b o e2 _ hb=>hb) ev,rfl,h4⟩,⟨_,_,_,_,_,rfl,yj1 z3 (fun b o e2 _ hb=>hb) ev,rfl,h5⟩⟩⟩
theorem yj2 (w:World)(a:Option Addr)(n c:Nat)(es:List El)(b:Option Addr)(m d:Nat)(rs:List Rw)(a1:Option Addr)(n1 c1:Nat)(rq:List Ra)(s:Bool)(a3:Option Addr)(n3 c3:Nat)(xs:List Nat)(t:Bool)(b3:Option Addr)(m3 d3:Nat)(ys:List Nat)(a2:Option Addr)(n2 c2:Nat)(fs:List El)(s0:Ls w a n c es)(z0:Ms w b m d rs)(s1:Qs w a1 n1 c1 rq)(s3:Sl w a3 n3 c3 xs)(z3:Sl w b3 m3 d3 ys)(s2:Ls w a2 n2 c2 fs)(B0 B1 B2 B3 B4 B5:Nat)(t0:(es.map (fun e=>e.c+1)).sum<=B0)(y0:d<=B1)(yy0:∀ (i:Nat) (r:Rw),rs[i]? = some r->r.c<=B1/\∀ (j:Nat) (e:El),r.es[j]? = some e->e.c<=B1)(t1:(rq.map (fun r=>r.x.c+r.y.c+1)).sum<=B2)(t2:(fs.map (fun e=>e.c+1)).sum<=B3)(u3:c3<=B4)(v3:d3<=B5)(hB:B0+B1+B2+B3+B4+B5+3<=1048576):
  Calls Tryz.prog 4 #[.agg #[.slice a n c,.slice b m d,.slice a1 n1 c1,.bool s,.slice a3 n3 c3,.bool t,.slice b3 m3 d3],.slice a2 n2 c2] w fun e w'=>e=.returned (.bool true)/\Below w.heap.size w w':=by
 have l0:=s0.len
 have l2:=s2.len
 have q0:=ys5 es
 have q2:=ys5 fs
 have q3:=z0.cap
 have q4:=z0.len
 have q5:=s3.cap
 have q6:=z3.cap
 have hl1:=s1.len
 have h1:=zbm rq
 obtain ⟨m1,_,_,_⟩:=zcd s1 (by omega)
 have h2:=yiz s1 n1 (zha _)
 rw [zhg (by omega)] at h2
 have ecap:∀ (i:Nat) (e:El),es[i]? = some e->e.n<=e.c/\e.c<=B0:=fun i e he=>by
  obtain ⟨_,_,_,_,_,hs⟩:=s0.lie i e he
  have:=hs.cap
  have:=ytq he
  omega
 have fcap:∀ (i:Nat) (e:El),fs[i]? = some e->e.n<=e.c/\e.c+n2<=B3:=fun i e he=>by
  obtain ⟨_,_,_,_,_,hs⟩:=s2.lie i e he
  have:=hs.cap
  have:=ytq he
  omega
 have qcap:∀ (i:Nat) (r:Ra),rq[i]? = some r->(r.x.n<=r.x.c/\r.x.c<=(rq.map (fun r=>r.x.c)).sum)/\r.y.n<=r.y.c/\r.y.c<=(rq.map (fun r=>r.y.c)).sum:=fun i r hr=>by
  obtain ⟨b,o,_,_,h5,h6⟩:=s1.lie i r hr
  have h3:r.x.c<=(rq.map (fun r=>r.x.c)).sum:=yhv (fun r:Ra=>r.x.c) hr
  have h4:r.y.c<=(rq.map (fun r=>r.y.c)).sum:=yhv (fun r:Ra=>r.y.c) hr
  exact ⟨⟨h5.cap,h3⟩,h6.cap,h4⟩
 obtain ⟨e1,e2,e3⟩:=ms_n z0 (k:=B1) yy0
 have dD:Dl (es.map El.z) (B0+B1):=yie (yve (fun i x hx=>by have:=ecap i x hx; omega) _ w (ywm s0).now)
 have dL:Mdl (zz (rs.map Rw.es)) (B0+B1):=by
  have hb:Hs w (Mv m (zz (rs.map Rw.es)) B1) (.slice b m d):=fun w' ev=>zdr e1 _ w' (zdn z0 w' ev)
  intro i zs hz
  obtain ⟨r,hr⟩:=zdq hb.now hz
  exact fun j z hj=>zhb (yie hr j z hj) (by omega)
 have hw:wtD (es.map El.z) (m+1)<=B0+B1:=by
  have h1:=yvi (D:=es.map El.z) (l:=es.map (fun e=>e.c+1)) (by simp) (fun i hi=>zfx s0 i (by simpa using hi)) (m+1)
  have h2:=yxb (es.map (fun e=>e.c+1)) (m+1)
  omega
 have dx:Dl (fs.map El.z) (B3-n2):=yie (yve (fun i x hx=>by have:=fcap i x hx; omega) _ w (ywm s2).now)
 have hv:Hs w (Vv n2 (fs.map El.z) 1048576) (.slice a2 n2 c2):=fun w' ev=>yve (fun i x hx=>by have:=fcap i x hx; omega) _ w' (ywm s2 w' ev)
 have hu:=zbr (k:=1048576) (s:=s) (t:=t) s0 z0 s1 s3 z3 (fun i e he=>by have:=ecap i e he; omega) (fun i r hr=>⟨by have:=(yy0 i r hr).1; omega,fun j e he=>by have:=(yy0 i r hr).2 j e he; omega⟩) (fun i r hr=>by have:=qcap i r hr; omega) (by omega) (by omega)
 have key:=yt0 w _ _ n m n1 n2 (es.map El.z) (zz (rs.map Rw.es)) (qz rq) (sg s (val xs)) (sg t (val ys)) (fs.map El.z) hu hv (by omega) (by omega) m1 (by omega) (by simpa using l0) (by simpa [zz] using q4) (by simpa using hl1) (by simpa using l2)
  ((rq.map (fun r=>r.x.c)).sum) (1+(rq.map (fun r=>r.y.c)).sum) (B3-n2) (B0+B1) (by omega) dx dD dL (fun k hk=>?_) (by simpa [hl1] using h2) hw
 ·refine key.mono ?_
  rintro e w' ⟨v,rfl,hb,hv⟩
  obtain rfl:v=_:=hv
  exact ⟨rfl,hb⟩
 ·have hk':k < rq.length:=by simpa using hk
  have hr:rq[k]? = some (rq[k]'hk'):=zhj _
  generalize rq[k]'hk'=r at hr
  obtain ⟨b,o,_,_,h5,h6⟩:=s1.lie k r hr
  have h7:(digs (r.x.z).natAbs).length<=r.x.n:=yj0 h5
  have:=qcap k r hr
  rw [yt9 hr]
  show (digs (r.x.z).natAbs).length<=_
  omega
end Go.Proofs.YtdnindaohpdblaaGreat
