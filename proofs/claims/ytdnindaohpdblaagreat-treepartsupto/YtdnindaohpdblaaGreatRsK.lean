import Derived.Test.YtdnindaohpdblaaGreatSetR
import Derived.Test.YtdnindaohpdblaaGreatRsJ
import Derived.Test.YtdnindaohpdblaaGreatSetG
set_option linter.all false
namespace Go.Proofs.YtdnindaohpdblaaGreat
open Go Go.RowKit Nt
set_option maxRecDepth 20000
set_option maxHeartbeats 16000000
theorem ymc {lo:Nat}:∀ v w,IS (.agg #[.bool false,.slice none 0 0]) lo v w->ZN 0 lo v w:=fun v w e=>⟨none,0,e,Sl.none w,fun b o h=>nomatch h⟩
def PR (φ ψ:Pr):Pr:=fun v w=>∃ x0 x1 y0 y1,v=.agg #[x0,x1,y0,y1]/\φ (.agg #[x0,x1]) w/\ψ (.agg #[y0,y1]) w
def PRF (φ ψ:Nat->Pr):Nat->Pr:=fun lo=>PR (φ lo) (ψ lo)
def RN (N:Int)(D:Nat):Nat->Pr:=PRF (ZN N) (ZN (D:Int))
theorem yfc {φ ψ:Nat->Pr}(h:Fresh φ)(h':Fresh ψ):Fresh (PRF φ ψ):=
 ⟨fun lo lo' v w hl ⟨x0,x1,y0,y1,e,a,b⟩=>⟨x0,x1,y0,y1,e,h.mono _ _ _ _ hl a,h'.mono _ _ _ _ hl b⟩,fun lo v w w' B hB ⟨x0,x1,y0,y1,e,a,b⟩ ev=>⟨x0,x1,y0,y1,e,h.ev _ _ _ _ B hB a ev,h'.ev _ _ _ _ B hB b ev⟩⟩
theorem ydx (N:Int)(D:Nat):Fresh (RN N D):=yfc (yah _) (yah _)
theorem yic {φ ψ φ' ψ':Pr}(h:∀ v w,φ v w->φ' v w)(h':∀ v w,ψ v w->ψ' v w):∀ v w,PR φ ψ v w->PR φ' ψ' v w:=
 fun v w ⟨x0,x1,y0,y1,e,a,b⟩=>⟨x0,x1,y0,y1,e,h _ _ a,h' _ _ b⟩
theorem yzg {A:Int}{k:Nat}{u:Value}{w:World}(h:Zv A k u w):Has (fun _=>False) w (Zv A k) u:=fun w' e=>by
 obtain ⟨s,p,n,c,xs,rfl,hs,hA,hn⟩:=h
 exact ⟨s,p,n,c,xs,rfl,yj1 hs (fun _ _ _ _ h=>h) e,hA,hn⟩
theorem zd3 {φ ψ:Pr}{u:Value}{w:World}(h:PR φ ψ u w)(h1:∀ v,φ v w->Has (fun _=>False) w φ v)(h2:∀ v,ψ v w->Has (fun _=>False) w ψ v):Has (fun _=>False) w (PR φ ψ) u:=fun w' e=>by
 obtain ⟨x0,x1,y0,y1,rfl,a,b⟩:=h
 exact ⟨x0,x1,y0,y1,rfl,h1 _ a w' e,h2 _ b w' e⟩
abbrev Rv (A:Int)(D:Int)(k k':Nat):Pr:=PR (Zv A k) (Zv D k')
theorem yp9 {A D:Int}{k k':Nat}{u:Value}{w:World}(h:Rv A D k k' u w):Has (fun _=>False) w (Rv A D k k') u:=zd3 h (fun _=>yzg) (fun _=>yzg)
theorem zed {N:Int}{D lo k k':Nat}(h:(digs N.natAbs).length<=k)(h':(digs D).length<=k'):∀ v w,RN N D lo v w->Rv N (D:Int) k k' v w:=
 yic (ybf h) (ybf (by rw [zhy]; exact h'))
theorem yvq {A:Int}{k k':Nat}(hk:k<=k'):∀ v w,Zv A k v w->Zv A k' v w:=fun v w ⟨s,p,n,c,xs,e,h,hA,hn⟩=>⟨s,p,n,c,xs,e,h,hA,zhb hn hk⟩
theorem ymd:∀ v w,Is (.agg #[.bool false,.slice none 0 0]) v w->Zv 0 0 v w:=fun v w e=>⟨false,none,0,0,[],e,Sl.none w,rfl,zha _⟩
theorem ykm {x0 x1:Value}{φ:Pr}{w:World}(h:Shp 2 φ)(hφ:φ (.agg #[x0,x1]) w):x0.oneCell'=true/\x1.oneCell'=true:=by
 obtain ⟨cs,e,_,h1⟩:=h _ w hφ
 simp only [Value.agg.injEq] at e
 subst e
 simpa using h1
theorem ybm {φ ψ:Pr}(h:Shp 2 φ)(h':Shp 2 ψ):Shp 4 (PR φ ψ):=fun u w ⟨x0,x1,y0,y1,e,a,b⟩=>by
 have h1:=ykm h a
 have h2:=ykm h' b
 exact ⟨_,e,rfl,by simp [h1,h2]⟩
theorem ybk:Shp 4 zR:=fun u w e=>⟨_,e,rfl,by simp [Value.oneCell']⟩
theorem yaj:Strct 26 4:=⟨⟨_,Tryz.underlying26,rfl⟩,by kernel_rfl⟩
theorem ykq {φ:Pr}(h:Shp 4 φ){u:Value}{w:World}(hφ:φ u w):∃ x y z v,u=.agg #[x,y,z,v]:=by
 obtain ⟨cs,rfl,hn,_⟩:=h u w hφ
 obtain ⟨l⟩:=cs
 match l,hn with
 | [x,y,z,v],_=>exact ⟨x,y,z,v,rfl⟩
theorem ya3 (ρ:Operand->Value)(o:Oper)(w:World):(execOp ρ { o with op:=.alloc 26 }).run Tryz.prog w=.ok (.value (.pointer (some ⟨w.heap.size,0,none⟩))) (w.alloc (.cells (Value.agg #[.bool false,.slice none 0 0,.bool false,.slice none 0 0]).cells 26 (0,0))):=by
 unfold execOp
 go_simp
theorem yfq {φ:Pr}(h:Shp 4 φ)(ρ:Operand->Value)(o:Oper)(x:Operand)(w:World)(hφ:φ (ρ x) w):(execOp ρ { o with op:=.box 26 x }).run Tryz.prog w=.ok (.value (.pointer (some ⟨w.heap.size,0,none⟩))) (w.alloc (.cells (ρ x).cells 26 (0,0))):=by
 obtain ⟨y,z,u,v,e⟩:=ykq h hφ
 clear hφ h
 rw [e]
 unfold execOp
 go_simp
theorem yca (ρ:Operand->Value)(o:Oper)(x:Operand)(w:World)(b f:Nat)(h:ρ x=.pointer (some ⟨b,f,none⟩)):(execOp ρ { o with op:=.fieldAddr 26 x 0 }).run Tryz.prog w=.ok (.value (.pointer (some ⟨b,f,none⟩))) w:=by
 unfold execOp
 go_simp
theorem ycg (ρ:Operand->Value)(o:Oper)(x:Operand)(w:World)(b f:Nat)(h:ρ x=.pointer (some ⟨b,f,none⟩)):(execOp ρ { o with op:=.fieldAddr 26 x 1 }).run Tryz.prog w=.ok (.value (.pointer (some ⟨b,f+2,none⟩))) w:=by
 unfold execOp
 go_simp
theorem ylc {ρ:Operand->Value}{o:Oper}{x:Operand}{w:World}{b off:Nat}{x0 x1:Value}(hx:ρ x=.pointer (some ⟨b,off,none⟩))(h0:w.cell? ⟨b,off,none⟩=some x0)(h1:w.cell? ⟨b,off+1,none⟩=some x1):
  (execOp ρ { o with op:=.load 24 x }).run Tryz.prog w=.ok (.value (.agg #[x0,x1])) w:=by
 obtain ⟨⟨d,hu,hd⟩,hi⟩:=yad
 unfold execOp
 simp only [hx,Sem.run_bind,run_loadAt_mid (P:=Tryz.prog) w b off 24 [x0,x1] d (fun j v hv=>by
  match j,hv with
  | 0,hv=>simp only [zil,Option.some.injEq] at hv; subst hv; exact h0
  | 1,hv=>simp only [zjd,zil,Option.some.injEq] at hv; subst hv; exact h1
  | j+2,hv=>simp at hv) hu hd (by rw [hi]; rfl),Result.andThen_ok,Sem.run_pure]
theorem ybl {w:World}{b i:Nat}{cs:Array Value}{T:TypeId}(h:w.heap[b]? = some (.cells cs T (0,0))):w.cell? ⟨b,i,none⟩=cs[i]?:=by simp [World.cell?,h]
theorem ydo {φ ψ:Pr}(ρ:Operand->Value)(o:Oper)(x:Operand)(w:World)(b:Nat)(u:Value)(hφ:PR φ ψ u w)(hx:ρ x=.pointer (some ⟨b,0,none⟩))(hb:w.heap[b]? = some (.cells u.cells 26 (0,0))):
  ∃ v,(execOp ρ { o with op:=.load 24 x }).run Tryz.prog w=.ok (.value v) w/\∀ w',PR φ ψ u w'->φ v w':=by
 obtain ⟨x0,x1,y0,y1,rfl,a,b'⟩:=hφ
 refine ⟨.agg #[x0,x1],ylc hx ((ybl hb).trans rfl) ((ybl hb).trans rfl),fun w' h'=>?_⟩
 obtain ⟨a0,a1,b0,b1,e,ha,_⟩:=h'
 simp at e
 rw [e.1,e.2.1]
 exact ha
theorem ycj {φ ψ:Pr}(ρ:Operand->Value)(o:Oper)(x:Operand)(w:World)(b:Nat)(u:Value)(hφ:PR φ ψ u w)(hx:ρ x=.pointer (some ⟨b,2,none⟩))(hb:w.heap[b]? = some (.cells u.cells 26 (0,0))):
  ∃ v,(execOp ρ { o with op:=.load 24 x }).run Tryz.prog w=.ok (.value v) w/\∀ w',PR φ ψ u w'->ψ v w':=by
 obtain ⟨x0,x1,y0,y1,rfl,a,b'⟩:=hφ
 refine ⟨.agg #[y0,y1],ylc hx ((ybl hb).trans rfl) ((ybl hb).trans rfl),fun w' h'=>?_⟩
 obtain ⟨a0,a1,b0,b1,e,_,ha⟩:=h'
 simp at e
 rw [e.2.2.1,e.2.2.2]
 exact ha
section
variable {ops:Array Oper} {l:List Kd} {bx:Bxs} {sl:List (Tmp × Pr)} {i:Nat} {o:Oper} {Q:Exit->Act->World->Prop} {a0:Act} {n:Nat} {w0:World}
theorem yhw {x y:Operand}{φ ψ:Pr}(ho:ops[i]? = some o)(hw:Wants ops l bx sl i o)(hop:o.op=.build 26 #[(0,x),(1,y)])(hx:Opnd ops l bx sl i x φ)(hy:Opnd ops l bx sl i y ψ)(hφ:Shp 2 φ)(hψ:Shp 2 ψ)(hk:kdAt l i=.val (PR φ ψ)):Owed Tryz.prog ops Q l bx sl a0 n w0 i:=
 ycs ho hw hk fun vs B a w c=>by
  have h1:=hx a0 n w0 vs B a w c
  have h2:=hy a0 n w0 vs B a w c
  obtain ⟨x0,x1,e1⟩:=yhy hφ h1.now
  obtain ⟨y0,y1,e2⟩:=yhy hψ h2.now
  refine ⟨.agg #[x0,x1,y0,y1],?_,fun w' e'=>⟨x0,x1,y0,y1,rfl,e1 ▸ h1 w' e',e2 ▸ h2 w' e'⟩⟩
  unfold execOp
  rw [hop]
  clear h1 h2 hx hy
  generalize a.eval=ρ at e1 e2
  go_simp
theorem ycr (ho:ops[i]? = some o)(hw:Wants ops l bx sl i o)(hop:o.op=.build 26 #[])(hk:kdAt l i=.val zR):Owed Tryz.prog ops Q l bx sl a0 n w0 i:=
 ym5 ho hw hk fun vs B a w c=>by
  unfold execOp
  rw [hop]
  generalize a.eval=ρ
  go_simp
def RL1 (φ:Pr)(lo:Nat):Pr:=fun v w=>∃ g x0 x1 y0 y1,v=.slice (some ⟨g,0,none⟩) 1 1/\lo<=g/\w.heap[g]? = some (.cells #[x0,x1,y0,y1] 26 (0,0))/\φ (.agg #[x0,x1,y0,y1]) w
theorem zao {x:Operand}{φ:Pr}(ho:ops[i]? = some o)(hw:Wants ops l bx sl i o)(hop:o.op=.buildSlice 39 1 #[(0,x)])(hx:Opnd ops l bx sl i x φ)(hφ:Shp 4 φ)(hk:kdAt l i=.val (RL1 φ w0.heap.size)):Owed Tryz.prog ops Q l bx sl a0 n w0 i:=
 yfw ho hw hk fun vs B a w c=>by
  have h1:=hx a0 n w0 vs B a w c
  obtain ⟨x0,x1,y0,y1,e1⟩:=ykq hφ h1.now
  have hb:Below w.heap.size w (w.alloc (.cells #[x0,x1,y0,y1] 26)):=(Below.refl _ _).alloc (zha _) _
  refine ⟨.slice (some ⟨w.heap.size,0,none⟩) 1 1,w.alloc (.cells #[x0,x1,y0,y1] 26),?_,hb,fun w' e'=>⟨w.heap.size,x0,x1,y0,y1,rfl,c.lo,?_,?_⟩⟩
  ·unfold execOp
   rw [hop]
   clear h1 hx
   generalize a.eval=ρ at e1
   go_simp
  ·exact (e'.block w.heap.size (by simp) (fun hB=>by have:=(c.bnd _ hB).2; omega)).trans (heap_alloc_last _ _)
  ·rw [← e1]
   exact h1 w' ((Ev.of_below hb).back (fun _ _ h=>h) e')
end
theorem ygk {t:Bool}{ys:List Nat}{D:Nat}(e:sg t (val ys)=(D:Int))(hD:D≠0):t=false/\val ys=D:=by
 cases t
 ·simp only [sg,zj5,if_false] at e
  exact ⟨rfl,by omega⟩
 ·simp only [sg,if_true] at e
  omega
theorem ygr {w:World}{A:Int}{D k k' f:Nat}{args:Array Value}(h:Calls Tryz.prog f args w (Rt w A D k k')):CG f args w (RN A D):=by
 refine h.mono ?_
 rintro e w' ⟨b1,L1,D1,r1,k1,L2,r2,k2,rfl,hb,s1,s2,hN,hL1,hL2,f1,f2⟩
 have hl:=s2.out.len
 refine ⟨_,rfl,hb,_,_,_,_,rfl,yrf hN.out s1.out f1.out,yrf ⟨?_,?_,?_⟩ s2.out f2.out⟩
 ·unfold ng; simp
 ·rw [zhy]
 ·exact hl
theorem yuu {w:World}{A:Int}{D k k' f:Nat}{args:Array Value}(h:Calls Tryz.prog f args w (RtE w A D k k')):CG f args w (TWO (RN A D) (IS (.int .i64 0))):=by
 refine h.mono ?_
 rintro e w' ⟨b1,L1,D1,r1,k1,L2,r2,k2,rfl,hb,s1,s2,hN,hL1,hL2,f1,f2⟩
 have hl:=s2.len
 refine ⟨_,rfl,hb,_,_,rfl,⟨_,_,_,_,rfl,yrf hN s1 f1.out,yrf ⟨?_,?_,?_⟩ s2 f2.out⟩,rfl⟩
 ·unfold ng; simp
 ·rw [zhy]
 ·exact hl
theorem zc4 {A:Int}{k:Nat}(hk:k<=70368744177664):∀ w u,Zv A k u w->CG 73 #[u] w (ZN (-A)):=by
 rintro w u ⟨s,p,n,c,xs,rfl,h,rfl,hn⟩
 refine (zff w s p n c xs h (by omega)).mono ?_
 rintro e w' ⟨r,cr,rfl,Z⟩
 exact ye6 Z
theorem zc5 {A:Int}{k:Nat}(hk:k<=70368744177664):∀ w u,Zv A k u w->CG 43 #[u] w (IS (.int .i64 A.sign)):=by
 rintro w u ⟨s,p,n,c,xs,rfl,h,rfl,hn⟩
 refine (ygj w s p n c xs h (by omega)).mono ?_
 rintro e w' ⟨rfl,hb⟩
 exact ⟨_,rfl,hb,rfl⟩
theorem ymr {A:Int}{D k k':Nat}(hD:D≠0)(hk:k<=67108864)(hk':k'<=67108864):∀ w u v,Zv A k u w->Zv (D:Int) k' v w->CG 38 #[u,v] w (TWO (RN (nR A D) (dR A D)) (IS (.int .i64 0))):=by
 rintro w u v ⟨s,p,n,c,xs,rfl,h,rfl,hn⟩ ⟨t,q,m,d,ys,rfl,h',eD,hm⟩
 obtain ⟨rfl,rfl⟩:=ygk eD hD
 rw [yth,yse]
 exact yuu (yoi w s p q n c m d xs ys h h' hD (by omega) (by omega))
theorem ysr {A:Int}{k:Nat}(hk:k<=67108864):∀ w u,Zv A k u w->CG 55 #[u] w (RN A 1):=by
 rintro w u ⟨s,p,n,c,xs,rfl,h,rfl,hn⟩
 exact ygr (zax w s p n c xs h (by omega))
theorem ywd {A D:Int}{k k' lo:Nat}(hk:k'<=67108864):∀ w u,RL1 (Rv A D k k') lo u w->CG 75 #[u] w (IS (.bool (decide (0 < D.sign)))):=by
 rintro w u ⟨g,x0,x1,y0,y1,rfl,_,hg,a0,a1,b0,b1,e,⟨s,p,n,c,xs,ea,h,rfl,hn⟩,⟨t,q,m,d,ys,eb,h',rfl,hm⟩⟩
 simp at e ea eb
 obtain ⟨rfl,rfl,rfl,rfl⟩:=e
 obtain ⟨rfl,rfl⟩:=ea
 obtain ⟨rfl,rfl⟩:=eb
 refine (mayBe1 w g s p n c t q m d ys hg h' (by omega) _ rfl).mono ?_
 rintro e w' ⟨rfl,hb⟩
 exact ⟨_,rfl,hb,rfl⟩
theorem za1 {φ φ':Pr}{lo:Nat}(h:∀ v w,φ v w->φ' v w):∀ v w,RL1 φ lo v w->RL1 φ' lo v w:=fun v w ⟨g,x0,x1,y0,y1,e,hl,hg,a⟩=>⟨g,x0,x1,y0,y1,e,hl,hg,h _ _ a⟩
theorem yk8 {A N:Int}{D M k1 k2 k3 k4:Nat}(hD:D≠0)(hM:M≠0)(b1:k1<=8388608)(b2:k2<=8388608)(b3:k3<=8388608)(b4:k4<=8388608):∀ w u v,Rv A (D:Int) k1 k2 u w->Rv N (M:Int) k3 k4 v w->CG 40 #[u,v] w (TWO (IS (.int .i64 (A*(M:Int)-N*(D:Int)).sign)) (IS (.int .i64 0))):=by
 rintro w u v ⟨x0,x1,y0,y1,rfl,⟨s,p,n,c,xs,ea,h,rfl,hn⟩,⟨t,q,m,d,ys,eb,h',eD,hm⟩⟩ ⟨z0,z1,u0,u1,rfl,⟨s',p',n',c',xs',ea',h2,rfl,hn'⟩,⟨t',q',m',d',ys',eb',h2',eM,hm'⟩⟩
 simp at ea eb ea' eb'
 obtain ⟨rfl,rfl⟩:=ea
 obtain ⟨rfl,rfl⟩:=eb
 obtain ⟨rfl,rfl⟩:=ea'
 obtain ⟨rfl,rfl⟩:=eb'
 obtain ⟨rfl,rfl⟩:=ygk eD hD
 obtain ⟨rfl,rfl⟩:=ygk eM hM
 refine (yub w s p n c xs q m d s' p' n' c' xs' q' m' d' ys ys' h h2 h' h2' hD hM (by omega) (by omega) (by omega) (by omega)).mono ?_
 rintro e w' ⟨rfl,hb⟩
 exact ⟨_,rfl,hb,_,_,rfl,rfl,rfl⟩
theorem yz2 {A N:Int}{D M k1 k2 k3 k4:Nat}(hD:D≠0)(hM:M≠0)(b1:k1<=8388608)(b2:k2<=8388608)(b3:k3<=8388608)(b4:k4<=8388608):∀ w u v,Rv A (D:Int) k1 k2 u w->Rv N (M:Int) k3 k4 v w->CG 44 #[u,v] w (RN (nR (A*(M:Int)+N*(D:Int)) (D*M)) (dR (A*(M:Int)+N*(D:Int)) (D*M))):=by
 rintro w u v ⟨x0,x1,y0,y1,rfl,⟨s,p,n,c,xs,ea,h,rfl,hn⟩,⟨t,q,m,d,ys,eb,h',eD,hm⟩⟩ ⟨z0,z1,u0,u1,rfl,⟨s',p',n',c',xs',ea',h2,rfl,hn'⟩,⟨t',q',m',d',ys',eb',h2',eM,hm'⟩⟩
 simp at ea eb ea' eb'
 obtain ⟨rfl,rfl⟩:=ea
 obtain ⟨rfl,rfl⟩:=eb
 obtain ⟨rfl,rfl⟩:=ea'
 obtain ⟨rfl,rfl⟩:=eb'
 obtain ⟨rfl,rfl⟩:=ygk eD hD
 obtain ⟨rfl,rfl⟩:=ygk eM hM
 exact ygr (yur w s p n c xs q m d ys s' p' n' c' xs' q' m' d' ys' h h' h2 h2' hD hM _ _ rfl rfl (by omega) (by omega) (by omega) (by omega))
theorem yz3 {A N:Int}{D M k1 k2 k3 k4:Nat}(hD:D≠0)(hM:M≠0)(b1:k1<=8388608)(b2:k2<=8388608)(b3:k3<=8388608)(b4:k4<=8388608):∀ w u v,Rv A (D:Int) k1 k2 u w->Rv N (M:Int) k3 k4 v w->CG 22 #[u,v] w (RN (nR (A*(dR (-N) M:Nat)+nR (-N) M*(D:Int)) (D*dR (-N) M)) (dR (A*(dR (-N) M:Nat)+nR (-N) M*(D:Int)) (D*dR (-N) M))):=by
 rintro w u v ⟨x0,x1,y0,y1,rfl,⟨s,p,n,c,xs,ea,h,rfl,hn⟩,⟨t,q,m,d,ys,eb,h',eD,hm⟩⟩ ⟨z0,z1,u0,u1,rfl,⟨s',p',n',c',xs',ea',h2,rfl,hn'⟩,⟨t',q',m',d',ys',eb',h2',eM,hm'⟩⟩
 simp at ea eb ea' eb'
 obtain ⟨rfl,rfl⟩:=ea
 obtain ⟨rfl,rfl⟩:=eb
 obtain ⟨rfl,rfl⟩:=ea'
 obtain ⟨rfl,rfl⟩:=eb'
 obtain ⟨rfl,rfl⟩:=ygk eD hD
 obtain ⟨rfl,rfl⟩:=ygk eM hM
 exact ygr (yus w s p n c xs q m d ys s' p' n' c' xs' q' m' d' ys' h h' h2 h2' hD hM _ _ rfl rfl (by omega) (by omega) (by omega) (by omega))

section
variable {ops:Array Oper} {l:List Kd} {bx:Bxs} {sl:List (Tmp × Pr)} {i:Nat} {o:Oper} {Q:Exit->Act->World->Prop} {a0:Act} {n:Nat} {w0:World}
end
theorem ywx {D:Nat}(h:D≠0):(D:Int).sign=1:=zh7 (by omega)
theorem yia (P:Int)(Y:Nat):nR P Y*(Y:Int)=P*(dR P Y:Int):=by
 have h1:=g_nR P Y
 have h2:=g_dR P Y
 have h3:((Nat.gcd P.natAbs Y:Nat):Int)*(dR P Y:Int)=(Y:Int):=by rw [← zho,h2]
 generalize ((Nat.gcd P.natAbs Y:Nat):Int)=G at h1 h3
 grind
theorem yyf (P:Int)(Y:Nat):(nR P Y).natAbs=P.natAbs / Nat.gcd P.natAbs Y:=by unfold nR; rw [sg_abs]
theorem zds {P:Int}{Y k:Nat}(h:(digs P.natAbs).length<=k):(digs (nR P Y).natAbs).length<=k:=by
 rw [yyf]
 exact zhb (yag (zia _ _)) h
theorem zcf {P:Int}{Y k:Nat}(h:(digs Y).length<=k):(digs (dR P Y)).length<=k:=by
 unfold dR
 exact zhb (yag (zia _ _)) h
theorem yta {P:Int}{Y:Nat}(hY:Y≠0):Nat.gcd (nR P Y).natAbs (dR P Y)=1:=by
 rw [yyf]
 unfold dR
 have hg:0 < Nat.gcd P.natAbs Y:=zkf _ (by omega)
 exact Nat.gcd_div_gcd_div_gcd_of_pos_right (by omega)
theorem yv5 {a b a' b':Nat}(h:a*b'=a'*b)(c:Nat.gcd a b=1)(c':Nat.gcd a' b'=1)(hb:b≠0):b=b':=by
 have h1:b ∣ a*b':=⟨a',by rw [h,zhd]⟩
 have h2:b ∣ b':=Nat.Coprime.dvd_of_dvd_mul_left (Nat.Coprime.symm c) h1
 have h3:b' ∣ a'*b:=⟨a,by rw [← h,zhd]⟩
 have h4:b' ∣ b:=Nat.Coprime.dvd_of_dvd_mul_left (Nat.Coprime.symm c') h3
 exact Nat.dvd_antisymm h2 h4
theorem ytb {P P':Int}{Y Y':Nat}(hY:Y≠0)(hY':Y'≠0)(h:P*(Y':Int)=P'*(Y:Int)):nR P Y=nR P' Y'/\dR P Y=dR P' Y':=by
 have e1:=yia P Y
 have e2:=yia P' Y'
 have hy:(Y:Int)≠0:=by omega
 have hy':(Y':Int)≠0:=by omega
 have k:nR P Y*(dR P' Y':Int)=nR P' Y'*(dR P Y:Int):=by
  have:((Y:Int)*(Y':Int))*(nR P Y*(dR P' Y':Int))=((Y:Int)*(Y':Int))*(nR P' Y'*(dR P Y:Int)):=by
   generalize nR P Y=n at *
   generalize nR P' Y'=n' at *
   generalize (dR P Y:Int)=d at *
   generalize (dR P' Y':Int)=d' at *
   by_cases hP:P=0
   ·have h0:P'=0:=by
     rw [hP,Int.zero_mul] at h
     rcases Int.mul_eq_zero.1 h.symm with h | h
     ·exact h
     ·exact absurd h hy
    have n0:n=0:=by
     rw [hP,Int.zero_mul] at e1
     rcases Int.mul_eq_zero.1 e1 with h | h
     ·exact h
     ·exact absurd h hy
    have n0':n'=0:=by
     rw [h0,Int.zero_mul] at e2
     rcases Int.mul_eq_zero.1 e2 with h | h
     ·exact h
     ·exact absurd h hy'
    rw [n0,n0']
    simp
   ·have:P*((Y:Int)*(Y':Int)*(n*d'))=P*((Y:Int)*(Y':Int)*(n'*d)):=by grind
    exact Int.eq_of_mul_eq_mul_left hP this
  exact Int.eq_of_mul_eq_mul_left (Int.mul_ne_zero hy hy') this
 have ka:(nR P Y).natAbs*dR P' Y'=(nR P' Y').natAbs*dR P Y:=by
  have:=congrArg Int.natAbs k
  simpa [zh3] using this
 have hd:=yv5 ka (yta hY) (yta hY') (yf3 hY)
 refine ⟨?_,hd⟩
 rw [hd] at k
 exact Int.eq_of_mul_eq_mul_right (by have:=yf3 (X:=P') hY'; omega) k
theorem ylv (ρ:Operand->Value)(o:Oper)(x y:Operand)(w:World)(a b:Int)(h1:ρ x=.int .i64 a)(h2:ρ y=.int .i64 b):(execOp ρ { o with op:=.binOp .gtr 3 x y 3 }).run Tryz.prog w=.ok (.value (.bool (decide (b < a)))) w:=by
 by_cases h:b < a
 ·rw [decide_eq_true h]
  unfold execOp
  go_simp
 ·rw [decide_eq_false h]
  have h':a<=b:=by omega
  clear h
  unfold execOp
  go_simp
theorem yuc (w:World)(A:Int)(D k1 k2:Nat)(u:Value)(h:Rv A (D:Int) k1 k2 u w)(hk1:k1<=8388608)(hk2:k2<=8388608)(hB:(D:Int)≠0)(hmt:decide (0 < (D:Int).sign)=true):
  CG 54 #[u] w (TWO (ZN (nr A (D:Int))) (IS (.int .i64 0))):=by
 refine yak (sl:=[(0,(PR (Zv A k1) (Zv ((D:Int)) k2)))]) Tryz.func54 rfl Tryz.ntmps54 (by simp) (yae rfl (yp9 h) yao) ?_
 intro a0 S0
 refine wq [.new (.box 26 (PR (Zv A k1) (Zv ((D:Int)) k2))),.new (.box 24 zI),V (iV 0)] [.inl 0,.inl 1] [.inl 2] S0 ?_ ?_
 ·exact jj3 (bxA wA (oS 0 0) (yfq (ybm yan yan))) (nwA wA yar) mC
 intro _ a1 _ (S1:Zt [_,_] [_])
 refine wp_seq ?_
 refine wq [V (PR (Zv A k1) (Zv ((D:Int)) k2)),V (RL1 (PR (Zv A k1) (Zv ((D:Int)) k2)) w.heap.size),kT,kF] ur2 [.inl 3,.inr 0] S1 ?_ ?_
 ·exact jj4 (loA 0 wA yaj (ybm yan yan)) (zao rfl wA rfl (oO 0 4) (ybm yan yan) rfl) (cc1 wA (qO 1 5 rfl) (yab _) (fun w u h1=>Gives.cast (ywd (by omega) w u (za1 (yic (fun _ _ h=>h) (fun _ _ h=>h)) _ _ h1)) (by rw [hmt]))) (ycc wA (oO 2 6))
 intro _ a2 _ (S2:Zt [_,_] [_,_])
 refine wp_cond_false (S2.bool 0 7 rfl) (wp_skip (thenN ?_))
 refine wq [V (Part a2 1 0),V (Zv A k1),V (Part a2 1 2),V (Zv ((D:Int)) k2),Fw (TWO (ZN (nr A ((D:Int)))) (IS (.int .i64 0))) w,Fw (ZN (nr A ((D:Int)))) w,V (iV 0),.put (.inl 2) (.box 24 ((ZN (nr A ((D:Int)))) w.heap.size)),V (iV 0)] ur2 [.inl 8,.inr 0] S2 ?_ ?_
 ·exact ⟨jj8 (ptZ wA 0 yca) (plA wA (oO 0 9) 0 rfl rfl ydo) (ptA wA 0 ycg) (plA wA (oO 2 11) 0 rfl rfl ycj) (cc2 wA (qO 1 10 rfl) (qO 3 12 rfl) (ya5 (yah _) (yab _)) (fun w u v h1 h2=>yz4 hB (by omega) w u v ((fun _ _ h=>h) _ _ h1) ((fun _ _ h=>h) _ _ h2))) (e20 wA (oO 4 13)) (e21 wA (oO 4 13)) (seA 1 wA (oO 5 14) yad ya9 yai),mO 6 15⟩
 intro _ a3 _ (S3:Zt [_,_] [_,_])
 refine wp_ret ?_
 exact ydi S3 rfl (ybb S3 1 2 rfl yad yai) (yay S3 0 3 rfl)
theorem ysq {A:Int}{D k1 k2:Nat}(hD:D≠0)(hk1:k1<=8388608)(hk2:k2<=8388608):∀ w u,Rv A (D:Int) k1 k2 u w->CG 54 #[u] w (TWO (ZN (nr A (D:Int))) (IS (.int .i64 0))):=fun w u h=>yuc w A D k1 k2 u h hk1 hk2 (by omega) (by rw [ywx hD]; rfl)
theorem yw4 (w:World)(A D:Int)(k1 k2:Nat)(u:Value)(h:Rv A D k1 k2 u w)(hk1:k1<=8388608)(hk2:k2<=8388608):
  CG 7 #[u] w (IS (.bool (decide (0 < D.sign)))):=by
 refine yak (sl:=[(0,(PR (Zv A k1) (Zv D k2)))]) Tryz.func7 rfl Tryz.ntmps7 (by simp) (yae rfl (yp9 h) yao) ?_
 intro a0 S0
 refine wq [.new (.box 26 (PR (Zv A k1) (Zv D k2))),kF] [.inl 0] [.inl 1] S0 ?_ ?_
 ·exact jj2 (bxA wA (oS 0 0) (yfq (ybm yan yan))) mC
 intro _ a1 _ (S1:Zt [_] [_])
 refine wq [V (Part a1 1 2),V (Zv D k2),V (iV ((D).sign)),V (Is (.bool (decide (0 < D.sign)))),V (Is (.bool (decide (0 < D.sign))))] [.inr 0] [.inl 4] S1 ?_ ?_
 ·exact jj5 (ptA wA 0 ycg) (plA wA (oO 0 3) 0 rfl rfl ycj) (cc1 wA (qO 1 4 rfl) (yab _) (fun w u h1=>yg3 (by omega) w u ((fun _ _ h=>h) _ _ h1))) (ybt rfl wA rfl (oO 2 5) (yaa _) rfl (fun ρ w h1 h2=>by exact ylv ρ _ _ _ w _ _ h1 h2)) (mO 3 6)
 intro _ a2 _ (S2:Zt [_] [_])
 refine wp_ret ?_
 exact yav S2 rfl (yay S2 0 2 rfl)
theorem ydj {A D:Int}{k1 k2:Nat}(hk1:k1<=8388608)(hk2:k2<=8388608):∀ w u,Rv A D k1 k2 u w->CG 7 #[u] w (IS (.bool (decide (0 < D.sign)))):=fun w u h=>yw4 w A D k1 k2 u h hk1 hk2
theorem yss {A:Int}{D k k':Nat}(hD:D≠0)(hk:k<=67108864)(hk':k'<=67108864):∀ w u v,Zv A k u w->Zv (D:Int) k' v w->CG 50 #[u,v] w (RN (nR A D) (dR A D)):=by
 rintro w u v ⟨s,p,n,c,xs,rfl,h,rfl,hn⟩ ⟨t,q,m,d,ys,rfl,h',eD,hm⟩
 obtain ⟨rfl,rfl⟩:=ygk eD hD
 rw [yth,yse]
 exact ygr (ylo w s p q n c m d xs ys h h' hD (by omega) (by omega))
theorem ye7 {A:Int}{k:Nat}{u:Value}{w:World}(h:Zv A k u w):(digs A.natAbs).length<=k:=by
 obtain ⟨s,p,n,c,xs,rfl,h1,rfl,h2⟩:=h
 exact zhb (yj0 h1) h2
theorem za2 (w:World)(u v:Value)(A:Int)(N:Int)(D M k1 k2 k3 k4:Nat)(h:Hs w (Rv A (D:Int) k1 k2) u)(hv:Hs w (Rv N (M:Int) k3 k4) v)(hD:D≠0)(hM:M≠0)(b1:k1<=8388608)(b2:k2<=8388608)(b3:k3<=8388608)(b4:k4<=8388608):
  CG 45 #[u,v] w (RN (nR (A*N) (D*M)) (dR (A*N) (D*M))):=by
 have hz:D*M≠0:=zh2 hD hM
 obtain ⟨x0,x1,y0,y1,_,ha,hd⟩:=h.now
 obtain ⟨x0',x1',y0',y1',_,hn,hm⟩:=hv.now
 have dA:=ye7 ha
 have dD:=ye7 hd
 have dN:=ye7 hn
 have dM:=ye7 hm
 have hq1:(digs (A*N).natAbs).length<=16777216:=by rw [zh3]; exact zhb (yaq dA dN) (by omega)
 have hq2:(digs ((D*M:Nat):Int).natAbs).length<=16777216:=by rw [zho,zh3]; exact zhb (yaq dD dM) (by omega)
 refine yak (sl:=[(0,(PR (Zv A k1) (Zv ((D:Int)) k2))),(1,(PR (Zv N k3) (Zv ((M:Int)) k4)))]) Tryz.func45 rfl Tryz.ntmps45 (by simp) (yae rfl (h) (yae rfl (hv) yao)) ?_
 intro a0 S0
 refine wq [.new (.box 26 (PR (Zv A k1) (Zv ((D:Int)) k2))),.new (.box 26 (PR (Zv N k3) (Zv ((M:Int)) k4))),.new (.box 26 zR)] [.inl 0,.inl 1,.inl 2] [] S0 ?_ ?_
 ·exact jj3 (bxA wA (oS 0 0) (yfq (ybm yan yan))) (bxA wA (oS 1 1) (yfq (ybm yan yan))) (nwA wA ya3)
 intro _ a1 _ (S1:Zt [_,_,_] [])
 refine wq [V (Part a1 2 0),V (Zv A k1),V (Part a1 3 0),V (Zv N k3),Fw (ZN (A*N)) w,V (Part a1 2 2),V (Zv ((D:Int)) k2),V (Part a1 3 2),V (Zv ((M:Int)) k4),Fw (ZN (((D*M:Nat):Int))) w,Fw (RN (nR (A*N) (D*M)) (dR (A*N) (D*M))) w,.put (.inl 4) (.box 26 ((RN (nR (A*N) (D*M)) (dR (A*N) (D*M))) w.heap.size))] [.inr 2] [] S1 ?_ ?_
 ·exact ⟨⟨⟨⟨jj8 (ptZ wA 0 yca) (plA wA (oO 0 5) 0 rfl rfl ydo) (ptZ wA 1 yca) (plA wA (oO 2 7) 1 rfl rfl ydo) (cc2 wA (qO 1 6 rfl) (qO 3 8 rfl) (yah _) (fun w u v h1 h2=>yx6 (by omega) w u v ((fun _ _ h=>h) _ _ h1) ((fun _ _ h=>h) _ _ h2))) (ptA wA 0 ycg) (plA wA (oO 5 10) 0 rfl rfl ycj) (ptA wA 1 ycg),plA wA (oO 7 12) 1 rfl rfl ycj⟩,cc2 wA (qO 6 11 rfl) (qO 8 13 rfl) (yah _) (fun w u0 u1 h0 h1=>Gives.cast (ψ:=(ZN (((D*M:Nat):Int)))) ((fun w u v h1 h2=>yx6 (by omega) w u v ((fun _ _ h=>h) _ _ h1) ((fun _ _ h=>h) _ _ h2)) w u0 u1 h0 h1) (by rw [zho]))⟩,cc2 wA (qO 4 9 rfl) (qO 9 14 rfl) (ydx _ _) (fun w u v h1 h2=>yss hz (by omega) (by omega) w u v ((ybf hq1) _ _ h1) ((ybf hq2) _ _ h2))⟩,seA 2 wA (oO 10 15) yaj ybk (ybm yai yai)⟩
 intro _ a2 _ (S2:Zt [_] [])
 refine wp_ret ?_
 exact yav S2 rfl (ybb S2 0 4 rfl yaj (ybm yai yai))
end Go.Proofs.YtdnindaohpdblaaGreat
