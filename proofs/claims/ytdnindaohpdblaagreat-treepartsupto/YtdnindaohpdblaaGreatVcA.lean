import Derived.Test.YtdnindaohpdblaaGreatSetR
import Derived.Test.YtdnindaohpdblaaGreatSetY
import Derived.Deep.Slices
set_option linter.all false
namespace Go.Proofs.YtdnindaohpdblaaGreat
open Go Go.RowKit Nt
set_option maxRecDepth 20000
set_option maxHeartbeats 16000000
theorem yev {A:Int}{k:Nat}(hk:k<=70368744177664):∀ w u,Zv A k u w->CG 43 #[u] w (IS (.int .i64 A.sign)):=by
 rintro w u ⟨s,p,n,c,xs,rfl,h,rfl,hn⟩
 refine (ygj w s p n c xs h (by omega)).mono ?_
 rintro e w' ⟨rfl,hb⟩
 exact ⟨_,rfl,hb,rfl⟩
theorem yhh {A B:Int}{ka kb:Nat}(hk:ka<=70368744177664)(hk':kb<=70368744177664):∀ w u v,Zv A ka u w->Zv B kb v w->CG 76 #[u,v] w (IS (.int .i64 (A-B).sign)):=by
 rintro w u v ⟨s,p,n,c,xs,rfl,h,rfl,hn⟩ ⟨t,q,m,d,ys,rfl,h',rfl,hm⟩
 refine (ykz w s t p q n c m d xs ys h h' (by omega) (by omega)).mono ?_
 rintro e w' ⟨rfl,hb⟩
 exact ⟨_,rfl,hb,rfl⟩
theorem yx9 {A B:Int}{ka kb:Nat}(hk:ka<=35184372088831)(hk':kb<=35184372088831):∀ w u v,Zv A ka u w->Zv B kb v w->CG 25 #[u,v] w (IS (.int .i64 (A-B).sign)):=by
 rintro w u v ⟨s,p,n,c,xs,rfl,h,rfl,hn⟩ ⟨t,q,m,d,ys,rfl,h',rfl,hm⟩
 refine (zbv w s t p q n c m d xs ys h h' (by omega) (by omega)).mono ?_
 rintro e w' ⟨rfl,hb⟩
 exact ⟨_,rfl,hb,rfl⟩
def El.pr (e:El):Pr:=Zx e.s e.p e.n e.c e.xs
abbrev Vx (n:Nat)(es:List El):Pr:=Ar 2 n (es.map El.pr)
abbrev Vv (n:Nat)(zs:List Int)(k:Nat):Pr:=Ar 2 n (zs.map (fun z=>Zv z k))
abbrev VN (n:Nat)(zs:List Int):Nat->Pr:=LF 2 n (zs.map ZN)
theorem ybs {α β:Type}{f:α->β}{l:List α}{i:Nat}{y:β}(h:(l.map f)[i]? = some y):∃ x,l[i]? = some x/\y=f x:=by
 rw [zhi] at h
 cases hx:l[i]? with
 | none=>simp [hx] at h
 | some x=>simp [hx] at h; exact ⟨x,rfl,h.symm⟩
theorem ye0 {α β:Type}(f:α->β){l:List α}{i:Nat}{x:α}(h:l[i]? = some x):(l.map f)[i]? = some (f x):=by rw [zhi,h]; rfl
theorem fresh_vn {n:Nat}{zs:List Int}:Fresh (VN n zs):=yij (by decide) (fun i ψ h=>by obtain ⟨z,_,rfl⟩:=ybs h; exact yah z)
theorem ymv {sz n lo:Nat}{ψs:List (Nat->Pr)}:∀ v w,LF sz n ψs lo v w->∃ p c,v=.slice p n c:=fun v w h=>yh7 v w h.1
theorem yve {n k:Nat}{es:List El}(h:∀ (i:Nat) e,es[i]? = some e->e.n<=k):∀ v w,Vx n es v w->Vv n (es.map El.z) k v w:=
 yg8 (by simp) (fun i φ φ' h1 h2 v w hφ=>by
  obtain ⟨e,he,rfl⟩:=ybs h1
  obtain ⟨z,hz,rfl⟩:=ybs h2
  rw [ye0 El.z he] at hz
  cases hz
  exact zg9 (h i e he) v w hφ)
theorem yrr {n k lo:Nat}{zs:List Int}(h:∀ (i:Nat) z,zs[i]? = some z->(digs z.natAbs).length<=k):∀ v w,VN n zs lo v w->Vv n zs k v w:=
 zdf (by simp) (fun i ψ φ h1 h2 v w hφ=>by
  obtain ⟨z,hz,rfl⟩:=ybs h1
  obtain ⟨z',hz',rfl⟩:=ybs h2
  rw [hz] at hz'
  cases hz'
  exact ybf (h i z hz) v w hφ)
theorem ytm:∀ v w,Is (.slice none 0 0) v w->Vv 0 [] 0 v w:=fun v w e=>by rw [show v=_ from e]; exact yxt w
theorem zdv {lo:Nat}:∀ v w,Is (.slice none 0 0) v w->VN 0 [] lo v w:=fun v w e=>by rw [show v=_ from e]; exact zde w
theorem zdl {w:World}{p:Option Addr}{n c:Nat}{es:List El}(h:Ls w p n c es):Vx n es (.slice p n c) w:=
 ⟨p,c,rfl,by simp [h.len],⟨h.cap,h.max,h.nil⟩,fun i φ hφ=>by
  obtain ⟨e,he,rfl⟩:=ybs hφ
  obtain ⟨b,o,e1,h1,h2,h3⟩:=h.lie i e he
  refine ⟨b,o,.agg #[.bool e.s,.slice e.p e.n e.c],e1,fun j x hx=>?_,rfl,rfl,h3⟩
  match j,hx with
  | 0,hx=>simp [Value.cells] at hx; subst hx; exact h1
  | 1,hx=>simp [Value.cells] at hx; subst hx; exact h2
  | j+2,hx=>simp [Value.cells] at hx⟩
theorem ywm {w:World}{p:Option Addr}{n c:Nat}{es:List El}(h:Ls w p n c es):Hs w (Vx n es) (.slice p n c):=fun w' e=>zdl (zah h e)
def Dl (zs:List Int)(k:Nat):Prop:=∀ (i:Nat) z,zs[i]? = some z->(digs z.natAbs).length<=k
theorem ygn:Idx 36 1:=fun ρ o x y w b k i n c hi hx hy=>by
 rw [ziv]
 unfold execOp
 go_simp
theorem yyb:Idx 65 1:=fun ρ o x y w b k i n c hi hx hy=>by
 rw [ziv]
 unfold execOp
 go_simp
theorem celv1 {u:Value}(h:Celv 1 u):u.cells=#[u]/\u.oneCell'=true:=by
 have h1:=h.of
 have h2:=h.siz
 have h3:=h.one
 have e:u.cells=#[u]:=by
  apply Array.ext
  ·simp [h2]
  ·intro i hi hi'
   have:i=0:=by omega
   subst this
   conv=>rhs; rw [show (#[u]:Array Value)[0]=u from rfl,h1]
   simp [ofCells,h2]
 refine ⟨e,?_⟩
 rw [e] at h3
 simpa using h3
theorem ycf:Ldr 35 1:=fun ρ o x w b k u hu hc hx=>by
 obtain ⟨e,h1⟩:=celv1 hu
 have h2:w.cell? ⟨b,k,none⟩=some u:=hc 0 u (by rw [e]; rfl)
 clear hc hu e
 unfold execOp
 go_simp
theorem yyd:Ldr 3 1:=fun ρ o x w b k u hu hc hx=>by
 obtain ⟨e,h1⟩:=celv1 hu
 have h2:w.cell? ⟨b,k,none⟩=some u:=hc 0 u (by rw [e]; rfl)
 clear hc hu e
 unfold execOp
 go_simp
theorem ymi {u:Value}(h:u.oneCell'=true):Cel 1 (Is u):=fun v w e=>by rw [show v=u from e]; exact yk4 h
theorem yh8 {sz n:Nat}{φs:List Pr}:Cel 1 (Ar sz n φs):=fun v w ⟨p,c,e,_⟩=>by rw [e]; exact yk4 rfl
theorem yez {n k:Nat}{zs:List Int}:Cel 1 (Vv n zs k):=yh8
theorem zb9 {sz n lo:Nat}{ψs:List (Nat->Pr)}:Cel 1 (LF sz n ψs lo):=fun v w h=>yh8 v w h.1
def Sng (E sz:Nat)(φ:Pr)(lo:Nat):Pr:=fun v w=>∃ g u,v=.slice (some ⟨g,0,none⟩) 1 1/\lo<=g/\w.heap[g]? = some (.cells u.cells E (0,0))/\Celv sz u/\φ u w
theorem zb6 {E sz lo:Nat}{φ:Pr}:∀ v w,Sng E sz φ lo v w->Src E sz 1 (CE sz [φ]) v w:=by
 rintro v w ⟨g,u,rfl,h1,h2,h3,h4⟩
 refine ⟨g,1,u.cells.toList,rfl,⟨by simp [h3.siz],zha _,by unfold maxLen; omega⟩,by simpa using h2,fun x hx=>?_,[u],by simp [cellsOf],rfl,fun x hx=>by simp at hx; rw [hx]; exact h3,fun i x φ' hx hφ=>?_⟩
 ·have:=h3.one
  rw [zi3] at this
  exact this x (by simpa using hx)
 ·match i,hx,hφ with
  | 0,hx,hφ=>simp at hx hφ; subst hx; subst hφ; exact h4
  | i+1,hx,_=>simp at hx
def Bld (T E sz:Nat):Prop:=∀ (ρ:Operand->Value) (o:Oper) (x:Operand) (w:World) (u:Value),Celv sz u->ρ x=u->(execOp ρ { o with op:=.buildSlice T 1 #[(0,x)] }).run Tryz.prog w=.ok (.value (.slice (some ⟨w.heap.size,0,none⟩) 1 1)) (w.alloc (.cells u.cells E))
theorem yn4:Bld 35 24 2:=fun ρ o x w u hu hx=>by
 have e:=hu.of
 rw [ofCells,if_neg (by decide)] at e
 obtain ⟨l,hl⟩:∃ l,u.cells=⟨l⟩:=⟨u.cells.toList,by simp⟩
 have hs:=hu.siz
 have ho:=hu.one
 rw [hl] at e hs ho ⊢
 match l,hs with
 | [y,z],_ =>
  clear hu hl
  subst e
  simp at ho
  obtain ⟨h1,h2⟩:=ho
  unfold execOp
  go_simp
theorem yhj {ops:Array Oper}{l:List Kd}{bx:Bxs}{sl:List (Tmp × Pr)}{i:Nat}{o:Oper}{Q:Exit->Act->World->Prop}{a0:Act}{n0:Nat}{w0:World}{x:Operand}{T E sz:Nat}{φ:Pr}(ho:ops[i]? = some o)(hw:Wants ops l bx sl i o)(hop:o.op=.buildSlice T 1 #[(0,x)])(hB:Bld T E sz)(hx:Opnd ops l bx sl i x φ)(hc:Cel sz φ)(hk:kdAt l i=.val (Sng E sz φ w0.heap.size)):Owed Tryz.prog ops Q l bx sl a0 n0 w0 i:=
 yfw ho hw hk fun vs B a w c=>by
  have hX:=hx a0 n0 w0 vs B a w c
  have hcv:=hc _ _ hX.now
  have hb:Below w.heap.size w (w.alloc (.cells (a.eval x).cells E)):=(Below.refl _ _).alloc (zha _) _
  refine ⟨.slice (some ⟨w.heap.size,0,none⟩) 1 1,_,?_,hb,fun w'' e''=>?_⟩
  ·rw [← hB a.eval o x w _ hcv rfl]
   unfold execOp
   rw [hop]
  ·have ev:Ev B w w'':=⟨e''.os.trans hb.os,e''.tape.trans hb.tape,e''.output.trans hb.output,zhb hb.size e''.size,fun k hk hn=>(e''.block k (zhe hk hb.size) hn).trans (hb.block k hk)⟩
   refine ⟨w.heap.size,_,rfl,c.lo,?_,hcv,hX w'' ev⟩
   rw [e''.block w.heap.size (zhf.1 (heap_alloc_last w _)).1 (fun hB=>by have:=(c.bnd _ hB).2; omega)]
   exact heap_alloc_last _ _
theorem yn5:Celv 2 (.agg #[.bool false,.slice none 0 0]):=yk3 (cs:=#[.bool false,.slice none 0 0]) (by decide) (by simp [Value.oneCell'])
def Nmx (s:Bool)(xs:List Nat):Pr:=fun v w=>∃ p n c,v=.agg #[.bool s,.slice p n c]/\Sl w p n c xs
theorem h_eq {s:Bool}{xs:List Nat}:∀ w u v,Nmx s xs u w->Nmx s xs v w->CG 8 #[u,v] w (IS (.bool true)):=by
 rintro w u v ⟨p,n,c,rfl,h⟩ ⟨p',n',c',rfl,h'⟩
 refine (eq_c w _ p p' _ c _ c' _ h h').mono ?_
 rintro e w' ⟨rfl,hb⟩
 exact ⟨_,rfl,hb,rfl⟩
theorem yl5 {s:Bool}{xs:List Nat}:Shp 2 (Nmx s xs):=fun u w ⟨p,n,c,e,_⟩=>⟨_,e,rfl,by simp [Value.oneCell']⟩
def El.sx (e:El):Bool × List Nat:=(e.s,e.xs)
theorem yw5 (ρ:Operand->Value)(o:Oper)(x y:Operand)(w:World)(b f n c k:Nat)(h1:k<=n)(h2:n<=c)(h3:c<=9223372036854775807)(hx:ρ x=.slice (some ⟨b,f,none⟩) n c)(hy:ρ y=.int .i64 (k:Nat)):(execOp ρ { o with op:=.slice 35 x none (some y) none }).run Tryz.prog w=.ok (.value (.slice (some ⟨b,f,none⟩) k c)) w:=by
 have h4:(0:Int)<=(k:Int):=by omega
 have h5:(k:Int)<=(c:Int):=by omega
 have h6:k<=c:=by omega
 unfold execOp
 go_simp
section
variable {ops:Array Oper} {l:List Kd} {bx:Bxs} {sl:List (Tmp × Pr)} {i:Nat} {o:Oper} {Q:Exit->Act->World->Prop} {a0:Act} {n0:Nat} {w0:World}
theorem ywr {x y:Operand}{sz n k:Nat}{φs:List Pr}(ho:ops[i]? = some o)(hw:Wants ops l bx sl i o)(hop:o.op=.slice 35 x none (some y) none)(hx:Opnd ops l bx sl i x (Ar sz n φs))(hy:Opnd ops l bx sl i y (iV (k:Nat)))(hk':k<=n/\0 < n)(hk:kdAt l i=.val (Ar sz k (φs.take k))):Owed Tryz.prog ops Q l bx sl a0 n0 w0 i:=
 ycs ho hw hk fun vs B a w cx=>by
  have hxv:=hx a0 n0 w0 vs B a w cx
  have hyv:a.eval y=.int .i64 (k:Nat):=(hy a0 n0 w0 vs B a w cx).now
  obtain ⟨p,c,e,hl,⟨h1,h2,h3⟩,hall⟩:=id hxv.now
  have hm:maxLen<=9223372036854775807:=by unfold maxLen; omega
  obtain ⟨b,f,u,rfl,_⟩:=hall 0 (φs[0]'(by omega)) (zhj _)
  refine ⟨.slice (some ⟨b,f,none⟩) k c,?_,fun w' ev=>?_⟩
  ·rw [← yw5 a.eval o x y w b f n c k hk'.1 h1 (by omega) e hyv]
   unfold execOp
   rw [hop]
  ·obtain ⟨p',c',e',hl',_,hall'⟩:=hxv w' ev
   rw [e] at e'
   simp only [Value.slice.injEq,true_and] at e'
   obtain ⟨rfl,rfl⟩:=e'
   refine ⟨_,_,rfl,by rw [zh6]; omega,⟨by omega,h2,h3⟩,fun j φ hj=>?_⟩
   rw [zjc] at hj
   split at hj
   ·exact hall' j φ hj
   ·cases hj
end
end Go.Proofs.YtdnindaohpdblaaGreat

namespace Go.Proofs.YtdnindaohpdblaaGreat
open Go.ChangeShapes Go.WideShapes Go.ChangeAt Go.RowKit Nt
set_option maxRecDepth 20000
set_option maxHeartbeats 16000000
structure Rw where
 p:Option Addr
 n:Nat
 c:Nat
 es:List El
instance:Inhabited Rw:=⟨⟨none,0,0,[]⟩⟩
structure Ms (w:World) (p:Option Addr) (n c:Nat) (rs:List Rw):Prop where
 len:rs.length=n
 cap:n<=c
 max:c<=maxLen
 nil:p=none->c=0
 lie:∀ i r,rs[i]? = some r->∃ b o,p=some ⟨b,o,none⟩/\w.cell? ⟨b,o+i,none⟩=some (.slice r.p r.n r.c)/\Ls w r.p r.n r.c r.es
def ReadsM {H:Type}(d:DataW H)(c:Nat)(rs:List Rw):Prop:=
 (d=.nil/\c=0)\/∃ ds sp:List (DataW H),d=.slice ds sp/\c=ds.length+sp.length/\∀ (i:Nat) (r:Rw),rs[i]? = some r->∃ d1,ds[i]? = some d1/\ReadsL d1 r.c r.es
theorem yj4 {H:Type}{enc:TypeId × Value->H}{W:World}{v:Value}{y:DataW H × List MemPlace}{fuel:Nat}
  (hf:DataW.trod enc Tryz.prog W 0 (fun _=>true) true fuel 35 [v]=some y):
  ∃ a n c es,v=.slice a n c/\Ls W a n c es/\ReadsL y.1 c es:=by
 rcases Go.Deep.open_slice_pairs Tryz.underlying35 Tryz.underlying24 (by kernel_rfl) rfl rfl (by kernel_rfl) (by kernel_rfl) hf with ⟨hcs,hx⟩ | ⟨x,l,c',m,k,V0,V1,D0,D1,P0,P1,hcs,_,hl,hm,hmm,hx,hall⟩
 ·simp only [List.cons.injEq,and_true] at hcs
  subst hcs
  exact ⟨_,_,_,[],rfl,Ls.none W,Or.inl ⟨by rw [hx],rfl⟩⟩
 ·simp only [List.cons.injEq,and_true] at hcs
  subst hcs
  simp only [if_true] at hmm
  subst hmm
  have each:∀ i,∃ e:El,i < m->W.cell? (x.add (i*2))=some (.bool e.s)/\W.cell? (x.add (i*2+1))=some (.slice e.p e.n e.c)/\Sl W e.p e.n e.c e.xs/\D0 i=.lit (.bool e.s)/\Reads (D1 i) e.c:=by
   intro i
   by_cases hi:i < m
   ·obtain ⟨h1,h2,h3,h4⟩:=hall i hi
    obtain ⟨b,hb,e0⟩:=DataW.trod_bool Tryz.underlying4 h3
    simp at hb
    obtain ⟨a',n',c'',xs',e1,hs,hr⟩:=yiv h4
    refine ⟨⟨b,a',n',c'',xs'⟩,fun _=>⟨by rw [h1,hb],by rw [h2,e1],hs,?_,hr⟩⟩
    have:=congrArg Prod.fst e0
    simpa using this
   ·exact ⟨default,fun h=>absurd h hi⟩
  obtain ⟨E,hch'⟩:∃ E:Nat->El,∀ i,i < m->W.cell? (x.add (i*2))=some (.bool (E i).s)/\W.cell? (x.add (i*2+1))=some (.slice (E i).p (E i).n (E i).c)/\Sl W (E i).p (E i).n (E i).c (E i).xs/\D0 i=.lit (.bool (E i).s)/\Reads (D1 i) (E i).c:=⟨fun i=>Classical.choose (each i),fun i=>zja (each i)⟩
  refine ⟨_,_,_,(List.range l).map E,rfl,⟨by simp,hl,hm,(fun e=>by cases e),?_⟩,Or.inr ⟨_,_,by rw [hx],by simp; omega,?_⟩⟩
  ·intro i e he
   have hi:i < l:=by
    have:=(zhh.1 he).1
    simpa using this
   have he':e=E i:=by
    rw [zhi,zh5 hi] at he
    simpa using he.symm
   subst he'
   obtain ⟨h1,h2,h3,_,_⟩:=hch' i (by omega)
   have hs:=ygg (hch' 0 (by omega)).1
   obtain ⟨b,o,sp⟩:=x
   simp [Addr.add] at hs
   subst hs
   refine ⟨b,o,rfl,?_,?_,h3⟩
   ·rw [← h1,yc5,zhd]
   ·rw [← h2,yc5,zhd i 2]
    rfl
  ·intro i e he
   have hi:i < l:=by
    have:=(zhh.1 he).1
    simpa using this
   have he':e=E i:=by
    rw [zhi,zh5 hi] at he
    simpa using he.symm
   subst he'
   obtain ⟨_,_,_,h4,h5⟩:=hch' i (by omega)
   exact ⟨D1 i,by rw [zhi,zh5 hi,← h4]; rfl,h5⟩
abbrev Mx (n:Nat)(ess:List (List El)):Pr:=Ar 1 n (ess.map (fun es=>Vx es.length es))
abbrev Mv (n:Nat)(zss:List (List Int))(k:Nat):Pr:=Ar 1 n (zss.map (fun zs=>Vv zs.length zs k))
abbrev MN (n:Nat)(zss:List (List Int)):Nat->Pr:=LF 1 n (zss.map (fun zs=>VN zs.length zs))
theorem ywb {n:Nat}{zss:List (List Int)}:Fresh (MN n zss):=yij (by decide) (fun i ψ h=>by obtain ⟨z,_,rfl⟩:=ybs h; exact fresh_vn)
theorem zf7 {w:World}{p:Option Addr}{n c:Nat}{rs:List Rw}(h:Ms w p n c rs):Mx n (rs.map Rw.es) (.slice p n c) w:=
 ⟨p,c,rfl,by simp [h.len],⟨h.cap,h.max,h.nil⟩,fun i φ hφ=>by
  obtain ⟨e,he,rfl⟩:=ybs hφ
  obtain ⟨r,hr,rfl⟩:=ybs he
  obtain ⟨b,o,e1,h1,h3⟩:=h.lie i r hr
  refine ⟨b,o,.slice r.p r.n r.c,e1,fun j x hx=>?_,rfl,?_⟩
  ·match j,hx with
   | 0,hx=>simp [Value.cells] at hx; subst hx; rw [ziv]; exact h1
   | j+1,hx=>simp [Value.cells] at hx
  ·have:=zdl h3
   rw [h3.len]
   exact this⟩
theorem zf8 {w w':World}{p:Option Addr}{n c:Nat}{rs:List Rw}(h:Ms w p n c rs)(e:Ev (fun _=>False) w w'):Ms w' p n c rs:=
 ⟨h.len,h.cap,h.max,h.nil,fun i x hx=>by
  obtain ⟨b,o,e1,h1,h2⟩:=h.lie i x hx
  exact ⟨b,o,e1,yfr h1 e,zah h2 e⟩⟩
theorem zdn {w:World}{p:Option Addr}{n c:Nat}{rs:List Rw}(h:Ms w p n c rs):Hs w (Mx n (rs.map Rw.es)) (.slice p n c):=fun w' e=>zf7 (zf8 h e)
def Me (ess:List (List El))(f:El->Nat)(k:Nat):Prop:=∀ (i:Nat) es,ess[i]? = some es->∀ (j:Nat) e,es[j]? = some e->f e<=k
def Ml {α:Type}(ess:List (List α))(k:Nat):Prop:=∀ (i:Nat) es,ess[i]? = some es->es.length<=k
abbrev zz (ess:List (List El)):List (List Int):=ess.map (fun es=>es.map El.z)
theorem zdr {n k:Nat}{ess:List (List El)}(h:Me ess El.n k):∀ v w,Mx n ess v w->Mv n (zz ess) k v w:=
 yg8 (by simp) (fun i φ φ' h1 h2 v w hφ=>by
  obtain ⟨e,he,rfl⟩:=ybs h1
  obtain ⟨z,hz,rfl⟩:=ybs h2
  rw [ye0 (fun es:List El=>es.map El.z) he] at hz
  cases hz
  rw [zks]
  exact yve (h i e he) v w hφ)
def Mdl (zss:List (List Int))(k:Nat):Prop:=∀ (i:Nat) zs,zss[i]? = some zs->Dl zs k
theorem zf6 {n k lo:Nat}{zss:List (List Int)}(h:Mdl zss k):∀ v w,MN n zss lo v w->Mv n zss k v w:=
 zdf (by simp) (fun i ψ φ h1 h2 v w hφ=>by
  obtain ⟨e,he,rfl⟩:=ybs h1
  obtain ⟨z,hz,rfl⟩:=ybs h2
  rw [he] at hz
  cases hz
  exact yrr (h i e he) v w hφ)
theorem zdq {n k:Nat}{zss:List (List Int)}{u:Value}{w:World}(h:Mv n zss k u w){i:Nat}{zs:List Int}(hz:zss[i]? = some zs):∃ r,Vv zs.length zs k r w:=by
 obtain ⟨p,c,_,_,_,ha⟩:=h
 obtain ⟨b,o,x,_,_,_,hx⟩:=ha i _ (ye0 (fun zs:List Int=>Vv zs.length zs k) hz)
 exact ⟨x,hx⟩
theorem ms_n {w:World}{p:Option Addr}{n c k:Nat}{rs:List Rw}(h:Ms w p n c rs)(hC:∀ (i:Nat) r,rs[i]? = some r->r.c<=k/\∀ (j:Nat) e,r.es[j]? = some e->e.c<=k):Me (rs.map Rw.es) El.n k/\Me (rs.map Rw.es) El.c k/\Ml (rs.map Rw.es) k:=by
 refine ⟨fun i es he j e hj=>?_,fun i es he j e hj=>?_,fun i es he=>?_⟩
 ·obtain ⟨r,hr,rfl⟩:=ybs he
  obtain ⟨b,o,_,_,L⟩:=h.lie i r hr
  obtain ⟨b,o,_,_,_,hs⟩:=L.lie j e hj
  have:=hs.cap
  have:=(hC i r hr).2 j e hj
  omega
 ·obtain ⟨r,hr,rfl⟩:=ybs he
  exact (hC i r hr).2 j e hj
 ·obtain ⟨r,hr,rfl⟩:=ybs he
  obtain ⟨b,o,_,_,L⟩:=h.lie i r hr
  have:=L.cap
  have:=(hC i r hr).1
  rw [L.len]
  omega
end Go.Proofs.YtdnindaohpdblaaGreat
