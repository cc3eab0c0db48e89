import Derived.Test.YtdnindaohpdblaaGreatJaA
set_option linter.all false
namespace Go.Proofs.YtdnindaohpdblaaGreat
open Go Go.RowKit Nt
set_option maxRecDepth 20000
set_option maxHeartbeats 16000000
theorem ypm:Ldr 36 1:=fun ρ o x w b k u hu hc hx=>by
 obtain ⟨e,h1⟩:=celv1 hu
 have h2:w.cell? ⟨b,k,none⟩=some u:=hc 0 u (by rw [e]; rfl)
 clear hc hu e
 unfold execOp
 go_simp
def ahead (ss:List Nat)(k:Nat):Nat:=(ss.take k).sum
def fbL (sh:List Int)(L:List (List Int))(n i:Nat):Nat->List Int
 | 0=>[]
 | k+1=>fbL sh L n i k ++ [sh.getD k 0*(L.getD (n-1-k) []).getD i 0]
theorem yfs (sh:List Int)(L:List (List Int))(n i:Nat):∀ k,(fbL sh L n i k).length=k
 | 0=>rfl
 | k+1=>by simp [fbL,yfs sh L n i k]
def fW (D sh:List Int)(L:List (List Int))(n k:Nat):Int:=sh.getD k 0*D.getD (n-1-k+1) 0+sumZ (fbL sh L n (n-1-k) k)
def fM (D sh:List Int)(L:List (List Int))(n k:Nat)(p:Int × Int):Int:=p.1*D.getD (n-1-k) 0+p.2*(fW D sh L n k*fW D sh L n k)
def fS (D sh:List Int)(L:List (List Int))(n:Nat):Nat->Int × Int
 | 0=>(0,1)
 | k+1=>if rm (fM D sh L n k (fS D sh L n k)) (D.getD (n-1-k+1) 0)=0 then (fl (fM D sh L n k (fS D sh L n k)) (D.getD (n-1-k+1) 0),(fS D sh L n k).2) else (fM D sh L n k (fS D sh L n k),(fS D sh L n k).2*D.getD (n-1-k+1) 0)
def fD (D:List Int)(n:Nat):Nat->Int
 | 0=>1
 | k+1=>D.getD (n-1-k) 0
theorem zcq {D:List Int}{L:List (List Int)}(g:Good D L){n:Nat}(hn:n=L.length):∀ k,k<=n->0 < fD D n k
 | 0,_=>Int.one_pos
 | k+1,h=>g.d _ (by have:=g.len; omega)
theorem ysn {D sh:List Int}{L:List (List Int)}(g:Good D L){n:Nat}(hn:n=L.length):∀ k,k<=n->0 < (fS D sh L n k).2
 | 0,_=>Int.one_pos
 | k+1,h=>by
  have ih:=ysn (sh:=sh) g hn k (by omega)
  rw [fS]
  split
  ·exact ih
  ·exact Int.mul_pos ih (g.d _ (by have:=g.len; omega))
def AM (pd pl pt pz:Pr):Pr:=fun v w=>∃ x y t p q,v=.agg #[x,y,t,p,q]/\(#[x,y,t,p,q]:Array Value).all (·.oneCell')=true/\pd x w/\pl y w/\pt t w/\pz (.agg #[p,q]) w
theorem yyx {pd pl pt pz:Pr}:Shp 5 (AM pd pl pt pz):=fun u w ⟨x,y,t,p,q,e,h,_⟩=>⟨_,e,rfl,h⟩
theorem zbz {pd pl pt pz pd' pl' pt' pz':Pr}(h1:∀ v w,pd v w->pd' v w)(h2:∀ v w,pl v w->pl' v w)(h3:∀ v w,pt v w->pt' v w)(h4:∀ v w,pz v w->pz' v w):∀ v w,AM pd pl pt pz v w->AM pd' pl' pt' pz' v w:=
 fun v w ⟨x,y,t,p,q,e,h,a,b,c,d⟩=>⟨x,y,t,p,q,e,h,h1 _ _ a,h2 _ _ b,h3 _ _ c,h4 _ _ d⟩
theorem yzl {φ:Pr}(h:Shp 5 φ)(ρ:Operand->Value)(o:Oper)(x:Operand)(w:World)(hφ:φ (ρ x) w):(execOp ρ { o with op:=.box 104 x }).run Tryz.prog w=.ok (.value (.pointer (some ⟨w.heap.size,0,none⟩))) (w.alloc (.cells (ρ x).cells 104 (0,0))):=by
 obtain ⟨cs,e,h1,h2⟩:=h _ _ hφ
 unfold execOp
 rw [e]
 go_simp
theorem ytz (ρ:Operand->Value)(o:Oper)(x:Operand)(w:World)(b f:Nat)(h:ρ x=.pointer (some ⟨b,f,none⟩)):(execOp ρ { o with op:=.fieldAddr 104 x 0 }).run Tryz.prog w=.ok (.value (.pointer (some ⟨b,f,none⟩))) w:=by
 unfold execOp
 go_simp
theorem ym7 (ρ:Operand->Value)(o:Oper)(x:Operand)(w:World)(b f:Nat)(h:ρ x=.pointer (some ⟨b,f,none⟩)):(execOp ρ { o with op:=.fieldAddr 104 x 1 }).run Tryz.prog w=.ok (.value (.pointer (some ⟨b,f+2,none⟩))) w:=by
 unfold execOp
 go_simp
theorem yfh (ρ:Operand->Value)(o:Oper)(x:Operand)(w:World)(b f:Nat)(h:ρ x=.pointer (some ⟨b,f,none⟩)):(execOp ρ { o with op:=.fieldAddr 104 x 2 }).run Tryz.prog w=.ok (.value (.pointer (some ⟨b,f+3,none⟩))) w:=by
 unfold execOp
 go_simp
def AMI (x y:Value)(n:Nat)(τ:List Int)(d:Int):Nat->Pr:=fun lo=>AM (Is x) (Is y) (VN n τ lo) (ZN d lo)
theorem fresh_ami {x y:Value}{n:Nat}{τ:List Int}{d:Int}:Fresh (AMI x y n τ d):=
 ⟨fun lo lo' v w hl h=>zbz (fun _ _ h=>h) (fun _ _ h=>h) (fun v w h=>fresh_vn.mono _ _ v w hl h) (fun v w h=>(yah d).mono _ _ v w hl h) v w h,fun lo v w w' B hB ⟨a,b,t,p,q,e,h,h1,h2,h3,h4⟩ ev=>⟨a,b,t,p,q,e,h,h1,h2,fresh_vn.ev _ _ _ _ B hB h3 ev,(yah d).ev _ _ _ _ B hB h4 ev⟩⟩
section
variable {ops:Array Oper} {l:List Kd} {bx:Bxs} {sl:List (Tmp × Pr)} {i:Nat} {o:Oper} {Q:Exit->Act->World->Prop} {a0:Act} {n:Nat} {w0:World}
theorem yib {x y z:Operand}{pd pl pt pz:Pr}(ho:ops[i]? = some o)(hw:Wants ops l bx sl i o)(hop:o.op=.build 104 #[(0,x),(1,y),(2,z)])(hx:Opnd ops l bx sl i x (SF [pd,pl]))(hy:Opnd ops l bx sl i y pt)(hz:Opnd ops l bx sl i z pz)(ht:∀ v w,pt v w->∃ p m c,v=.slice p m c)(hS:Shp 2 pz)(hk:kdAt l i=.val (AM pd pl pt pz)):Owed Tryz.prog ops Q l bx sl a0 n w0 i:=
 ycs ho hw hk fun vs B a w c=>by
  have h1:=hx a0 n w0 vs B a w c
  have h2:=hy a0 n w0 vs B a w c
  have h3:=hz a0 n w0 vs B a w c
  obtain ⟨cs,e1,c1,c2,_⟩:=id h1.now
  obtain ⟨ds,e3,d1,d2⟩:=hS _ _ h3.now
  obtain ⟨py,my,cy,ey⟩:=ht _ _ h2.now
  have hone:(a.eval y).oneCell'=true:=by rw [ey]; rfl
  match cs,c1,e1,c2 with
  | ⟨[x0,x1]⟩,_,e1,c2 =>
   match ds,d1,e3,d2 with
   | ⟨[z0,z1]⟩,_,e3,d2 =>
    have hall:(#[x0,x1,a.eval y,z0,z1]:Array Value).all (·.oneCell')=true:=by
     simp at c2 d2 ⊢
     exact ⟨c2.1,c2.2,hone,d2.1,d2.2⟩
    refine ⟨.agg #[x0,x1,a.eval y,z0,z1],?_,fun w' e'=>⟨x0,x1,a.eval y,z0,z1,rfl,hall,?_,?_,h2 w' e',e3 ▸ h3 w' e'⟩⟩
    ·unfold execOp
     rw [hop]
     have c3:x0.oneCell'=true/\x1.oneCell'=true:=by simpa using c2
     have d3:z0.oneCell'=true/\z1.oneCell'=true:=by simpa using d2
     clear h1 h2 h3 hx hy hz hall c2 d2
     generalize a.eval=ρ at e1 e3 ey hone
     obtain ⟨c4,c5⟩:=c3
     obtain ⟨d4,d5⟩:=d3
     go_simp
    ·obtain ⟨cs',e4,_,_,h4⟩:=h1 w' e'
     rw [e1] at e4
     simp at e4
     subst e4
     obtain ⟨u,hu,hp⟩:=h4 0 _ rfl
     simp at hu
     subst hu
     exact hp
    ·obtain ⟨cs',e4,_,_,h4⟩:=h1 w' e'
     rw [e1] at e4
     simp at e4
     subst e4
     obtain ⟨u,hu,hp⟩:=h4 1 _ rfl
     simp at hu
     subst hu
     exact hp
end
def ofPart (cs:Array Value)(off sz:Nat):Value:=ofCells sz (cs.extract off (off+sz))
theorem ygp {cs:Array Value}{n off sz:Nat}(h1:cs.size=n)(h2:cs.all (·.oneCell')=true)(hz:0 < sz)(hb:off+sz<=n):(ofPart cs off sz).cells=cs.extract off (off+sz)/\Celv sz (ofPart cs off sz):=by
 have hs:(cs.extract off (off+sz)).size=sz:=by simp; omega
 have ha:(cs.extract off (off+sz)).all (·.oneCell')=true:=by
  rw [zi3] at h2 ⊢
  intro x hx
  obtain ⟨j,hj,rfl⟩:=Array.mem_iff_getElem.1 hx
  rw [Array.getElem_extract]
  exact h2 _ (Array.getElem_mem _)
 unfold ofPart
 generalize cs.extract off (off+sz)=ds at hs ha
 by_cases e:sz=1
 ·subst e
  obtain ⟨l⟩:=ds
  match l,hs with
  | [x],_ =>
   have hx:x.oneCell'=true:=by simpa using ha
   have hc:=yk4 hx
   have e1:ofCells 1 (#[x]:Array Value)=x:=rfl
   rw [e1]
   have e2:x.cells=#[x]:=by cases x <;> first | rfl | simp [Value.oneCell'] at hx
   exact ⟨e2,hc⟩
 ·have e1:ofCells sz ds=.agg ds:=by simp [ofCells,e]
  rw [e1]
  exact ⟨rfl,by have:=yk3 (cs:=ds) (by omega) ha; rwa [hs] at this⟩
def ST (n:Nat)(ps:List (Nat × Nat × Pr)):Pr:=fun v w=>∃ cs:Array Value,v=.agg cs/\cs.size=n/\cs.all (·.oneCell')=true/\∀ (k:Nat) p,ps[k]? = some p->p.2.2 (ofPart cs p.1 p.2.1) w
theorem yby {n:Nat}{ps:List (Nat × Nat × Pr)}:Shp n (ST n ps):=fun u w ⟨cs,e,h1,h2,_⟩=>⟨cs,e,h1,h2⟩
def STN (n:Nat)(qs:List (Nat × Nat × (Nat->Pr))):Nat->Pr:=fun lo=>ST n (qs.map fun q=>(q.1,q.2.1,q.2.2 lo))
theorem ypf {n:Nat}{qs:List (Nat × Nat × (Nat->Pr))}(h:∀ q ∈ qs,Fresh q.2.2):Fresh (STN n qs):=by
 refine ⟨fun lo lo' v w hl ⟨cs,e,h1,h2,hp⟩=>⟨cs,e,h1,h2,fun k p hk=>?_⟩,fun lo v w w' B hB ⟨cs,e,h1,h2,hp⟩ ev=>⟨cs,e,h1,h2,fun k p hk=>?_⟩⟩
 ·rw [zhi] at hk
  obtain ⟨q,hq,rfl⟩:=zkk.1 hk
  exact (h q (zhl hq)).mono _ _ _ _ hl (hp k _ (by rw [zhi,hq]; rfl))
 ·exact (by
   have hk':=hk
   rw [zhi] at hk'
   obtain ⟨q,hq,rfl⟩:=zkk.1 hk'
   exact (h q (zhl hq)).ev _ _ _ _ B hB (hp k _ hk) ev)
theorem yy2 {n:Nat}{ps ps':List (Nat × Nat × Pr)}(h:∀ (k:Nat) p',ps'[k]? = some p'->∃ φ,ps[k]? = some (p'.1,p'.2.1,φ)/\∀ v w,φ v w->p'.2.2 v w):∀ v w,ST n ps v w->ST n ps' v w:=fun v w ⟨cs,e,h1,h2,hp⟩=>⟨cs,e,h1,h2,fun k p' hk=>by
 obtain ⟨φ,hφ,hi⟩:=h k p' hk
 exact hi _ _ (hp k _ hφ)⟩
theorem ybg {T T':TypeId}{n off sz k:Nat}{ps:List (Nat × Nat × Pr)}{φ:Pr}(hE:Ldr T' sz)(hk:ps[k]? = some (off,sz,φ))(hz:0 < sz)(hb:off+sz<=n)(ρ:Operand->Value)(o:Oper)(x:Operand)(w:World)(b:Nat)(u:Value)(hφ:ST n ps u w)(hx:ρ x=.pointer (some ⟨b,off,none⟩))(hu:w.heap[b]? = some (.cells u.cells T (0,0))):
  ∃ v,(execOp ρ { o with op:=.load T' x }).run Tryz.prog w=.ok (.value v) w/\∀ w',ST n ps u w'->φ v w':=by
 obtain ⟨cs,rfl,hs,ha,hp⟩:=hφ
 obtain ⟨hc,hv⟩:=ygp hs ha hz hb
 refine ⟨ofPart cs off sz,hE ρ o x w b off _ hv (fun j c hj=>?_) hx,fun w' ⟨cs',e,_,_,hp'⟩=>?_⟩
 ·rw [hc,zkl] at hj
  rw [ybl hu]
  show cs[off+j]? = some c
  split at hj
  ·exact hj
  ·cases hj
 ·cases e
  exact hp' k _ hk
def aside (offs:List (Nat × Nat))(m off sz n:Nat):Bool:=(List.range offs.length).all fun j=>j == m || (decide ((offs.getD j (0,0)).1+(offs.getD j (0,0)).2<=off) || decide (off+sz<=(offs.getD j (0,0)).1)) && decide (0 < (offs.getD j (0,0)).2) && decide ((offs.getD j (0,0)).1+(offs.getD j (0,0)).2<=n)
theorem zew {n off sz m:Nat}{ps:List (Nat × Nat × Pr)}{φ χ:Pr}{cs:Array Value}{u:Value}{w:World}(hs:cs.size=n)(ha:cs.all (·.oneCell')=true)(hz:0 < sz)(hbd:off+sz<=n)(hm:ps[m]? = some (off,sz,φ))(hd:aside (ps.map fun p=>(p.1,p.2.1)) m off sz n=true)(hu:Celv sz u)(hχ:χ u w)
  (hp:∀ (k:Nat) p,ps[k]? = some p->p.2.2 (ofPart cs p.1 p.2.1) w):ST n (ps.set m (off,sz,χ)) (.agg (setsFrom cs off u.cells.toList)) w:=by
 have hl:u.cells.toList.length=sz:=by simp [hu.siz]
 have hsz:(setsFrom cs off u.cells.toList).size=n:=by
  have:=congrArg List.length (yfz u.cells.toList off cs (by omega))
  simp only [zkj,zhx,zh6,zj0] at this
  have:=hu.siz
  omega
 have hone:(setsFrom cs off u.cells.toList).all (·.oneCell')=true:=by
  rw [zi3] at ha ⊢
  intro x hx
  have h1:=hu.one
  rw [zi3] at h1
  have hx':x ∈ (setsFrom cs off u.cells.toList).toList:=by simpa using hx
  rw [yfz _ _ _ (by omega)] at hx'
  rcases zjn.1 hx' with hx' | hx'
  ·rcases zjn.1 hx' with hx' | hx'
   ·exact ha x (by simpa using List.mem_of_mem_take hx')
   ·exact h1 x (by simpa using hx')
  ·exact ha x (by simpa using List.mem_of_mem_drop hx')
 refine ⟨_,rfl,hsz,hone,fun k p hk=>?_⟩
 rw [List.getElem?_set] at hk
 by_cases e:m=k
 ·subst e
  have hlt:=(zhh.1 hm).1
  rw [if_pos rfl,if_pos hlt] at hk
  simp only [Option.some.injEq] at hk
  subst hk
  obtain ⟨c1,c2⟩:=ygp hsz hone hz hbd
  have:ofPart (setsFrom cs off u.cells.toList) off sz=u:=yhd c2 hu (by
   rw [c1]
   apply Array.ext_getElem?
   intro j
   rw [zkl,yeg _ _ _ _ (by omega)]
   by_cases hj:j < sz
   ·rw [if_pos (by omega),if_pos (by omega),show off+j-off=j by omega]
    simp
   ·rw [if_neg (by omega),zi6 (by have:=hu.siz; omega)])
  show χ (ofPart _ off sz) w
  rw [this]
  exact hχ
 ·rw [if_neg e] at hk
  have hklt:=(zhh.1 hk).1
  have h1:=zjo.1 hd k (by simpa using hklt)
  have h2:((ps.map fun p=>(p.1,p.2.1)).getD k (0,0))=(p.1,p.2.1):=by rw [zhc,zhi,hk]; rfl
  rw [h2] at h1
  simp only [zkz,zh0,beq_iff_eq,decide_eq_true_eq] at h1
  rcases h1 with h1 | ⟨⟨h1,h3⟩,h4⟩
  ·exact absurd h1.symm e
  obtain ⟨c1,c2⟩:=ygp hsz hone h3 h4
  obtain ⟨d1,d2⟩:=ygp hs ha h3 h4
  have:ofPart (setsFrom cs off u.cells.toList) p.1 p.2.1=ofPart cs p.1 p.2.1:=yhd c2 d2 (by
   rw [c1,d1]
   apply Array.ext_getElem?
   intro j
   rw [zkl,zkl]
   by_cases hj:j < p.2.1
   ·rw [if_pos (by rw [hsz]; omega),if_pos (by rw [hs]; omega),yeg _ _ _ _ (by omega),if_neg (by omega)]
   ·rw [if_neg (by rw [hsz]; omega),if_neg (by rw [hs]; omega)])
  rw [this]
  exact hp k p hk
section
variable {ops:Array Oper} {l:List Kd} {bx:Bxs} {sl:List (Tmp × Pr)} {i:Nat} {o:Oper} {Q:Exit->Act->World->Prop} {a0:Act} {n0:Nat} {w0:World}
theorem yio {T T':TypeId}{t k off sz n m:Nat}{x y:Operand}{ps:List (Nat × Nat × Pr)}{φ χ:Pr}(ho:ops[i]? = some o)(hw:Wants ops l bx sl i o)(hop:o.op=.store T' x y)(hx:Opnd ops l bx sl i x (Part a0 t off))(hb:bx[k]? = some (t,.box T (ST n ps)))(hn:unturned ops l i (.inl t)=true)(hy:Opnd ops l bx sl i y χ)(hS:Sto T' sz)(hc:Cel sz χ)(hz:0 < sz)(hbd:off+sz<=n)(hm:ps[m]? = some (off,sz,φ))(hd:aside (ps.map fun p=>(p.1,p.2.1)) m off sz n=true)(hk:kdAt l i=.put (.inl t) (.box T (ST n (ps.set m (off,sz,χ))))):Owed Tryz.prog ops Q l bx sl a0 n0 w0 i:=fun vs B a w c o' ho'=>by
 obtain rfl:o=o':=Option.some.inj (ho.symm.trans ho')
 obtain ⟨b,u,hp0,hB,hu,hφ⟩:=c.box t _ (zhl hb) hn
 obtain ⟨b',hb0,hv0⟩:=(hx a0 n0 w0 vs B a w c).now
 rw [hp0] at hb0
 simp at hb0
 subst hb0
 have hv:=hy a0 n0 w0 vs B a w c
 have hcy:=hc _ _ hv.now
 obtain ⟨cs,rfl,h2,h3,h4⟩:=id hφ.now
 have hthere:w.there b off sz:=fun j hj=>by
  refine ⟨?_,by simp [World.frozen?,hu]⟩
  rw [ybl hu]
  show (cs[off+j]?).isSome=true
  simp [show off+j < cs.size from by omega]
 have h':(execOp a.eval o).run Tryz.prog w=.ok .skip (w.setRow b (setsFrom cs off (a.eval y).cells.toList)):=by
  rw [← ye2 b _ _ w cs hu,← hS a.eval o x y w b off _ hcy hthere hv0 rfl]
  unfold execOp
  rw [hop]
 simp only [wpOp,ho]
 rw [if_pos (hw a0 n0 w0 vs B a w c)]
 refine Or.inl ?_
 unfold Oper.wp
 rw [h',Oper.upon_skip]
 refine ⟨undef,rfl,?_⟩
 rw [hk]
 exact yoh (x:=.inl t) (v:=.agg (setsFrom cs off (a.eval y).cells.toList)) (fun b h=>yew (x:=.inl t) (zhl hb) rfl h) hp0 hB hu (fun w' e'=>by
  obtain ⟨cs',e1,_,_,hp'⟩:=hφ w' e'
  cases e1
  exact zew h2 h3 hz hbd hm hd hcy (hv w' e') hp') _
theorem ybu {T:TypeId}{f d n sz:Nat}{x:Operand}{φ χ:Pr}(ho:ops[i]? = some o)(hw:Wants ops l bx sl i o)(hop:o.op=.fieldAddr T x f)(hx:Opnd ops l bx sl i x (AtE n φ))(hr:∀ (ρ:Operand->Value) (w:World) (b k:Nat),ρ x=.pointer (some ⟨b,k,none⟩)->(execOp ρ { o with op:=.fieldAddr T x f }).run Tryz.prog w=.ok (.value (.pointer (some ⟨b,k+d,none⟩))) w)
  (hp:∀ u w,u.cells.size=n->φ u w->∃ p,(∀ (j:Nat) y,p.cells[j]? = some y->u.cells[d+j]? = some y)/\p.cells.size=sz/\χ p w) (hk:kdAt l i=.val (AtE sz χ)):Owed Tryz.prog ops Q l bx sl a0 n0 w0 i:=
 ycs ho hw hk fun vs B a w c=>by
  have h:=hx a0 n0 w0 vs B a w c
  obtain ⟨b,f',u,e,_,_,_⟩:=id h.now
  refine ⟨.pointer (some ⟨b,f'+d,none⟩),?_,fun w' ev=>?_⟩
  ·rw [← hr a.eval w b f' e]
   unfold execOp
   rw [hop]
  ·obtain ⟨b',f'',u',e',hc',hs',hφ'⟩:=h w' ev
   rw [e] at e'
   simp at e'
   obtain ⟨rfl,rfl⟩:=e'
   obtain ⟨p,h1,h2,h3⟩:=hp u' w' hs' hφ'
   refine ⟨b,f'+d,p,rfl,fun j y hy=>?_,h2,h3⟩
   rw [Nat.add_assoc]
   exact hc' _ _ (h1 j y hy)
theorem ycq {φ:Pr}{x:Operand}(ho:ops[i]? = some o)(hw:Wants ops l bx sl i o)(hop:o.op=.nilCheck x)(hx:Opnd ops l bx sl i x φ)(hp:∀ v w,φ v w->∃ b k,v=.pointer (some ⟨b,k,none⟩))(hk:kdAt l i=.val φ):Owed Tryz.prog ops Q l bx sl a0 n0 w0 i:=
 ycs ho hw hk fun vs B a w c=>by
  have h:=hx a0 n0 w0 vs B a w c
  obtain ⟨g,k,e⟩:=hp _ _ h.now
  refine ⟨a.eval x,?_,h⟩
  rw [e]
  unfold execOp
  rw [hop]
  clear h hx c
  generalize a.eval=ρ at e
  go_simp
theorem yfg {f:FuncId}{x:Operand}{φ χ:Pr}{ts:Array TypeId}(ho:ops[i]? = some o)(hw:Wants ops l bx sl i o)(hop:o.op=.call { callee:=.value (.func f),args:=#[x],argTypes:=ts })(hx:Opnd ops l bx sl i x φ)(hk:kdAt l i=.val χ)(hcf:∀ args w,(callFunc f args).run Tryz.prog w=.ok (.enter f args) w)
  (C:∀ (B:Nat->Prop) w u,w0.heap.size<=w.heap.size->(∀ k,B k->k < w.heap.size)->Has B w φ u->Calls Tryz.prog f #[u] w fun e w'=>∃ r,e=.returned r/\Below w.heap.size w w'/\Has B w' χ r):Owed Tryz.prog ops Q l bx sl a0 n0 w0 i:=
 yjb ho hw hop hk hcf fun vs B a w c=>by
  rw [show (#[x]:Array Operand).map a.eval=#[a.eval x] from by simp]
  exact C B w _ c.lo (fun k hk=>(c.bnd k hk).2) (hx a0 n0 w0 vs B a w c)
theorem yda {f:FuncId}{x y:Operand}{φ ψ χ:Pr}{ts:Array TypeId}(ho:ops[i]? = some o)(hw:Wants ops l bx sl i o)(hop:o.op=.call { callee:=.value (.func f),args:=#[x,y],argTypes:=ts })(hx:Opnd ops l bx sl i x φ)(hy:Opnd ops l bx sl i y ψ)(hk:kdAt l i=.val χ)(hcf:∀ args w,(callFunc f args).run Tryz.prog w=.ok (.enter f args) w)
  (C:∀ (B:Nat->Prop) w u v,w0.heap.size<=w.heap.size->(∀ k,B k->k < w.heap.size)->Has B w φ u->Has B w ψ v->Calls Tryz.prog f #[u,v] w fun e w'=>∃ r,e=.returned r/\Below w.heap.size w w'/\Has B w' χ r):Owed Tryz.prog ops Q l bx sl a0 n0 w0 i:=
 yjb ho hw hop hk hcf fun vs B a w c=>by
  rw [show (#[x,y]:Array Operand).map a.eval=#[a.eval x,a.eval y] from by simp]
  exact C B w _ _ c.lo (fun k hk=>(c.bnd k hk).2) (hx a0 n0 w0 vs B a w c) (hy a0 n0 w0 vs B a w c)
end
def PI (v0:Value)(φ:Pr):Pr:=fun v w=>v=v0/\φ v w
def Pl (vs:List Value)(φs:List Pr):List Pr:=List.zipWith PI vs φs
def ArC (sz n:Nat)(φs:List Pr):Pr:=fun v w=>Ar sz n φs v w/\∃ p,v=.slice p n n
def ArN (sz n:Nat)(φs:List Pr)(lo:Nat):Pr:=fun v w=>Ar sz n φs v w/\∀ b o n c,v=.slice (some ⟨b,o,none⟩) n c->lo<=b
theorem zb2 {B:Nat->Prop}{w:World}{sz n:Nat}{φs:List Pr}{v:Value}(hz:0 < sz)(hc:∀ (k:Nat) φ,φs[k]? = some φ->Cel sz φ)(h:Has B w (Ar sz n φs) v):
  ∃ us:List Value,us.length=n/\(∀ u ∈ us,Celv sz u)/\(∀ (k:Nat) u φ,us[k]? = some u->φs[k]? = some φ->Has B w φ u)/\∃ p c,v=.slice p n c/\(p=none->n=0)/\∀ a,p=some a->∀ (j:Nat) x,(cellsOf us)[j]? = some x->w.cell? (a.add j)=some x:=by
 obtain ⟨p,c,rfl,hl,hb,ha⟩:=id h.now
 have key:∀ k:Nat,∃ u:Value,∀ φ,φs[k]? = some φ->Celv sz u/\Has B w φ u/\∃ b o,p=some ⟨b,o,none⟩/\∀ (j:Nat) x,u.cells[j]? = some x->w.cell? ⟨b,o+sz*k+j,none⟩=some x:=fun k=>by
  cases hk:φs[k]? with
  | none=>exact ⟨undef,fun φ hφ=>by cases hφ⟩
  | some φ =>
   obtain ⟨b,o,c',e1,_,hat⟩:=yzi h hk
   obtain ⟨b',o',u,e2,h1,h2,h3⟩:=yo0 hz (hc k φ hk) hat
   cases e1
   cases e2
   exact ⟨u,fun φ' hφ'=>by cases hφ'; exact ⟨h2,h3,_,_,rfl,h1⟩⟩
 obtain ⟨f,hf⟩:=Classical.axiomOfChoice key
 have hget:∀ k u,((List.range n).map f)[k]? = some u->u=f k/\∃ φ,φs[k]? = some φ:=fun k u hu=>by
  rw [zhi] at hu
  obtain ⟨k',h1,rfl⟩:=zkk.1 hu
  have hlt:=(zhh.1 h1).1
  rw [List.length_range] at hlt
  rw [zh5 hlt] at h1
  cases h1
  exact ⟨rfl,_,zhj (by omega)⟩
 have hcv:∀ u ∈ (List.range n).map f,Celv sz u:=fun u hu=>by
  obtain ⟨k,hk⟩:=List.mem_iff_getElem?.1 hu
  obtain ⟨rfl,φ,hφ⟩:=hget k u hk
  exact (hf k φ hφ).1
 refine ⟨(List.range n).map f,by simp,hcv,fun k u φ hu hφ=>?_,p,c,rfl,fun e=>?_,fun a ea j x hj=>?_⟩
 ·obtain ⟨rfl,_⟩:=hget k u hu
  exact (hf k φ hφ).2.1
 ·by_cases hn:n=0
  ·exact hn
  ·obtain ⟨φ,hφ⟩:∃ φ,φs[0]? = some φ:=⟨_,zhj (by omega)⟩
   obtain ⟨_,_,b,o,e1,_⟩:=hf 0 φ hφ
   rw [e] at e1
   cases e1
 ·have hlt:=(zhh.1 hj).1
  rw [ycm hcv,zks,List.length_range] at hlt
  have hk:j / sz < n:=zik (by rw [zhd]; exact hlt)
  obtain ⟨φ,hφ⟩:∃ φ,φs[j / sz]? = some φ:=⟨_,zhj (by omega)⟩
  obtain ⟨c1,_,b,o,e1,h1⟩:=hf _ φ hφ
  have hg:((List.range n).map f)[j / sz]? = some (f (j / sz)):=by rw [zhi,zh5 hk]; rfl
  have hr:=yg2 hcv hg (j % sz) (zic _ hz)
  have ej:j / sz*sz+j % sz=j:=by rw [zhd]; exact zh9 j sz
  rw [ej,hj] at hr
  have:=h1 _ _ hr.symm
  rw [e1] at ea
  cases ea
  rw [yc5,← this]
  congr 2
  rw [zhd] at ej
  omega
section
variable {ops:Array Oper} {l:List Kd} {bx:Bxs} {sl:List (Tmp × Pr)} {i:Nat} {o:Oper} {Q:Exit->Act->World->Prop} {a0:Act} {n0:Nat} {w0:World}
theorem ypt {x y z:Operand}{sz n:Nat}{φs:List Pr}(ho:ops[i]? = some o)(hw:Wants ops l bx sl i o)(hop:o.op=.slice 35 x none (some y) (some z))(hx:Opnd ops l bx sl i x (Ar sz n φs))(hy:Opnd ops l bx sl i y (iV (n:Nat)))(hz:Opnd ops l bx sl i z (iV (n:Nat)))(hk:kdAt l i=.val (ArC sz n φs)):Owed Tryz.prog ops Q l bx sl a0 n0 w0 i:=
 ycs ho hw hk fun vs B a w c=>by
  have h:=hx a0 n0 w0 vs B a w c
  have hyv:a.eval y=.int .i64 (n:Nat):=(hy a0 n0 w0 vs B a w c).now
  have hzv:a.eval z=.int .i64 (n:Nat):=(hz a0 n0 w0 vs B a w c).now
  obtain ⟨p,k,e,_,⟨h1,h2,h3⟩,_⟩:=id h.now
  refine ⟨.slice p n n,?_,fun w' ev=>?_⟩
  ·unfold execOp
   rw [hop]
   clear h hx hy hz c
   generalize a.eval=ρ at e hyv hzv
   cases p with
   | none =>
    have hk0:k=0:=h3 rfl
    subst hk0
    obtain rfl:n=0:=by omega
    go_simp
   | some b=>go_simp
  ·obtain ⟨p',k',e',l',⟨g1,g2,g3⟩,a'⟩:=h w' ev
   rw [e] at e'
   cases e'
   exact ⟨⟨p,n,rfl,l',⟨zha _,by omega,fun q=>by have:=g3 q; omega⟩,a'⟩,p,rfl⟩
theorem yja {x y:Operand}{T E sz bytes m lo:Nat}{φs:List Pr}{χ:Pr}(ho:ops[i]? = some o)(hw:Wants ops l bx sl i o)(hop:o.op=.call { callee:=.builtin .append,args:=#[x,y],argTypes:=#[T,T] })(hx:Opnd ops l bx sl i x (ArC sz m φs))(hcx:∀ (k:Nat) φ,φs[k]? = some φ->Cel sz φ)(hy:Opnd ops l bx sl i y (Sng E sz χ lo))(hE:EInf E sz bytes)(hT:Tryz.prog.underlying T=some (.slice E))(hl:m+1<=maxLen/\2*(m+1)*bytes<=281474976710656)(hk:kdAt l i=.val (ArN sz (m+1) (φs ++ [χ]) w0.heap.size)):Owed Tryz.prog ops Q l bx sl a0 n0 w0 i:=
 yfw ho hw hk fun vs B a w c=>by
  obtain ⟨⟨i0,z,hi,hzr,hsz,hby,hzs⟩,hpos⟩:=id hE
  have hX:=hx a0 n0 w0 vs B a w c
  have hY:=hy a0 n0 w0 vs B a w c
  obtain ⟨us,hul,hcv,hall,p,cc,e1,hp0,hcells⟩:=zb2 hpos hcx (hX.imp (fun w h=>h.1))
  obtain ⟨p',e2⟩:=hX.now.2
  rw [e1] at e2
  simp only [Value.slice.injEq,true_and] at e2
  obtain ⟨e3,e4⟩:=e2
  subst e3
  have e5:=e4.symm
  subst e5
  have hlφ:φs.length=m:=by obtain ⟨_,_,_,h,_⟩:=hX.now.1; exact h
  have hmy:0 < 1*sz:=by omega
  obtain ⟨g,c',ys,ey,⟨k1,k2,k3⟩,k4,k5,hχ⟩:=zbj hmy (hY.imp (fun w h=>zb6 _ w h))
  have hnews:∀ j u,ys[j]? = some u->w.cell? ((⟨g,0,none⟩:Addr).add j)=some u:=fun j u hu=>by
   rw [yc5]
   simp only [World.cell?,k4,zig]
   simpa using hu
  have holds:(cellsOf us).length=m*sz:=by rw [ycm hcv,hul]
  have hrun:∃ cap,(Builtin.append_ #[T,T] o.type #[.slice p m m,.slice (some ⟨g,0,none⟩) 1 c']).run Tryz.prog w=.ok (.slice (some ⟨w.heap.size,0,none⟩) (m+1) cap) (w.drew.alloc (.cells ((cellsOf us).toArray ++ ys.toArray ++ Builtin.zeroCells z.cells (cap-(m+1))) E))/\m+1<=cap/\cap<=maxLen:=by
   have hb:i0.bytes=bytes:=hby
   cases p with
   | none =>
    have hm0:=hp0 rfl
    subst hm0
    have hus:us=[]:=zib.1 hul
    subst hus
    have h:=run_append_nil (P:=Tryz.prog) w T o.type E i0 z hT hi hzr ⟨g,0,none⟩ 1 c' ys (by rw [hsz]; exact k1) hnews (by omega) (by omega) (by rw [hb]; omega)
    refine ⟨grownCap w 1 0 E,?_,grownCap_ge w 1 0 E,grownCap_le_maxLen w 1 0 E (by omega)⟩
    rw [h]
    simp [cellsOf]
   | some b =>
    have hc48:Builtin.nextslicecap (m+1) m*bytes<=281474976710656:=zhb (zhn _ (nextslicecap_le (by omega))) hl.2
    have h:=run_append_grow (P:=Tryz.prog) w T o.type E i0 z hT hi hzr b m m (cellsOf us) (by rw [hsz]; exact holds) (hcells b rfl) ⟨g,0,none⟩ 1 c' ys (by rw [hsz]; exact k1) hnews (by omega) (by have:=hl.1; unfold maxLen at this; omega) (by rw [hb]; exact hc48)
    exact ⟨grownCap w (m+1) m E,h,grownCap_ge _ _ _ _,grownCap_le_maxLen _ _ _ _ hl.1⟩
  obtain ⟨cap,hr,hc1,hc2⟩:=hrun
  have hb:Below w.heap.size w (w.drew.alloc (.cells ((cellsOf us).toArray ++ ys.toArray ++ Builtin.zeroCells z.cells (cap-(m+1))) E)):=((Below.refl w.heap.size w).drew).alloc (zha _) _
  refine ⟨.slice (some ⟨w.heap.size,0,none⟩) (m+1) cap,_,?_,hb,fun w'' e''=>?_⟩
  ·unfold execOp
   rw [hop]
   simp only [resolve,invoke,builtin,Sem.run_bind,Sem.run_pure,Result.andThen_ok,List.map_toArray,zje,List.map_nil,e1,ey,hr]
  ·have ev:Ev B w w'':=⟨e''.os.trans hb.os,e''.tape.trans hb.tape,e''.output.trans hb.output,zhb hb.size e''.size,fun k hk hn=>(e''.block k (zhe hk hb.size) hn).trans (hb.block k hk)⟩
   obtain ⟨vs',ey',evl,evc,ever⟩:=hχ w'' ev
   match vs',evl with
   | [y0],_ =>
    have hblk:w''.heap[w.heap.size]? = some (.cells ((cellsOf us).toArray ++ ys.toArray ++ Builtin.zeroCells z.cells (cap-(m+1))) E (0,0)):=by
     rw [e''.block w.heap.size (zhf.1 (heap_alloc_last w.drew _)).1 (fun hB=>by have:=(c.bnd _ hB).2; omega)]
     exact heap_alloc_last _ _
    have eapp:cellsOf us ++ ys=cellsOf (us ++ [y0]):=by rw [yea,ey']
    have hcv':∀ u ∈ us ++ [y0],Celv sz u:=fun u hu=>by
     rcases zjn.1 hu with h | h
     ·exact hcv u h
     ·exact evc u h
    have hown:w''.ownsRow w0.heap.size E sz (.slice (some ⟨w.heap.size,0,none⟩) (m+1) cap) (m+1) (cellsOf us ++ ys):=by
     refine ⟨by rw [zhx,holds,k1,zhv],Or.inr ⟨w.heap.size,cap,_,rfl,c.lo,hblk,hc1,hc2,?_,?_⟩⟩
     ·simp only [Array.size_append,zjv,holds,k1,size_zeroCells,hzs]
      rw [Nat.sub_mul,zhv]
      have:=zhn sz hc1
      rw [zhv] at this
      omega
     ·simp only [Array.toList_append]
      rw [List.take_append_of_le_length (by simp [holds,k1,zhv]),zhg (by simp [holds,k1,zhv])]
    refine ⟨yyp hpos _ w'' _ hown ⟨us ++ [y0],eapp,by simp [hul,hlφ],hcv',fun j u φ hu hφ=>?_⟩,fun b o' n' c'' e=>by cases e; exact c.lo⟩
    rcases zi0 j m with hj | hj
    ·rw [zh1 (by omega)] at hu hφ
     exact hall j u φ hu hφ w'' ev
    ·rw [zhq (by omega),hul] at hu
     rw [zhq (by omega),hlφ] at hφ
     exact ever _ u φ hu hφ
end
theorem yn9 {sh:List Int}{L:List (List Int)}{n i:Nat}:∀ {m k:Nat},k < m->(fbL sh L n i m)[k]? = some (sh.getD k 0*(L.getD (n-1-k) []).getD i 0)
 | m+1,k,h=>by
  have hl:=yfs sh L n i m
  rw [fbL]
  rcases zi0 k m with h1 | h1
  ·rw [zh1 (by omega)]
   exact yn9 h1
  ·obtain rfl:k=m:=by omega
   rw [zhq (by omega),hl,zio]
   rfl
theorem ypb {sh:List Int}{L:List (List Int)}{Ks K:Nat}(hs:Dl sh Ks)(hL:Mdl L K)(n i k:Nat):Dl (fbL sh L n i k) (Ks+K):=fun j z h=>by
 have hl:=yfs sh L n i k
 have hj:j < k:=by have:=(zhh.1 h).1; omega
 rw [yn9 hj] at h
 simp only [Option.some.injEq] at h
 rw [← h,zh3]
 exact yaq (yb2 hs _) (yb2 (yle hL _) _)
def shL (x:List Int)(dn:Int)(τ:List Int)(n:Nat):Nat->List Int
 | 0=>[]
 | k+1=>shL x dn τ n k ++ [x.getD k 0*dn-τ.getD (n-1-k) 0]
theorem ygf (x:List Int)(dn:Int)(τ:List Int)(n:Nat):∀ k,(shL x dn τ n k).length=k
 | 0=>rfl
 | k+1=>by simp [shL,ygf x dn τ n k]
theorem yop {x:List Int}{dn:Int}{τ:List Int}{n:Nat}:∀ {m k:Nat},k < m->(shL x dn τ n m)[k]? = some (x.getD k 0*dn-τ.getD (n-1-k) 0)
 | m+1,k,h=>by
  have hl:=ygf x dn τ n m
  rw [shL]
  rcases zi0 k m with h1 | h1
  ·rw [zh1 (by omega)]
   exact yop h1
  ·obtain rfl:k=m:=by omega
   rw [zhq (by omega),hl,zio]
   rfl
theorem zb0 {nD nL nT K:Nat}{D:List Int}{L:List (List Int)}{τ:List Int}{dn:Int}{u:Value}{w:World}(h:AM (Vv nD D K) (Mv nL L K) (Vv nT τ K) (Zv dn K) u w):Dl D K/\Mdl L K/\Dl τ K/\(digs dn.natAbs).length<=K:=by
 obtain ⟨_,_,_,_,_,_,_,a,b,c,d⟩:=h
 exact ⟨yie a,ytg b,yie c,yxs d⟩
theorem zct {D sh:List Int}{L:List (List Int)}{Kd Ks n k:Nat}(hD:Dl D Kd)(hL:Mdl L Kd)(hs:Dl sh Ks):(digs (fW D sh L n k).natAbs).length<=Ks+Kd+k+1:=by
 have h1:(digs (sh.getD k 0*D.getD (n-1-k+1) 0).natAbs).length<=Ks+Kd+k:=zhb (yet (yb2 hs _) (yb2 hD _)) (by omega)
 have h2:=yl9 (ypb hs hL n (n-1-k) k) k
 rw [zhg (by rw [yfs]; omega)] at h2
 exact yj7 h1 h2
theorem ybd:Strct 75 8:=⟨⟨_,Tryz.underlying75,rfl⟩,by kernel_rfl⟩
abbrev ZSP:Value:=.agg #[.pointer none,.slice none 0 0,.bool false,.slice none 0 0,.bool false,.slice none 0 0,.bool false,.slice none 0 0]
theorem yks:Shp 8 (Is ZSP):=fun u w h=>⟨_,h,rfl,by simp [Value.oneCell']⟩
theorem yfa (ρ:Operand->Value)(o:Oper)(w:World):(execOp ρ { o with op:=.alloc 75 }).run Tryz.prog w=.ok (.value (.pointer (some ⟨w.heap.size,0,none⟩))) (w.alloc (.cells (ZSP).cells 75 (0,0))):=by
 unfold execOp
 go_simp
theorem yek {φ:Pr}(h:Shp 8 φ)(ρ:Operand->Value)(o:Oper)(x:Operand)(w:World)(hφ:φ (ρ x) w):(execOp ρ { o with op:=.box 75 x }).run Tryz.prog w=.ok (.value (.pointer (some ⟨w.heap.size,0,none⟩))) (w.alloc (.cells (ρ x).cells 75 (0,0))):=by
 obtain ⟨cs,e,h1,h2⟩:=h _ _ hφ
 unfold execOp
 rw [e]
 go_simp
theorem ycv (ρ:Operand->Value)(o:Oper)(x:Operand)(w:World)(b f:Nat)(h:ρ x=.pointer (some ⟨b,f,none⟩)):(execOp ρ { o with op:=.fieldAddr 75 x 0 }).run Tryz.prog w=.ok (.value (.pointer (some ⟨b,f,none⟩))) w:=by
 unfold execOp
 go_simp
theorem yep (ρ:Operand->Value)(o:Oper)(x:Operand)(w:World)(b f:Nat)(h:ρ x=.pointer (some ⟨b,f,none⟩)):(execOp ρ { o with op:=.fieldAddr 75 x 1 }).run Tryz.prog w=.ok (.value (.pointer (some ⟨b,f+1,none⟩))) w:=by
 unfold execOp
 go_simp
theorem ygq (ρ:Operand->Value)(o:Oper)(x:Operand)(w:World)(b f:Nat)(h:ρ x=.pointer (some ⟨b,f,none⟩)):(execOp ρ { o with op:=.fieldAddr 75 x 2 }).run Tryz.prog w=.ok (.value (.pointer (some ⟨b,f+2,none⟩))) w:=by
 unfold execOp
 go_simp
theorem yeq (ρ:Operand->Value)(o:Oper)(x:Operand)(w:World)(b f:Nat)(h:ρ x=.pointer (some ⟨b,f,none⟩)):(execOp ρ { o with op:=.fieldAddr 75 x 3 }).run Tryz.prog w=.ok (.value (.pointer (some ⟨b,f+4,none⟩))) w:=by
 unfold execOp
 go_simp
theorem yd7 (ρ:Operand->Value)(o:Oper)(x:Operand)(w:World)(b f:Nat)(h:ρ x=.pointer (some ⟨b,f,none⟩)):(execOp ρ { o with op:=.fieldAddr 75 x 4 }).run Tryz.prog w=.ok (.value (.pointer (some ⟨b,f+6,none⟩))) w:=by
 unfold execOp
 go_simp
def isPt (v:Value):Prop:=∃ b k,v=.pointer (some ⟨b,k,none⟩)
theorem ydt:Ldr 73 1:=fun ρ o x w b k u hu hc hx=>by
 obtain ⟨e,h1⟩:=celv1 hu
 have h2:w.cell? ⟨b,k,none⟩=some u:=hc 0 u (by rw [e]; rfl)
 clear hc hu e
 unfold execOp
 go_simp
abbrev AP (pa:Value)(nD nL nT K:Nat)(D:List Int)(L:List (List Int))(τ:List Int)(dn:Int):Pr:=PI pa (AtE 5 (AM (Vv nD D K) (Mv nL L K) (Vv nT τ K) (Zv dn K)))
theorem yf4 {pa:Value}{nD nL nT K:Nat}{D:List Int}{L:List (List Int)}{τ:List Int}{dn:Int}:∀ v w,AP pa nD nL nT K D L τ dn v w->AtE 5 (AM (Vv nD D K) (Mv nL L K) (Vv nT τ K) (Zv dn K)) v w:=fun v w h=>h.2
theorem yf2 {pa:Value}{nD nL nT K:Nat}{D:List Int}{L:List (List Int)}{τ:List Int}{dn:Int}:∀ v w,AP pa nD nL nT K D L τ dn v w->isPt v:=fun v w h=>by obtain ⟨b,o,u,e,_⟩:=h.2; exact ⟨b,o,e⟩
theorem yn1 {pa:Value}{φ:Pr}:∀ v w,PI pa φ v w->Is pa v w:=fun v w h=>h.1
theorem ymf {pd pl pt pz:Pr}:∀ u w,u.cells.size=5->AM pd pl pt pz u w->∃ p,(∀ (j:Nat) y,p.cells[j]? = some y->u.cells[0+j]? = some y)/\p.cells.size=2/\SF [pd,pl] p w:=by
 rintro u w _ ⟨x,y,t,p,q,rfl,h,a,b,_,_⟩
 have h':x.oneCell'=true/\y.oneCell'=true:=by simp at h; exact ⟨h.1,h.2.1⟩
 refine ⟨.agg #[x,y],fun j z hz=>?_,rfl,_,rfl,rfl,by simp [h'],fun f r hr=>?_⟩
 ·match j,hz with
  | 0,hz=>exact hz
  | 1,hz=>exact hz
  | j+2,hz=>simp [Value.cells] at hz
 ·match f,hr with
  | 0,hr=>simp at hr; subst hr; exact ⟨_,rfl,a⟩
  | 1,hr=>simp at hr; subst hr; exact ⟨_,rfl,b⟩
theorem zb1 {pd pl pt pz:Pr}:∀ u w,u.cells.size=5->AM pd pl pt pz u w->∃ p,(∀ (j:Nat) y,p.cells[j]? = some y->u.cells[2+j]? = some y)/\p.cells.size=1/\pt p w:=by
 rintro u w _ ⟨x,y,t,p,q,rfl,h,_,_,a,_⟩
 have h':t.oneCell'=true:=by simp at h; exact h.2.2.1
 have e:t.cells=#[t]:=by cases t <;> first | rfl | simp [Value.oneCell'] at h'
 refine ⟨t,fun j z hz=>?_,by rw [e]; rfl,a⟩
 rw [e] at hz
 match j,hz with
 | 0,hz=>exact hz
 | j+1,hz=>simp at hz
theorem yqp {pd pl pt pz:Pr}:∀ u w,u.cells.size=5->AM pd pl pt pz u w->∃ p,(∀ (j:Nat) y,p.cells[j]? = some y->u.cells[3+j]? = some y)/\p.cells.size=2/\pz p w:=by
 rintro u w _ ⟨x,y,t,p,q,rfl,_,_,_,_,a⟩
 refine ⟨.agg #[p,q],fun j z hz=>?_,rfl,a⟩
 match j,hz with
 | 0,hz=>exact hz
 | 1,hz=>exact hz
 | j+2,hz=>simp [Value.cells] at hz
theorem ynm {pd pl:Pr}{f:Nat}{φ:Pr}(hf:([pd,pl]:List Pr)[f]? = some φ):∀ u w,u.cells.size=2->SF [pd,pl] u w->∃ p,(∀ (j:Nat) y,p.cells[j]? = some y->u.cells[f+j]? = some y)/\p.cells.size=1/\φ p w:=by
 rintro u w _ ⟨cs,rfl,h1,h2,h3⟩
 obtain ⟨x,hx,hφ⟩:=h3 f φ hf
 have h':x.oneCell'=true:=by
  rw [zi3] at h2
  exact h2 x (Array.mem_of_getElem? hx)
 have e:x.cells=#[x]:=by cases x <;> first | rfl | simp [Value.oneCell'] at h'
 refine ⟨x,fun j z hz=>?_,by rw [e]; rfl,hφ⟩
 rw [e] at hz
 match j,hz with
 | 0,hz=>simp at hz; subst hz; exact hx
 | j+1,hz=>simp at hz
theorem yed (ρ:Operand->Value)(x:Operand)(o:Oper)(w:World)(b k:Nat)(h:ρ x=.pointer (some ⟨b,k,none⟩)):(execOp ρ { o with op:=.fieldAddr 104 x 0 }).run Tryz.prog w=.ok (.value (.pointer (some ⟨b,k+0,none⟩))) w:=ytz ρ o x w b k h
theorem yfi (ρ:Operand->Value)(x:Operand)(o:Oper)(w:World)(b k:Nat)(h:ρ x=.pointer (some ⟨b,k,none⟩)):(execOp ρ { o with op:=.fieldAddr 38 x 0 }).run Tryz.prog w=.ok (.value (.pointer (some ⟨b,k+0,none⟩))) w:=yb8 ρ o x w b k h
abbrev SP (pa ps pb pn pr:Pr):Pr:=ST 8 [(0,1,pa),(1,1,ps),(2,2,pb),(4,2,pn),(6,2,pr)]
abbrev SPN (pa ps pb pn pr:Nat->Pr):Nat->Pr:=STN 8 [(0,1,pa),(1,1,ps),(2,2,pb),(4,2,pn),(6,2,pr)]
theorem ype {pa ps pb pn pr:Nat->Pr}(h1:Fresh pa)(h2:Fresh ps)(h3:Fresh pb)(h4:Fresh pn)(h5:Fresh pr):Fresh (SPN pa ps pb pn pr):=ypf fun q hq=>by
 simp only [zj3,List.not_mem_nil,or_false] at hq
 rcases hq with rfl | rfl | rfl | rfl | rfl
 ·exact h1
 ·exact h2
 ·exact h3
 ·exact h4
 ·exact h5
theorem yg1 {pa ps pb pn pr pa' ps' pb' pn' pr':Pr}(h1:∀ v w,pa v w->pa' v w)(h2:∀ v w,ps v w->ps' v w)(h3:∀ v w,pb v w->pb' v w)(h4:∀ v w,pn v w->pn' v w)(h5:∀ v w,pr v w->pr' v w):∀ v w,SP pa ps pb pn pr v w->SP pa' ps' pb' pn' pr' v w:=yy2 fun k p hk=>by
 match k,hk with
 | 0,hk=>simp at hk; subst hk; exact ⟨_,rfl,h1⟩
 | 1,hk=>simp at hk; subst hk; exact ⟨_,rfl,h2⟩
 | 2,hk=>simp at hk; subst hk; exact ⟨_,rfl,h3⟩
 | 3,hk=>simp at hk; subst hk; exact ⟨_,rfl,h4⟩
 | 4,hk=>simp at hk; subst hk; exact ⟨_,rfl,h5⟩
theorem all8 {a b c d e f g h:Value}(h0:a.oneCell'=true)(h1:b.oneCell'=true)(h2:c.oneCell'=true)(h3:d.oneCell'=true)(h4:e.oneCell'=true)(h5:f.oneCell'=true)(h6:g.oneCell'=true)(h7:h.oneCell'=true):(#[a,b,c,d,e,f,g,h]:Array Value).all (·.oneCell')=true:=by
 simp [h0,h1,h2,h3,h4,h5,h6,h7]
theorem zet {x s b0 b1 n0 n1 r0 r1:Value}{pa ps pb pn pr:Pr}{w:World}(ho:(#[x,s,b0,b1,n0,n1,r0,r1]:Array Value).all (·.oneCell')=true)(h1:pa x w)(h2:ps s w)(h3:pb (.agg #[b0,b1]) w)(h4:pn (.agg #[n0,n1]) w)(h5:pr (.agg #[r0,r1]) w):SP pa ps pb pn pr (.agg #[x,s,b0,b1,n0,n1,r0,r1]) w:=by
 refine ⟨_,rfl,rfl,ho,fun k p hk=>?_⟩
 match k,hk with
 | 0,hk=>simp at hk; subst hk; exact h1
 | 1,hk=>simp at hk; subst hk; exact h2
 | 2,hk=>simp at hk; subst hk; exact h3
 | 3,hk=>simp at hk; subst hk; exact h4
 | 4,hk=>simp at hk; subst hk; exact h5
section
variable {ops:Array Oper} {l:List Kd} {bx:Bxs} {sl:List (Tmp × Pr)} {i:Nat} {o:Oper} {Q:Exit->Act->World->Prop} {a0:Act} {n:Nat} {w0:World}
theorem ylh {x y:Operand}{φ χ:Pr}(ho:ops[i]? = some o)(hw:Wants ops l bx sl i o)(hop:o.op=.build 75 #[(0,x),(4,y)])(hx:Opnd ops l bx sl i x φ)(hp:∀ v w,φ v w->isPt v)(hy:Opnd ops l bx sl i y χ)(hS:Shp 2 χ)(hk:kdAt l i=.val (SP φ (Is (.slice none 0 0)) zI zI χ)):Owed Tryz.prog ops Q l bx sl a0 n w0 i:=
 ycs ho hw hk fun vs B a w c=>by
  have h1:=hx a0 n w0 vs B a w c
  have h2:=hy a0 n w0 vs B a w c
  obtain ⟨b,k,e1⟩:=hp _ _ h1.now
  obtain ⟨ds,e2,d1,d2⟩:=hS _ _ h2.now
  match ds,d1,e2,d2 with
  | ⟨[z0,z1]⟩,_,e2,d2 =>
   have d3:z0.oneCell'=true/\z1.oneCell'=true:=by simpa using d2
   refine ⟨.agg #[a.eval x,.slice none 0 0,.bool false,.slice none 0 0,.bool false,.slice none 0 0,z0,z1],?_,fun w' e'=>zet (by rw [e1]; exact all8 rfl rfl rfl rfl rfl rfl d3.1 d3.2) (h1 w' e') rfl rfl rfl (e2 ▸ h2 w' e')⟩
   unfold execOp
   rw [hop]
   clear h1 h2 hx hy d2 c
   generalize a.eval=ρ at e1 e2
   obtain ⟨d4,d5⟩:=d3
   go_simp
theorem yli {x y z t:Operand}{φ ψ χ χ':Pr}(ho:ops[i]? = some o)(hw:Wants ops l bx sl i o)(hop:o.op=.build 75 #[(0,x),(1,y),(3,z),(4,t)])(hx:Opnd ops l bx sl i x φ)(hp:∀ v w,φ v w->isPt v)(hy:Opnd ops l bx sl i y ψ)(hs:∀ v w,ψ v w->∃ p m c,v=.slice p m c)(hz:Opnd ops l bx sl i z χ)(hS:Shp 2 χ)(ht:Opnd ops l bx sl i t χ')(hS':Shp 2 χ')(hk:kdAt l i=.val (SP φ ψ zI χ χ')):Owed Tryz.prog ops Q l bx sl a0 n w0 i:=
 ycs ho hw hk fun vs B a w c=>by
  have h1:=hx a0 n w0 vs B a w c
  have h2:=hy a0 n w0 vs B a w c
  have h3:=hz a0 n w0 vs B a w c
  have h4:=ht a0 n w0 vs B a w c
  obtain ⟨b,k,e1⟩:=hp _ _ h1.now
  obtain ⟨p,m,cc,e2⟩:=hs _ _ h2.now
  obtain ⟨ds,e3,d1,d2⟩:=hS _ _ h3.now
  obtain ⟨fs,e4,f1,f2⟩:=hS' _ _ h4.now
  match ds,d1,e3,d2 with
  | ⟨[z0,z1]⟩,_,e3,d2 =>
   match fs,f1,e4,f2 with
   | ⟨[y0,y1]⟩,_,e4,f2 =>
    have d3:z0.oneCell'=true/\z1.oneCell'=true:=by simpa using d2
    have f3:y0.oneCell'=true/\y1.oneCell'=true:=by simpa using f2
    refine ⟨.agg #[a.eval x,a.eval y,.bool false,.slice none 0 0,z0,z1,y0,y1],?_,fun w' e'=>zet (by rw [e1,e2]; exact all8 rfl rfl rfl rfl d3.1 d3.2 f3.1 f3.2) (h1 w' e') (h2 w' e') rfl (e3 ▸ h3 w' e') (e4 ▸ h4 w' e')⟩
    unfold execOp
    rw [hop]
    clear h1 h2 h3 h4 hx hy hz ht d2 f2 c
    generalize a.eval=ρ at e1 e2 e3 e4
    obtain ⟨d4,d5⟩:=d3
    obtain ⟨f4,f5⟩:=f3
    go_simp
theorem ykj {x:Operand}{φ:Pr}(ho:ops[i]? = some o)(hw:Wants ops l bx sl i o)(hop:o.op=.box 104 x)(hx:Opnd ops l bx sl i x φ)(hS:Shp 5 φ)(hk:kdAt l i=.val (fun v w=>AtE 5 φ v w/\∀ b k,v=.pointer (some ⟨b,k,none⟩)->w0.heap.size<=b)):Owed Tryz.prog ops Q l bx sl a0 n w0 i:=
 yfw ho hw hk fun vs B a w c=>by
  have h1:=hx a0 n w0 vs B a w c
  have hr:=yzl hS a.eval o x w h1.now
  have hb:Below w.heap.size w (w.alloc (.cells (a.eval x).cells 104 (0,0))):=(Below.refl _ _).alloc (zha _) _
  refine ⟨_,_,?_,hb,fun w'' e''=>⟨⟨w.heap.size,0,a.eval x,rfl,fun j y hy=>?_,?_,?_⟩,fun b k e=>by cases e; exact c.lo⟩⟩
  ·rw [← hr]
   unfold execOp
   rw [hop]
  ·have hblk:w''.heap[w.heap.size]? = some (.cells (a.eval x).cells 104 (0,0)):=by
    rw [e''.block w.heap.size (zhf.1 (heap_alloc_last w _)).1 (fun hB=>by have:=(c.bnd _ hB).2; omega)]
    exact heap_alloc_last _ _
   rw [zig,ybl hblk]
   exact hy
  ·obtain ⟨cs,e,h2,_⟩:=hS _ _ h1.now
   rw [e]
   exact h2
  ·exact h1 w'' ⟨e''.os.trans hb.os,e''.tape.trans hb.tape,e''.output.trans hb.output,zhb hb.size e''.size,fun k hk hn=>(e''.block k (zhe hk hb.size) hn).trans (hb.block k hk)⟩
end
theorem ymg {pa u:Value}{nD nL nT K:Nat}{D:List Int}{L:List (List Int)}{τ:List Int}{dn:Int}{w:World}(h:AP pa nD nL nT K D L τ dn u w):Dl D K/\Mdl L K/\Dl τ K/\(digs dn.natAbs).length<=K:=by
 obtain ⟨_,b,o,v,_,_,_,h'⟩:=h
 exact zb0 h'
theorem you {pa ps pb pn pr:Pr}{u:Value}{w:World}(h:SP pa ps pb pn pr u w):∃ a s b n r:Value,pa a w/\ps s w/\pb b w/\pn n w/\pr r w:=by
 obtain ⟨cs,_,_,_,hp⟩:=h
 exact ⟨_,_,_,_,_,hp 0 _ rfl,hp 1 _ rfl,hp 2 _ rfl,hp 3 _ rfl,hp 4 _ rfl⟩
theorem ymp {sh sh':List Int}{L:List (List Int)}{n i:Nat}:∀ {k:Nat},(∀ j,j < k->sh.getD j 0=sh'.getD j 0)->fbL sh L n i k=fbL sh' L n i k
 | 0,_=>rfl
 | k+1,h=>by rw [fbL,fbL,ymp (fun j hj=>h j (by omega)),h k (by omega)]
def fB (sh:List Int)(L:List (List Int))(n k:Nat):Int:=if k=n then 0 else sumZ (fbL sh L n (n-1-k) k)
theorem zfe {f:Nat}{args:Array Value}{w:World}(h:CG f args w (IS (.agg #[.bool false,.slice none 0 0]))):CG f args w (ZN 0):=h.mono fun e w' ⟨v,e1,h1,h2⟩=>⟨v,e1,h1,ymc _ _ h2⟩
theorem zb3 (w:World)(pa:Value)(nD nL nT K:Nat)(D:List Int)(L:List (List Int))(τ:List Int)(dn:Int)(hD:nD<=1048577)(hL:nL<=1048576)(hT:nT<=1048576)(hK:K<=16777216)(lD:D.length=nD)(lL:L.length=nL)(lT:τ.length=nT)(ha:Hs w (AP pa nD nL nT K D L τ dn) pa):
  CG 119 #[pa] w (IS (.int .i64 ((nL:Nat):Int))):=by
 refine yak (sl:=[(0,(AP pa nD nL nT K D L τ dn))]) Tryz.func119 rfl Tryz.ntmps119 (by simp) (yae rfl (ha) yao) ?_
 intro a0 S0
 refine wq [V (iV 0)] [] [.inr 0] S0 ?_ ?_
 ·exact jj1 mC
 intro _ a1 _ (S1:Zt [] [_])
 refine wq [V (AP pa nD nL nT K D L τ dn),V (AP pa nD nL nT K D L τ dn),V (AtE 2 (SF [(Vv nD D K),(Mv nL L K)])),V (AtE 1 (Mv nL L K)),V (Mv nL L K),V (iV (nL:Nat)),V (iV (nL:Nat))] [] [.inl 6] S1 ?_ ?_
 ·repeat' refine And.intro ?_ ?_
  ·trivial
  ·exact mS 0 0
  ·exact ycq rfl wA rfl (oO 0 3) yf2 rfl
  ·exact ybu (d:=0) rfl wA rfl ((oO 1 4).imp yf4) (fun ρ w b k h=>yed ρ _ _ w b k h) ymf rfl
  ·exact ybu (d:=1) rfl wA rfl (oO 2 5) (fun ρ w b k h=>yaw ρ _ _ w b k h) (ynm (f:=1) rfl) rfl
  ·exact alA wA ypm yh8 (oO 3 6)
  ·exact lnA wA (oO 4 7) Tryz.underlying36
  ·exact mO 5 8
 intro _ a2 _ (S2:Zt [] [_])
 refine wp_ret ?_
 exact yav S2 rfl (yay S2 0 2 rfl)
theorem zfl (w:World)(pa:Value)(nD nL nT K:Nat)(D:List Int)(L:List (List Int))(τ:List Int)(dn:Int)(hD:nD<=1048577)(hL:nL<=1048576)(hT:nT<=1048576)(hK:K<=16777216)(lD:D.length=nD)(lL:L.length=nL)(lT:τ.length=nT)(ha:Hs w (AP pa nD nL nT K D L τ dn) pa)(m:Nat)(hm:m < nL):
  CG 126 #[pa,.int .i64 (m:Nat)] w (IS (.int .i64 ((nL-1-m:Nat):Int))):=by
 refine yak (sl:=[(0,(AP pa nD nL nT K D L τ dn)),(1,(iV (m:Nat)))]) Tryz.func126 rfl Tryz.ntmps126 (by simp) (yae rfl (ha) (yae rfl (ycy _) yao)) ?_
 intro a0 S0
 refine wq [V (iV 0)] [] ur2 S0 ?_ ?_
 ·exact jj1 mC
 intro _ a1 _ (S1:Zt [] [_,_])
 refine wq [V (AP pa nD nL nT K D L τ dn),V (iV ((nL:Nat):Int)),V (iV ((nL-1:Nat):Int)),V (iV (m:Nat)),V (iV ((nL-1-m:Nat):Int)),V (iV ((nL-1-m:Nat):Int))] [] [.inl 5] S1 ?_ ?_
 ·exact jj6 (mS 0 0) (ch1 wA (qO 0 5 rfl) (yab _) (fun w u0 h0=>(by obtain rfl:u0=pa:=h0.now.1; exact zb3 w _ nD nL nT K D L τ dn hD hL hT hK lD lL lT h0))) (ydu wA (oO 1 6) (yaa _)) (mS 1 1) (ydu wA (oO 2 7) (oO 3 8)) (mO 4 9)
 intro _ a2 _ (S2:Zt [] [_])
 refine wp_ret ?_
 exact yav S2 rfl (yay S2 0 4 rfl)
theorem zfo (w:World)(pa:Value)(nD nL nT K:Nat)(D:List Int)(L:List (List Int))(τ:List Int)(dn:Int)(hD:nD<=1048577)(hL:nL<=1048576)(hT:nT<=1048576)(hK:K<=16777216)(lD:D.length=nD)(lL:L.length=nL)(lT:τ.length=nT)(ha:Hs w (AP pa nD nL nT K D L τ dn) pa)(x:Value)(X:Int)(Kx i:Nat)(hx:Hs w (Zv X Kx) x)(hi:i < nT)(hKx:Kx<=16777216):
  CG 116 #[pa,x,.int .i64 (i:Nat)] w (ZN (X*dn-τ.getD i 0)):=by
 have hpd:=ymg ha.now
 have hpx:=ye7 hx.now
 have hq1:(digs (X*dn).natAbs).length<=33554432:=by rw [zh3]; exact zhb (yaq hpx hpd.2.2.2) (by omega)
 refine yak (sl:=[(0,(AP pa nD nL nT K D L τ dn)),(1,(Zv X Kx)),(2,(iV (i:Nat)))]) Tryz.func116 rfl Tryz.ntmps116 (by simp) (yae rfl (ha) (yae rfl (hx) (yae rfl (ycy _) yao))) ?_
 intro a0 S0
 refine wq [.new (.box 24 (Zv X Kx)),.new (.box 24 zI)] [.inl 0,.inl 1] [.inr 0,.inr 2] S0 ?_ ?_
 ·exact jj2 (bxA wA (oS 1 1) (yes yan)) (nwA wA yar)
 intro _ a1 _ (S1:Zt [_,_] [_,_])
 refine wq [V (Zv X Kx),V (AP pa nD nL nT K D L τ dn),V (AP pa nD nL nT K D L τ dn),V (AtE 2 (Zv dn K)),V (Zv dn K),Fw (ZN (X*dn)) w,V (AP pa nD nL nT K D L τ dn),V (AP pa nD nL nT K D L τ dn),V (AtE 1 (Vv nT τ K)),V (Vv nT τ K),V (iV (i:Nat)),V (AtE 2 (Zv (τ.getD i 0) K)),V (Zv (τ.getD i 0) K),Fw (ZN ((X*dn)-(τ.getD i 0))) w,.put (.inl 6) (.box 24 ((ZN ((X*dn)-(τ.getD i 0))) w.heap.size))] [.inr 1] [] S1 ?_ ?_
 ·exact ⟨⟨⟨⟨⟨⟨⟨jj8 (loA 0 wA yad yan) (mS 0 0) (ycq rfl wA rfl (oO 1 8) yf2 rfl) (ybu (d:=3) rfl wA rfl ((oO 2 9).imp yf4) (fun ρ w b k h=>yfh ρ _ _ w b k h) yqp rfl) (alC wA yba yan (oO 3 10)) (cc2 wA (qO 0 7 rfl) (qO 4 11 rfl) (yah _) (fun w u v h1 h2=>ydv (by omega) w u v ((fun _ _ h=>h) _ _ h1) ((fun _ _ h=>h) _ _ h2))) (mS 0 0) (ycq rfl wA rfl (oO 6 13) yf2 rfl),ybu (d:=2) rfl wA rfl ((oO 7 14).imp yf4) (fun ρ w b k h=>ym7 ρ _ _ w b k h) zb1 rfl⟩,alA wA ycf yez (oO 8 15)⟩,mS 1 2⟩,axA wA yb5 (oO 9 16) (oO 10 17) (yej (by omega)) rfl⟩,alC wA yba yan (oO 11 18)⟩,cc2 wA (qO 5 12 rfl) (qO 12 19 rfl) (yah _) (fun w u v h1 h2=>ykc (by omega) (by omega) w u v ((ybf hq1) _ _ h1) ((fun _ _ h=>h) _ _ h2))⟩,seA 1 wA (oO 13 20) yad ya9 yai⟩
 intro _ a2 _ (S2:Zt [_] [])
 refine wp_ret ?_
 exact yav S2 rfl (ybb S2 0 6 rfl yad yai)
theorem yw7 (w:World)(pa:Value)(nD nL nT K:Nat)(D:List Int)(L:List (List Int))(τ:List Int)(dn:Int)(hD:nD<=1048577)(hL:nL<=1048576)(hT:nT<=1048576)(hK:K<=16777216)(lD:D.length=nD)(lL:L.length=nL)(lT:τ.length=nT)(u:Value)(k Ks KB KN KR:Nat)(sh:List Int)(b N R:Int)(h:Hs w (SP (AP pa nD nL nT K D L τ dn) (Vv k sh Ks) (Zv b KB) (Zv N KN) (Zv R KR)) u)(hk:k<=nL)(ls:sh.length=k):
  CG 96 #[u] w (IS (.int .i64 ((nL-k:Nat):Int))):=by
 refine yak (sl:=[(0,(SP (AP pa nD nL nT K D L τ dn) (Vv k sh Ks) (Zv b KB) (Zv N KN) (Zv R KR)))]) Tryz.func96 rfl Tryz.ntmps96 (by simp) (yae rfl (h) yao) ?_
 intro a0 S0
 refine wq [.new (.box 75 (SP (AP pa nD nL nT K D L τ dn) (Vv k sh Ks) (Zv b KB) (Zv N KN) (Zv R KR))),V (iV 0)] [.inl 0] [] S0 ?_ ?_
 ·exact jj2 (bxA wA (oS 0 0) (yek yby)) mC
 intro _ a1 _ (S1:Zt [_] [])
 refine wq [V (Part a1 1 0),V (AP pa nD nL nT K D L τ dn),V (iV ((nL:Nat):Int)),V (Part a1 1 1),V (Vv k sh Ks),V (iV (k:Nat)),V (iV ((nL-k:Nat):Int)),V (iV ((nL-k:Nat):Int))] [.inr 0] [.inl 7] S1 ?_ ?_
 ·repeat' refine And.intro ?_ ?_
  ·trivial
  ·exact ptZ wA 0 ycv
  ·exact plA wA (oO 0 3) 0 rfl rfl (ybg ydt (k:=0) rfl (by decide) (by decide))
  ·exact ch1 wA (qO 1 4 rfl) (yab _) (fun w u0 h0=>(by obtain rfl:u0=pa:=h0.now.1; exact zb3 w _ nD nL nT K D L τ dn hD hL hT hK lD lL lT h0))
  ·exact ptA wA 0 yep
  ·exact plA wA (oO 3 6) 0 rfl rfl (ybg ycf (k:=1) rfl (by decide) (by decide))
  ·exact lnA wA (oO 4 7) Tryz.underlying35
  ·exact ydu wA (oO 2 5) (oO 5 8)
  ·exact mO 6 9
 intro _ a2 _ (S2:Zt [_] [_])
 refine wp_ret ?_
 exact yav S2 rfl (yay S2 0 2 rfl)
theorem yov (w:World)(pa:Value)(nD nL nT K:Nat)(D:List Int)(L:List (List Int))(τ:List Int)(dn:Int)(hD:nD<=1048577)(hL:nL<=1048576)(hT:nT<=1048576)(hK:K<=16777216)(lD:D.length=nD)(lL:L.length=nL)(lT:τ.length=nT)(u:Value)(k Ks KB KN KR:Nat)(sh:List Int)(b N R:Int)(h:Hs w (SP (AP pa nD nL nT K D L τ dn) (Vv k sh Ks) (Zv b KB) (Zv N KN) (Zv R KR)) u)(hk:k<=nL)(ls:sh.length=k)(z:Int)(hz:z=(nL:Int)-(k:Int)-1):
  CG 72 #[u] w (IS (.int .i64 z)):=by
 refine yak (sl:=[(0,(SP (AP pa nD nL nT K D L τ dn) (Vv k sh Ks) (Zv b KB) (Zv N KN) (Zv R KR)))]) Tryz.func72 rfl Tryz.ntmps72 (by simp) (yae rfl (h) yao) ?_
 intro a0 S0
 refine wq [.new (.box 75 (SP (AP pa nD nL nT K D L τ dn) (Vv k sh Ks) (Zv b KB) (Zv N KN) (Zv R KR))),V (iV 0)] [.inl 0] [] S0 ?_ ?_
 ·exact jj2 (bxA wA (oS 0 0) (yek yby)) mC
 intro _ a1 _ (S1:Zt [_] [])
 refine wq [V (SP (AP pa nD nL nT K D L τ dn) (Vv k sh Ks) (Zv b KB) (Zv N KN) (Zv R KR)),V (iV ((nL-k:Nat):Int)),V (iV z),V (iV z)] [.inr 0] [.inl 3] S1 ?_ ?_
 ·exact jj4 (loA 0 wA ybd yby) (ch1 wA (qO 0 3 rfl) (yab _) (fun w u0 h0=>(yw7 w pa nD nL nT K D L τ dn hD hL hT hK lD lL lT u0 _ _ _ _ _ _ _ _ _ h0 hk ls))) (ydu wA (oO 1 4) (yaa _)) (mO 2 5)
 intro _ a2 _ (S2:Zt [_] [_])
 refine wp_ret ?_
 exact yav S2 rfl (yay S2 0 2 rfl)
theorem zgr (w:World)(pa:Value)(nD nL nT K:Nat)(D:List Int)(L:List (List Int))(τ:List Int)(dn:Int)(hD:nD<=1048577)(hL:nL<=1048576)(hT:nT<=1048576)(hK:K<=16777216)(lD:D.length=nD)(lL:L.length=nL)(lT:τ.length=nT)(u:Value)(k Ks KB KN KR:Nat)(sh:List Int)(b N R:Int)(h:Hs w (SP (AP pa nD nL nT K D L τ dn) (Vv k sh Ks) (Zv b KB) (Zv N KN) (Zv R KR)) u)(hk:k<=nL)(ls:sh.length=k)(e:k=nL):
  CG 117 #[u] w (IS (.agg #[.bool false,.slice none 0 0])):=by
 refine yak (sl:=[(0,(SP (AP pa nD nL nT K D L τ dn) (Vv k sh Ks) (Zv b KB) (Zv N KN) (Zv R KR)))]) Tryz.func117 rfl Tryz.ntmps117 (by simp) (yae rfl (h) yao) ?_
 intro a0 S0
 refine wq [.new (.box 75 (SP (AP pa nD nL nT K D L τ dn) (Vv k sh Ks) (Zv b KB) (Zv N KN) (Zv R KR))),.new (.box 24 zI)] [.inl 0,.inl 1] [] S0 ?_ ?_
 ·exact jj2 (bxA wA (oS 0 0) (yek yby)) (nwA wA yar)
 intro _ a1 _ (S1:Zt [_,_] [])
 refine wp_seq ?_
 refine wq [V (SP (AP pa nD nL nT K D L τ dn) (Vv k sh Ks) (Zv b KB) (Zv N KN) (Zv R KR)),V (iV ((nL-k:Nat):Int)),kT] ur2 [.inl 2] S1 ?_ ?_
 ·exact jj3 (loA 0 wA ybd yby) (ch1 wA (qO 0 6 rfl) (yab _) (fun w u0 h0=>(yw7 w pa nD nL nT K D L τ dn hD hL hT hK lD lL lT u0 _ _ _ _ _ _ _ _ _ h0 hk ls))) (ycl wA (oO 1 7) (yaa _))
 intro _ a2 _ (S2:Zt [_,_] [_])
 refine wp_cond_true (S2.bool 0 8 rfl) ?_
 refine wq [.val zI,.put (.inl 2) (.box 24 zI)] ur2 [] S2 ?_ ?_
 ·exact jj2 (yde rfl wA rfl rfl) (seA 1 wA (oO 0 9) yad ya9 ya9)
 intro _ a3 _ (S3:Zt [_,_] [])
 refine wp_ret (thenR ?_)
 exact yav S3 rfl (ybb S3 1 2 rfl yad ya9)
theorem zgs (w:World)(pa:Value)(nD nL nT K:Nat)(D:List Int)(L:List (List Int))(τ:List Int)(dn:Int)(hD:nD<=1048577)(hL:nL<=1048576)(hT:nT<=1048576)(hK:K<=16777216)(lD:D.length=nD)(lL:L.length=nL)(lT:τ.length=nT)(u:Value)(k Ks KB KN KR:Nat)(sh:List Int)(b N R:Int)(h:Hs w (SP (AP pa nD nL nT K D L τ dn) (Vv k sh Ks) (Zv b KB) (Zv N KN) (Zv R KR)) u)(hk:k<=nL)(ls:sh.length=k)(hlk:k < nL)(hKs:Ks<=67108864)(hr:∀ j,j < nL->(L.getD j []).length=j):
  CG 117 #[u] w (ZN (sumZ (fbL sh L nL (nL-1-k) k))):=by
 obtain ⟨_,_,_,_,_,ha,hsv,_,_,_⟩:=you h.now
 have hamd:=ymg ha
 have hdx:=yie hsv
 refine yak (sl:=[(0,(SP (AP pa nD nL nT K D L τ dn) (Vv k sh Ks) (Zv b KB) (Zv N KN) (Zv R KR)))]) Tryz.func117 rfl Tryz.ntmps117 (by simp) (yae rfl (h) yao) ?_
 intro a0 S0
 refine wq [.new (.box 75 (SP (AP pa nD nL nT K D L τ dn) (Vv k sh Ks) (Zv b KB) (Zv N KN) (Zv R KR))),.new (.box 24 zI)] [.inl 0,.inl 1] [] S0 ?_ ?_
 ·exact jj2 (bxA wA (oS 0 0) (yek yby)) (nwA wA yar)
 intro _ a1 _ (S1:Zt [_,_] [])
 refine wp_seq ?_
 refine wq [V (SP (AP pa nD nL nT K D L τ dn) (Vv k sh Ks) (Zv b KB) (Zv N KN) (Zv R KR)),V (iV ((nL-k:Nat):Int)),kF] ur2 [.inl 2] S1 ?_ ?_
 ·exact jj3 (loA 0 wA ybd yby) (ch1 wA (qO 0 6 rfl) (yab _) (fun w u0 h0=>(yw7 w pa nD nL nT K D L τ dn hD hL hT hK lD lL lT u0 _ _ _ _ _ _ _ _ _ h0 hk ls))) (ycd wA (oO 1 7) (yaa _))
 intro _ a2 _ (S2:Zt [_,_] [_])
 refine wp_cond_false (S2.bool 0 8 rfl) (wp_skip (thenN ?_))
 refine wq [V (Part a2 1 1),V (Vv k sh Ks),V (iV (k:Nat)),.new (.row 24 2 k (CE 2 (List.replicate k zI))),.ref 3] [.inr 0,.inr 1,.inl 4] [] S2 ?_ ?_
 ·exact jj5 (ptA wA 0 yep) (plA wA (oO 0 10) 0 rfl rfl (ybg ycf (k:=1) rfl (by decide) (by decide))) (lnA wA (oO 1 11) Tryz.underlying35) (yjd rfl wA rfl Tryz.underlying35 infoInt yn5 (by decide) (oO 2 12) ⟨by omega,by unfold maxLen; omega⟩ rfl) (yog 3 rfl wA (Or.inr rfl) (by kernel_rfl) rfl rfl)
 intro _ a3 _ (S3:Zt [_,_,_] [])
 refine wp_seq ?_
 refine wq [V (Part a3 1 1),V (Vv k sh Ks),V (iV (k:Nat)),V (iV 0)] ur3 [.inl 1,.inl 2,.inl 3] S3 ?_ ?_
 ·exact jj4 (ptA wA 0 yep) (plA wA (oO 0 14) 0 rfl rfl (ybg ycf (k:=1) rfl (by decide) (by decide))) (lnA wA (oO 1 15) Tryz.underlying35) mC
 intro B4 a4 _ (S4:Zt [_,_,_] [_,_,_])
 refine wp_block ?_
 refine ybi (fun (k0:Nat) a W=>(k0<=k)/\∃ Bq,Sta w 46 [(1,(.box 75 (SP (AP pa nD nL nT K D L τ dn) (Vv k sh Ks) (Zv b KB) (Zv N KN) (Zv R KR)))),(2,(.box 24 zI)),(3,(.row 24 2 k (CE 2 ((((fbL sh L nL (nL-1-k) k).map ZN).map (· w.heap.size)).take k0 ++ List.replicate (k-k0) zI))))] [(15,Vv k sh Ks),(16,iV (k:Nat)),(17,iV (k0:Nat))] Bq a W) (fun (k0:Nat)=>k-k0) ?_ 0 ⟨zhs _,B4,S4.sub [0,1,2] [0,1,2]⟩
 rintro k0 a5 _ ⟨hcond,_,S5⟩
 by_cases hlt:k0 < k
 ·have hset:=yqb (z:=Is (.agg #[.bool false,.slice none 0 0])) (xs:=((fbL sh L nL (nL-1-k) k).map ZN).map (· w.heap.size)) (n:=k) (by simp [yfs]) (ye0 (· w.heap.size) (ye0 ZN (yn9 (sh:=sh) (L:=L) (n:=nL) (i:=nL-1-k) hlt)))
  have hrk:=hr (nL-1-k0) (by omega)
  refine wq [kT] ur3 (.inl 0 :: ur3) S5 ?_ ?_
  ·exact jj1 (ya8 wA (oS 2 17) (oS 1 16))
  intro B6 a6 W6 (S6:Zt [_,_,_] [_,_,_,_])
  refine wp_seq (wp_cond_true (S6.bool 0 18 rfl) (wp_skip (thenN (wp_seq (wp_block ?_)))))
  refine wq [V (iV (k0:Nat)),V (AtE 2 (Zv (sh.getD k0 0) Ks)),V (Zv (sh.getD k0 0) Ks),.new (.box 24 zI),V (iV (k0:Nat)),.put (.inr 3) (.box 24 (Zv (sh.getD k0 0) Ks))] [.inr 0,.inr 1,.inr 2,.inl 3] [.inl 4,.inr 1,.inr 2,.inr 3] S6 ?_ ?_
  ·exact jj6 (mS 3 17) (axA wA yb5 (oS 1 15) (oS 3 17) (yej (by omega)) rfl) (alC wA yba yan (oO 1 20)) (nwA wA yar) (mO 0 19) (puA 3 wA (oO 2 21) yad ya9 yan)
  intro B7 a7 W7 (S7:Zt [_,_,_,_] [_,_,_,_])
  refine wr [V (Is (a7.eval (.tmp 3))),V (iV (k0:Nat)),V (Zv (sh.getD k0 0) Ks),V (Part a7 1 0),V (AP pa nD nL nT K D L τ dn),V (AP pa nD nL nT K D L τ dn),V (AtE 2 (SF [(Vv nD D K),(Mv nL L K)])),V (AtE 1 (Mv nL L K)),V (Mv nL L K),V (Part a7 1 0),V (AP pa nD nL nT K D L τ dn),V (iV (k0:Nat)),V (iV ((nL-1-k0:Nat):Int)),V (AtE 1 (Vv (nL-1-k0) (L.getD (nL-1-k0) []) K)),V (Vv (nL-1-k0) (L.getD (nL-1-k0) []) K),V (SP (AP pa nD nL nT K D L τ dn) (Vv k sh Ks) (Zv b KB) (Zv N KN) (Zv R KR)),V (iV ((nL-1-k:Nat):Int)),V (AtE 2 (Zv ((L.getD (nL-1-k0) []).getD (nL-1-k) 0) K)),V (Zv ((L.getD (nL-1-k0) []).getD (nL-1-k) 0) K),Fw (ZN ((sh.getD k0 0)*((L.getD (nL-1-k0) []).getD (nL-1-k) 0))) w,V (REt a7 3 (2*k0)),.put (.inl 3) (.row 24 2 k (CE 2 ((((fbL sh L nL (nL-1-k) k).map ZN).map (· w.heap.size)).take (k0+1) ++ List.replicate (k-(k0+1)) zI)))] ur3 [.inr 1,.inr 2,.inr 3] S7 ?_ ?_
  ·exact ⟨⟨⟨⟨⟨⟨⟨⟨⟨⟨⟨⟨⟨⟨jj8 (ypx rfl wA (Or.inl rfl) (by kernel_rfl) rfl) (mS 0 4) (loA 3 wA yad yan) (ptZ wA 0 ycv) (plA wA (oO 3 25) 0 rfl rfl (ybg ydt (k:=0) rfl (by decide) (by decide))) (ycq rfl wA rfl (oO 4 26) yf2 rfl) (ybu (d:=0) rfl wA rfl ((oO 5 27).imp yf4) (fun ρ w b k h=>yed ρ _ _ w b k h) ymf rfl) (ybu (d:=1) rfl wA rfl (oO 6 28) (fun ρ w b k h=>yaw ρ _ _ w b k h) (ynm (f:=1) rfl) rfl),alA wA ypm yh8 (oO 7 29)⟩,ptZ wA 0 ycv⟩,plA wA (oO 9 31) 0 rfl rfl (ybg ydt (k:=0) rfl (by decide) (by decide))⟩,mS 0 4⟩,ch2 wA (qO 10 32 rfl) (qO 11 33 rfl) (yab _) (fun w u0 u1 h0 h1=>(by obtain rfl:u0=pa:=h0.now.1; obtain rfl:u1=_:=h1.now; exact zfl w _ nD nL nT K D L τ dn hD hL hT hK lD lL lT h0 k0 (by omega)))⟩,axA wA ygn (oO 8 30) (oO 12 34) (by have q:=yrs (A:=L) (K:=K) (k:=nL-1-k0) (by omega); rw [hrk] at q; exact q) rfl⟩,alA wA ycf yez (oO 13 35)⟩,loA 0 wA ybd yby⟩,ch1 wA (qO 15 37 rfl) (yab _) (fun w u0 h0=>(yov w pa nD nL nT K D L τ dn hD hL hT hK lD lL lT u0 _ _ _ _ _ _ _ _ _ h0 hk ls ((nL-1-k:Nat):Int) (by omega)))⟩,axA wA yb5 (oO 14 36) (oO 16 38) (yej (by omega)) rfl⟩,alC wA yba yan (oO 17 39)⟩,cc2 wA (qO 2 24 rfl) (qO 18 40 rfl) (yah _) (fun w u v h1 h2=>ydv (by omega) w u v ((fun _ _ h=>h) _ _ h1) ((fun _ _ h=>h) _ _ h2))⟩,yje rfl wA rfl yb5 (oO 0 22) (k:=2) rfl (by kernel_rfl) (oO 1 23) hlt rfl⟩,yjf rfl wA rfl yh3 (by decide) (oO 20 42) (k:=2) rfl (by kernel_rfl) (oO 19 41) (yb6 (by decide) yai) hlt (by rw [hset]; rfl)⟩
  intro B8 a8 W8 (S8:Zt [_,_,_] [_,_,_])
  refine inBlkN (thenN ?_)
  refine wr [V (iV (k0+1:Nat)),V (iV (k0+1:Nat))] ur3 (.inl 1 :: ur2) S8 ?_ ?_
  ·exact jj2 (ya7 wA (oS 2 17) (yaa _)) (mO 0 43)
  intro B9 a9 _ (S9:Zt [_,_,_] [_,_,_])
  refine thenN ?_
  exact ⟨k0+1,⟨by omega,B9,S9.sub [0,1,2] [1,2,0]⟩,by omega⟩
 ·have hend:=ypc (z:=Is (.agg #[.bool false,.slice none 0 0])) (xs:=((fbL sh L nL (nL-1-k) k).map ZN).map (· w.heap.size)) (n:=k) (k:=k0) (by simp [yfs]) (by omega)
  refine wq [kF] ur3 (.inl 0 :: ur3) S5 ?_ ?_
  ·exact jj1 (ybc wA (oS 2 17) (oS 1 16))
  intro B6 a6 W6 (S6:Sta w 46 [(1,(.box 75 (SP (AP pa nD nL nT K D L τ dn) (Vv k sh Ks) (Zv b KB) (Zv N KN) (Zv R KR)))),(2,(.box 24 zI)),(3,(.row 24 2 k (CE 2 ((((fbL sh L nL (nL-1-k) k).map ZN).map (· w.heap.size)).take k0 ++ List.replicate (k-k0) zI))))] [(18,bF),(15,Vv k sh Ks),(16,iV (k:Nat)),(17,iV (k0:Nat))] _ _ _)
  refine wp_seq (wp_cond_false (S6.bool 0 18 rfl) (wp_exit (thenX (thenX (inBlkE (thenN ?_))))))
  obtain ⟨B7,S7⟩:∃ Bq,Sta w 46 [(1,(.box 75 (SP (AP pa nD nL nT K D L τ dn) (Vv k sh Ks) (Zv b KB) (Zv N KN) (Zv R KR)))),(2,(.box 24 zI))] [(3,((VN k (fbL sh L nL (nL-1-k) k)) w.heap.size)),(18,bF),(15,Vv k sh Ks),(16,iV (k:Nat)),(17,iV (k0:Nat))] Bq a6 W6:=⟨_,S6.freeze 2 rfl (by simp) (fun v w' xs ho hc=>ynj (by decide) v w' xs ho (by rw [hend] at hc; exact hc))⟩
  obtain ⟨a7,W7,e1,e2⟩:∃ a W,a6=a/\W6=W:=⟨_,_,rfl,rfl⟩
  rw [e1,e2] at S7 ⊢
  clear e1 e2
  refine wq [Fw (VN k (fbL sh L nL (nL-1-k) k)) w,Fw (ZN (sumZ (fbL sh L nL (nL-1-k) k))) w,.put (.inl 2) (.box 24 ((ZN (sumZ (fbL sh L nL (nL-1-k) k))) w.heap.size))] ur2 [.inr 0,.inr 2,.inr 3,.inr 4] S7 ?_ ?_
  ·exact jj3 (mS 0 3) (ch1 wA (qO 0 44 rfl) (yah _) (zc8 (by omega) (yfs sh L nL _ _) (fun j z hz=>zhb (ypb hdx hamd.2.1 nL _ _ j z hz) (by omega)))) (seA 1 wA (oO 1 45) yad ya9 yai)
  intro B8 a8 W8 (S8:Zt [_,_] [_,_,_,_])
  refine wp_ret ?_
  exact yav S8 rfl (ybb S8 1 2 rfl yad yai)
theorem yu1 (w:World)(pa:Value)(nD nL nT K:Nat)(D:List Int)(L:List (List Int))(τ:List Int)(dn:Int)(hD:nD<=1048577)(hL:nL<=1048576)(hT:nT<=1048576)(hK:K<=16777216)(lD:D.length=nD)(lL:L.length=nL)(lT:τ.length=nT)(u:Value)(k Ks KB KN KR:Nat)(sh:List Int)(b N R:Int)(h:Hs w (SP (AP pa nD nL nT K D L τ dn) (Vv k sh Ks) (Zv b KB) (Zv N KN) (Zv R KR)) u)(hk:k<=nL)(ls:sh.length=k)(hKs:Ks<=67108864)(hr:∀ j,j < nL->(L.getD j []).length=j):CG 117 #[u] w (ZN (fB sh L nL k)):=by
 by_cases e:k=nL
 ·rw [fB,if_pos e]
  exact zfe (zgr w pa nD nL nT K D L τ dn hD hL hT hK lD lL lT u k Ks KB KN KR sh b N R h hk ls e)
 ·rw [fB,if_neg e]
  exact zgs w pa nD nL nT K D L τ dn hD hL hT hK lD lL lT u k Ks KB KN KR sh b N R h hk ls (by omega) hKs hr
end Go.Proofs.YtdnindaohpdblaaGreat
