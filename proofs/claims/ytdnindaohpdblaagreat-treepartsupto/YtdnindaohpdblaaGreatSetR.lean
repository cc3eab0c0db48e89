import Derived.Test.YtdnindaohpdblaaGreatSetQ
set_option linter.all false
namespace Go.Proofs.YtdnindaohpdblaaGreat
open Go Go.RowKit Nt
set_option maxRecDepth 20000
set_option maxHeartbeats 16000000
section
variable {ops:Array Oper} {l:List Kd} {bx:Bxs} {sl:List (Tmp × Pr)} {i:Nat} {o:Oper} {Q:Exit->Act->World->Prop} {a0:Act} {n:Nat} {w0:World}
end
section
variable {P:Program} {ops:Array Oper} {Q:Exit->Act->World->Prop} {a:Act} {W W':World} {rest:List Oper} {o:Oper}
end
section
variable {w0 W W':World} {n:Nat} {bx:Bxs} {sl:List (Tmp × Pr)} {B:Nat->Prop} {a:Act}
theorem Ev.mono {B B':Nat->Prop}{w w':World}(e:Ev B w w')(h:∀ k,B k->B' k):Ev B' w w':=⟨e.os,e.tape,e.output,e.size,fun k hk hn=>e.block k hk (fun hb=>hn (h k hb))⟩
end
abbrev Hs (w:World)(φ:Pr)(v:Value):Prop:=Has (fun _=>False) w φ v
theorem Has.hs {B:Nat->Prop}{w:World}{φ:Pr}{v:Value}(h:Has B w φ v):Hs w φ v:=fun w' e=>h w' (e.mono (fun _ h=>h.elim))
def ofCells (sz:Nat)(cs:Array Value):Value:=if sz=1 then cs.getD 0 undef else .agg cs
structure Celv (sz:Nat) (u:Value):Prop where
 of:u=ofCells sz u.cells
 siz:u.cells.size=sz
 one:u.cells.all (·.oneCell')=true
def Cel (sz:Nat)(φ:Pr):Prop:=∀ u w,φ u w->Celv sz u
theorem yhd {sz:Nat}{u u':Value}(h:Celv sz u)(h':Celv sz u')(e:u.cells=u'.cells):u=u':=by rw [h.of,h'.of,e]
theorem yk3 {cs:Array Value}(h1:cs.size≠1)(h:cs.all (·.oneCell')=true):Celv cs.size (.agg cs):=⟨by simp [ofCells,h1,Value.cells],rfl,h⟩
theorem yk4 {u:Value}(h:u.oneCell'=true):Celv 1 u:=by
 have e:u.cells=#[u]:=by cases u <;> first | rfl | simp [Value.oneCell'] at h
 exact ⟨by simp [ofCells,e],by simp [e],by simp [e,h]⟩
theorem yb6 {n:Nat}{φ:Pr}(h1:n≠1)(h:Shp n φ):Cel n φ:=fun u w hφ=>by
 obtain ⟨cs,rfl,rfl,h2⟩:=h u w hφ
 exact yk3 h1 h2
def AtE (sz:Nat)(φ:Pr):Pr:=fun v w=>∃ b o u,v=.pointer (some ⟨b,o,none⟩)/\(∀ (j:Nat) x,u.cells[j]? = some x->w.cell? ⟨b,o+j,none⟩=some x)/\u.cells.size=sz/\φ u w
def Ar (sz n:Nat)(φs:List Pr):Pr:=fun v w=>∃ p c,v=.slice p n c/\φs.length=n/\(n<=c/\c<=maxLen/\(p=none->c=0))/\∀ (i:Nat) φ,φs[i]? = some φ->∃ b o u,p=some ⟨b,o,none⟩/\(∀ (j:Nat) x,u.cells[j]? = some x->w.cell? ⟨b,o+sz*i+j,none⟩=some x)/\u.cells.size=sz/\φ u w
theorem yh7 {sz n:Nat}{φs:List Pr}:∀ v w,Ar sz n φs v w->∃ p c,v=.slice p n c:=fun v w ⟨p,c,e,_⟩=>⟨p,c,e⟩
theorem yg8 {sz n:Nat}{φs φs':List Pr}(hl:φs'.length=φs.length)(h:∀ (i:Nat) φ φ',φs[i]? = some φ->φs'[i]? = some φ'->∀ v w,φ v w->φ' v w):∀ v w,Ar sz n φs v w->Ar sz n φs' v w:=fun v w ⟨p,c,e,l,b,a⟩ =>
 ⟨p,c,e,hl.trans l,b,fun i φ' hφ'=>by
  obtain ⟨φ,hφ⟩:∃ φ,φs[i]? = some φ:=⟨φs[i]'(by rw [← hl]; exact (zhh.1 hφ').1),zhj _⟩
  obtain ⟨b,o,u,e1,e2,e3,e4⟩:=a i φ hφ
  exact ⟨b,o,u,e1,e2,e3,h i φ φ' hφ hφ' u w e4⟩⟩
theorem yxt {sz:Nat}:∀ w,Ar sz 0 [] (.slice none 0 0) w:=fun w=>⟨none,0,rfl,rfl,⟨zha _,zhs _,fun _=>rfl⟩,fun i φ h=>by simp at h⟩
theorem yki {B:Nat->Prop}{w:World}{b o:Nat}{x:Value}(h:w.cell? ⟨b,o,none⟩=some x)(hw:∀ w',Ev B w w'->(w'.cell? ⟨b,o,none⟩).isSome=true):¬ B b:=fun hB=>by
 have hlt:=yb3 h
 have ev:Ev B w { w with heap:=w.heap.setIfInBounds b (.cells #[] 0 (0,0)) }:=⟨rfl,rfl,rfl,by simp,fun k hk hn=>by
  have:b≠k:=fun e=>hn (e ▸ hB)
  simp [Array.getElem?_setIfInBounds,this]⟩
 have:=hw _ ev
 have hlt':b < w.heap.size:=hlt
 simp [World.cell?,Array.getElem?_setIfInBounds,hlt'] at this
theorem yg9 {B:Nat->Prop}{w w':World}{a:Addr}{v:Value}(h:w.cell? a=some v)(hB:¬ B a.block)(e:Ev B w w'):w'.cell? a=some v:=by
 have hlt:=yb3 h
 have hb:=e.block a.block hlt hB
 unfold World.cell? at h ⊢
 rw [hb]
 exact h
theorem yo0 {B:Nat->Prop}{w:World}{sz:Nat}{φ:Pr}{v:Value}(hz:0 < sz)(hc:Cel sz φ)(h:Has B w (AtE sz φ) v):
  ∃ b o u,v=.pointer (some ⟨b,o,none⟩)/\(∀ (j:Nat) x,u.cells[j]? = some x->w.cell? ⟨b,o+j,none⟩=some x)/\Celv sz u/\Has B w φ u:=by
 obtain ⟨b,o,u,rfl,h1,h2,h3⟩:=h.now
 obtain ⟨x0,hx0⟩:∃ x,u.cells[0]? = some x:=⟨u.cells[0]'(by omega),zh4 _⟩
 have hn:¬ B b:=yki (h1 0 x0 hx0) (fun w' e=>by
  obtain ⟨b',o',u',e',h1',h2',h3'⟩:=h w' e
  cases e'
  obtain ⟨x',hx'⟩:∃ x,u'.cells[0]? = some x:=⟨u'.cells[0]'(by omega),zh4 _⟩
  rw [h1' 0 x' hx']; rfl)
 refine ⟨b,o,u,rfl,h1,hc u w h3,fun w' e=>?_⟩
 obtain ⟨b',o',u',e',h1',h2',h3'⟩:=h w' e
 cases e'
 have:u'=u:=yhd (hc _ _ h3') (hc _ _ h3) (by
  apply Array.ext
  ·rw [h2,h2']
  ·intro i hi hi'
   have a1:=h1 i _ (zh4 hi')
   have a2:=h1' i _ (zh4 hi)
   have a3:=yg9 a1 hn e
   rw [a3] at a2
   exact (Option.some.inj a2).symm)
 rw [← this]; exact h3'
def Idx (T sz:Nat):Prop:=∀ (ρ:Operand->Value) (o:Oper) (x y:Operand) (w:World) (b k i n c:Nat),i < n->ρ x=.slice (some ⟨b,k,none⟩) n c->ρ y=.int .i64 (i:Nat)->(execOp ρ { o with op:=.indexAddr T x y }).run Tryz.prog w=.ok (.value (.pointer (some ⟨b,k+sz*i,none⟩))) w
def Ldr (E sz:Nat):Prop:=∀ (ρ:Operand->Value) (o:Oper) (x:Operand) (w:World) (b k:Nat) (u:Value),Celv sz u->(∀ (j:Nat) c,u.cells[j]? = some c->w.cell? ⟨b,k+j,none⟩=some c)->ρ x=.pointer (some ⟨b,k,none⟩)->(execOp ρ { o with op:=.load E x }).run Tryz.prog w=.ok (.value u) w
def Sto (E sz:Nat):Prop:=∀ (ρ:Operand->Value) (o:Oper) (x y:Operand) (w:World) (b k:Nat) (u:Value),Celv sz u->w.there b k sz->ρ x=.pointer (some ⟨b,k,none⟩)->ρ y=u->(execOp ρ { o with op:=.store E x y }).run Tryz.prog w=.ok .skip (w.setCells b k u.cells.toList)
theorem yhi {E n:Nat}(h1:n≠1)(hT:Strct E n):Ldr E n:=fun ρ o x w b k u hu hc hx=>by
 obtain ⟨⟨d,hd1,hd2⟩,hi⟩:=hT
 have e:u=.agg u.cells:=by have:=hu.of; rw [ofCells,if_neg h1] at this; exact this
 generalize hcs:u.cells=cs at *
 subst e
 unfold execOp
 simp only [hx,Sem.run_bind,run_loadAt_mid (P:=Tryz.prog) w b k E cs.toList d (fun j v hv=>hc j v (by simpa using hv)) hd1 hd2 (by rw [hi]; have:=hu.siz; rw [hcs] at this; simp [this]),Result.andThen_ok,Sem.run_pure]
theorem yu2 {E n:Nat}(h1:n≠1)(hT:Strct E n):Sto E n:=fun ρ o x y w b k u hu ht hx hy=>by
 obtain ⟨_,hi⟩:=hT
 have e:u=.agg u.cells:=by have:=hu.of; rw [ofCells,if_neg h1] at this; exact this
 have h2:=hu.siz
 have h3:=hu.one
 generalize hcs:u.cells=cs at *
 subst e
 unfold execOp
 simp only [hx,hy,Sem.run_bind,run_storeAt_mid (P:=Tryz.prog) w b k E cs (by rw [h2]; exact ht) (by rw [hi,h2]) h3,Result.andThen_ok,Sem.run_pure]
theorem yb5:Idx 35 2:=fun ρ o x y w b k i n c hi hx hy=>by
 unfold execOp
 go_simp
theorem yba:Ldr 24 2:=yhi (by decide) yad
theorem yh3:Sto 24 2:=yu2 (by decide) yad
section
variable {ops:Array Oper} {l:List Kd} {bx:Bxs} {sl:List (Tmp × Pr)} {i:Nat} {o:Oper} {Q:Exit->Act->World->Prop} {a0:Act} {n0:Nat} {w0:World}
theorem yzi {B:Nat->Prop}{w:World}{sz n k:Nat}{φs:List Pr}{φ:Pr}{v:Value}(h:Has B w (Ar sz n φs) v)(he:φs[k]? = some φ):∃ b o c,v=.slice (some ⟨b,o,none⟩) n c/\k < n/\Has B w (AtE sz φ) (.pointer (some ⟨b,o+sz*k,none⟩)):=by
 obtain ⟨p,c,rfl,hl,hb,ha⟩:=h.now
 obtain ⟨b,o',u,rfl,_⟩:=ha k φ he
 refine ⟨b,o',c,rfl,by rw [← hl]; exact (zhh.1 he).1,fun w' ev=>?_⟩
 obtain ⟨p',c',e,_,_,ha'⟩:=h w' ev
 obtain ⟨b',o'',u',rfl,h1,h2,h3⟩:=ha' k φ he
 cases e
 exact ⟨b,_,u',rfl,h1,h2,h3⟩
theorem yrh {x y:Operand}{T sz n k:Nat}{φs:List Pr}{φ:Pr}(ho:ops[i]? = some o)(hw:Wants ops l bx sl i o)(hop:o.op=.indexAddr T x y)(hT:Idx T sz)(hx:Opnd ops l bx sl i x (Ar sz n φs))(hy:Opnd ops l bx sl i y (iV (k:Nat)))(he:φs[k]? = some φ)(hk:kdAt l i=.val (AtE sz φ)):Owed Tryz.prog ops Q l bx sl a0 n0 w0 i:=
 ycs ho hw hk fun vs B a w cx=>by
  have hyv:a.eval y=.int .i64 (k:Nat):=(hy a0 n0 w0 vs B a w cx).now
  obtain ⟨b,o',c,e1,hlt,hat⟩:=yzi (hx a0 n0 w0 vs B a w cx) he
  refine ⟨_,?_,hat⟩
  rw [← hT a.eval o x y w b o' k n c hlt e1 hyv]
  unfold execOp
  rw [hop]
theorem ym1 {x:Operand}{E sz:Nat}{φ:Pr}(ho:ops[i]? = some o)(hw:Wants ops l bx sl i o)(hop:o.op=.load E x)(hE:Ldr E sz)(hz:0 < sz)(hc:Cel sz φ)(hx:Opnd ops l bx sl i x (AtE sz φ))(hk:kdAt l i=.val φ):Owed Tryz.prog ops Q l bx sl a0 n0 w0 i:=
 ycs ho hw hk fun vs B a w cx=>by
  obtain ⟨b,o',u,e1,h1,h2,h3⟩:=yo0 hz hc (hx a0 n0 w0 vs B a w cx)
  refine ⟨u,?_,h3⟩
  rw [← hE a.eval o x w b o' u h2 h1 e1]
  unfold execOp
  rw [hop]
theorem yri {ψ:Nat->Pr}{f:FuncId}{x:Operand}{ts:Array TypeId}{φ:Pr}(ho:ops[i]? = some o)(hw:Wants ops l bx sl i o)(hop:o.op=.call { callee:=.value (.func f),args:=#[x],argTypes:=ts })(hx:Opnd ops l bx sl i x φ)(hF:Fresh ψ)(hk:kdAt l i=.val (ψ w0.heap.size))
  (hcf:∀ args w,(callFunc f args).run Tryz.prog w=.ok (.enter f args) w) (C:∀ w u,Hs w φ u->CG f #[u] w ψ):Owed Tryz.prog ops Q l bx sl a0 n0 w0 i:=
 ygo ho hw hop hF hk hcf fun vs B a w c=>by
  rw [show (#[x]:Array Operand).map a.eval=#[a.eval x] from by simp]
  exact C w _ (hx a0 n0 w0 vs B a w c).hs
theorem yrj {ψ:Nat->Pr}{f:FuncId}{x y:Operand}{ts:Array TypeId}{φ φ':Pr}(ho:ops[i]? = some o)(hw:Wants ops l bx sl i o)(hop:o.op=.call { callee:=.value (.func f),args:=#[x,y],argTypes:=ts })(hx:Opnd ops l bx sl i x φ)(hy:Opnd ops l bx sl i y φ')(hF:Fresh ψ)(hk:kdAt l i=.val (ψ w0.heap.size))
  (hcf:∀ args w,(callFunc f args).run Tryz.prog w=.ok (.enter f args) w) (C:∀ w u v,Hs w φ u->Hs w φ' v->CG f #[u,v] w ψ):Owed Tryz.prog ops Q l bx sl a0 n0 w0 i:=
 ygo ho hw hop hF hk hcf fun vs B a w c=>by
  rw [show (#[x,y]:Array Operand).map a.eval=#[a.eval x,a.eval y] from by simp]
  exact C w _ _ (hx a0 n0 w0 vs B a w c).hs (hy a0 n0 w0 vs B a w c).hs
theorem yrk {ψ:Nat->Pr}{f:FuncId}{x y z:Operand}{ts:Array TypeId}{φ φ' φ'':Pr}(ho:ops[i]? = some o)(hw:Wants ops l bx sl i o)(hop:o.op=.call { callee:=.value (.func f),args:=#[x,y,z],argTypes:=ts })(hx:Opnd ops l bx sl i x φ)(hy:Opnd ops l bx sl i y φ')(hz:Opnd ops l bx sl i z φ'')(hF:Fresh ψ)(hk:kdAt l i=.val (ψ w0.heap.size))
  (hcf:∀ args w,(callFunc f args).run Tryz.prog w=.ok (.enter f args) w) (C:∀ w u v t,Hs w φ u->Hs w φ' v->Hs w φ'' t->CG f #[u,v,t] w ψ):Owed Tryz.prog ops Q l bx sl a0 n0 w0 i:=
 ygo ho hw hop hF hk hcf fun vs B a w c=>by
  rw [show (#[x,y,z]:Array Operand).map a.eval=#[a.eval x,a.eval y,a.eval z] from by simp]
  exact C w _ _ _ (hx a0 n0 w0 vs B a w c).hs (hy a0 n0 w0 vs B a w c).hs (hz a0 n0 w0 vs B a w c).hs
end
section
variable {ops:Array Oper} {l:List Kd} {bx:Bxs} {sl:List (Tmp × Pr)} {i:Nat} {o:Oper} {Q:Exit->Act->World->Prop} {a0:Act} {n0:Nat} {w0:World}
end
section
variable {ops:Array Oper} {l:List Kd} {bx:Bxs} {sl:List (Tmp × Pr)} {i:Nat} {o:Oper} {Q:Exit->Act->World->Prop} {a0:Act} {n:Nat} {w0:World}
theorem ch1 {ψ:Nat->Pr}{f:FuncId}{x:Operand}{ts:Array TypeId}{φ:Pr}(hw:Wants ops l bx sl i o)(hx:Opnd ops l bx sl i x φ)(hF:Fresh ψ)(C:∀ w u,Hs w φ u->Calls Tryz.prog f #[u] w (Gives ψ w))(ho:ops[i]? = some o:=by exact rfl)(hop:o.op=.call { callee:=.value (.func f),args:=#[x],argTypes:=ts }:=by exact rfl)(hk:kdAt l i=.val (ψ w0.heap.size):=by exact rfl)(hcf:∀ args w,(callFunc f args).run Tryz.prog w=.ok (.enter f args) w:=by intro args w; go_simp):Owed Tryz.prog ops Q l bx sl a0 n w0 i:=yri ho hw hop hx hF hk hcf C
theorem ch2 {ψ:Nat->Pr}{f:FuncId}{x y:Operand}{ts:Array TypeId}{φ φ':Pr}(hw:Wants ops l bx sl i o)(hx:Opnd ops l bx sl i x φ)(hy:Opnd ops l bx sl i y φ')(hF:Fresh ψ)(C:∀ w u v,Hs w φ u->Hs w φ' v->Calls Tryz.prog f #[u,v] w (Gives ψ w))(ho:ops[i]? = some o:=by exact rfl)(hop:o.op=.call { callee:=.value (.func f),args:=#[x,y],argTypes:=ts }:=by exact rfl)(hk:kdAt l i=.val (ψ w0.heap.size):=by exact rfl)(hcf:∀ args w,(callFunc f args).run Tryz.prog w=.ok (.enter f args) w:=by intro args w; go_simp):Owed Tryz.prog ops Q l bx sl a0 n w0 i:=yrj ho hw hop hx hy hF hk hcf C
theorem ch3 {ψ:Nat->Pr}{f:FuncId}{x y z:Operand}{ts:Array TypeId}{φ φ' φ'':Pr}(hw:Wants ops l bx sl i o)(hx:Opnd ops l bx sl i x φ)(hy:Opnd ops l bx sl i y φ')(hz:Opnd ops l bx sl i z φ'')(hF:Fresh ψ)(C:∀ w u v t,Hs w φ u->Hs w φ' v->Hs w φ'' t->Calls Tryz.prog f #[u,v,t] w (Gives ψ w))(ho:ops[i]? = some o:=by exact rfl)(hop:o.op=.call { callee:=.value (.func f),args:=#[x,y,z],argTypes:=ts }:=by exact rfl)(hk:kdAt l i=.val (ψ w0.heap.size):=by exact rfl)(hcf:∀ args w,(callFunc f args).run Tryz.prog w=.ok (.enter f args) w:=by intro args w; go_simp):Owed Tryz.prog ops Q l bx sl a0 n w0 i:=yrk ho hw hop hx hy hz hF hk hcf C
end
section
variable {ops:Array Oper} {l:List Kd} {bx:Bxs} {sl:List (Tmp × Pr)} {i:Nat} {o:Oper} {Q:Exit->Act->World->Prop} {a0:Act} {n:Nat} {w0:World}
theorem lnA {x:Operand}{T E L sz:Nat}{φs:List Pr}(hw:Wants ops l bx sl i o)(hx:Opnd ops l bx sl i x (Ar sz L φs))(hT:Tryz.prog.underlying T=some (.slice E))(ho:ops[i]? = some o:=by exact rfl)(hop:o.op=.call { callee:=.builtin .len,args:=#[x],argTypes:=#[T] }:=by exact rfl)(hk:kdAt l i=.val (Is (.int .i64 L)):=by exact rfl):Owed Tryz.prog ops Q l bx sl a0 n w0 i:=yjc ho hw hop hx yh7 hT hk
theorem alA {x:Operand}{E sz:Nat}{φ:Pr}(hw:Wants ops l bx sl i o)(hE:Ldr E sz)(hc:Cel sz φ)(hx:Opnd ops l bx sl i x (AtE sz φ))(hz:0 < sz:=by decide)(ho:ops[i]? = some o:=by exact rfl)(hop:o.op=.load E x:=by exact rfl)(hk:kdAt l i=.val φ:=by exact rfl):Owed Tryz.prog ops Q l bx sl a0 n w0 i:=ym1 ho hw hop hE hz hc hx hk
theorem alC {x:Operand}{E sz:Nat}{φ:Pr}(hw:Wants ops l bx sl i o)(hE:Ldr E sz)(hc:Shp sz φ)(hx:Opnd ops l bx sl i x (AtE sz φ))(hz:0 < sz:=by decide)(h1:sz≠1:=by decide)(ho:ops[i]? = some o:=by exact rfl)(hop:o.op=.load E x:=by exact rfl)(hk:kdAt l i=.val φ:=by exact rfl):Owed Tryz.prog ops Q l bx sl a0 n w0 i:=ym1 ho hw hop hE hz (yb6 h1 hc) hx hk
theorem axA {x y:Operand}{T sz m k:Nat}{φs:List Pr}{φ:Pr}(hw:Wants ops l bx sl i o)(hT:Idx T sz)(hx:Opnd ops l bx sl i x (Ar sz m φs))(hy:Opnd ops l bx sl i y (Is (.int .i64 (k:Nat))))(he:φs[k]? = some φ)(hk:kdAt l i=.val (AtE sz φ))(ho:ops[i]? = some o:=by exact rfl)(hop:o.op=.indexAddr T x y:=by exact rfl):Owed Tryz.prog ops Q l bx sl a0 n w0 i:=yrh ho hw hop hT hx hy he hk
end
def cellsOf (us:List Value):List Value:=us.flatMap (·.cells.toList)
theorem ycm {sz:Nat}:∀ {us:List Value},(∀ u ∈ us,Celv sz u)->(cellsOf us).length=us.length*sz
 | [],_=>by simp [cellsOf]
 | u :: r,h=>by
  have h1:=(h u (by simp)).siz
  have h2:=ycm (us:=r) (fun v hv=>h v (by simp [hv]))
  have e:cellsOf (u :: r)=u.cells.toList ++ cellsOf r:=rfl
  rw [e,zhx,h2]
  simp only [zkj,h1,zie,zhv,ziv]
  omega
theorem yea (us vs:List Value):cellsOf (us ++ vs)=cellsOf us ++ cellsOf vs:=by simp [cellsOf]
theorem ymj {sz:Nat}{us:List Value}(h:∀ u ∈ us,Celv sz u)(k:Nat)(hk:k<=us.length):(cellsOf us).take (k*sz)=cellsOf (us.take k):=by
 have e:us=us.take k ++ us.drop k:=(zix k us).symm
 have hl:(cellsOf (us.take k)).length=k*sz:=by
  rw [ycm (sz:=sz) (fun u hu=>h u (zkv hu)),zh6,ziq hk]
 conv=>lhs; rw [e,yea]
 rw [List.take_append_of_le_length (by omega),zhg (by omega)]
theorem yh9 {sz:Nat}{us:List Value}(h:∀ u ∈ us,Celv sz u)(k:Nat)(hk:k<=us.length):(cellsOf us).drop (k*sz)=cellsOf (us.drop k):=by
 have e:us=us.take k ++ us.drop k:=(zix k us).symm
 have hl:(cellsOf (us.take k)).length=k*sz:=by
  rw [ycm (sz:=sz) (fun u hu=>h u (zkv hu)),zh6,ziq hk]
 conv=>lhs; rw [e,yea]
 rw [← hl,List.drop_left]
theorem yg2 {sz:Nat}{us:List Value}(h:∀ u ∈ us,Celv sz u){k:Nat}{u:Value}(hk:us[k]? = some u)(j:Nat)(hj:j < sz):(cellsOf us)[k*sz+j]? = u.cells[j]?:=by
 have hlt:=(zhh.1 hk).1
 have h1:=yh9 h k (by omega)
 have:us.drop k=u :: us.drop (k+1):=by
  rw [zkw hlt]
  rw [(zhh.1 hk).2]
 rw [this] at h1
 have h2:((cellsOf us).drop (k*sz))[j]? = (cellsOf us)[k*sz+j]?:=by rw [List.getElem?_drop]
 rw [← h2,h1]
 have hs:=(h u (zhl hk)).siz
 show (u.cells.toList ++ cellsOf _)[j]? = _
 rw [zh1 (by simp; omega)]
 simp
theorem yix {sz:Nat}(hz:0 < sz):∀ {us vs:List Value},(∀ u ∈ us,Celv sz u)->(∀ u ∈ vs,Celv sz u)->cellsOf us=cellsOf vs->us=vs
 | [],[],_,_,_=>rfl
 | [],v :: r,_,h,e=>by
  have:=(h v (by simp)).siz
  have h2:=congrArg List.length e
  rw [ycm h] at h2
  simp [cellsOf,zhv] at h2
  omega
 | v :: r,[],h,_,e=>by
  have h2:=congrArg List.length e
  rw [ycm h] at h2
  simp [cellsOf,zhv] at h2
  omega
 | u :: r,v :: s,h,h',e=>by
  have e':u.cells.toList ++ cellsOf r=v.cells.toList ++ cellsOf s:=e
  have h1:=(h u (by simp)).siz
  have h2:=(h' v (by simp)).siz
  obtain ⟨e1,e2⟩:=List.append_inj e' (by simp [h1,h2])
  rw [yhd (h u (by simp)) (h' v (by simp)) (Array.toList_inj.1 e1),yix hz (fun x hx=>h x (by simp [hx])) (fun x hx=>h' x (by simp [hx])) e2]
def CE (sz:Nat)(φs:List Pr):List Value->World->Prop:=fun ys w=>∃ us,ys=cellsOf us/\us.length=φs.length/\(∀ u ∈ us,Celv sz u)/\∀ (i:Nat) u φ,us[i]? = some u->φs[i]? = some φ->φ u w
def LF (sz n:Nat)(ψs:List (Nat->Pr)):Nat->Pr:=fun lo v w=>Ar sz n (ψs.map (· lo)) v w/\∀ b o n c,v=.slice (some ⟨b,o,none⟩) n c->lo<=b
theorem yij {sz n:Nat}{ψs:List (Nat->Pr)}(hz:0 < sz)(h:∀ (i:Nat) ψ,ψs[i]? = some ψ->Fresh ψ):Fresh (LF sz n ψs):=by
 refine ⟨fun lo lo' v w hl ⟨⟨p,c,e,l,b,a⟩,hf⟩=>⟨⟨p,c,e,by simpa using l,b,fun i φ hφ=>?_⟩,fun b o n c e=>zhb hl (hf b o n c e)⟩,fun lo v w w' B hB ⟨⟨p,c,e,l,hcc,a⟩,hf⟩ ev=>⟨⟨p,c,e,l,hcc,fun i φ hφ=>?_⟩,hf⟩⟩
 ·rw [zhi] at hφ
  cases hψ:ψs[i]? with
  | none=>simp [hψ] at hφ
  | some ψ =>
   simp [hψ] at hφ
   subst hφ
   obtain ⟨b,o,u,e1,e2,e3,e4⟩:=a i (ψ lo) (by rw [zhi,hψ]; rfl)
   exact ⟨b,o,u,e1,e2,e3,(h i ψ hψ).mono _ _ _ _ hl e4⟩
 ·obtain ⟨b,o,u,e1,e2,e3,e4⟩:=a i φ hφ
  subst e1
  have hb:=hf b o _ _ e
  refine ⟨b,o,u,rfl,fun j x hx=>yg9 (e2 j x hx) (fun h=>by have:=hB b h; omega) ev,e3,?_⟩
  rw [zhi] at hφ
  cases hψ:ψs[i]? with
  | none=>simp [hψ] at hφ
  | some ψ =>
   simp [hψ] at hφ
   subst hφ
   exact (h i ψ hψ).ev _ _ _ _ B hB e4 ev
theorem zad {sz n:Nat}{ψs:List (Nat->Pr)}{lo:Nat}:∀ v w,LF sz n ψs lo v w->Ar sz n (ψs.map (· lo)) v w:=fun v w h=>h.1
theorem zdf {sz n lo:Nat}{ψs:List (Nat->Pr)}{φs:List Pr}(hl:φs.length=ψs.length)(h:∀ (i:Nat) ψ φ,ψs[i]? = some ψ->φs[i]? = some φ->∀ v w,ψ lo v w->φ v w):∀ v w,LF sz n ψs lo v w->Ar sz n φs v w:=fun v w hv =>
 yg8 (by simp [hl]) (fun i φ φ' h1 h2=>by
  rw [zhi] at h1
  cases hψ:ψs[i]? with
  | none=>simp [hψ] at h1
  | some ψ =>
   simp [hψ] at h1
   subst h1
   exact h i ψ φ' hψ h2) v w hv.1
theorem zde {sz:Nat}{lo:Nat}:∀ w,LF sz 0 [] lo (.slice none 0 0) w:=fun w=>⟨yxt w,fun b o n c e=>by cases e⟩
theorem yo5 {sz n:Nat}{us:List Value}(hz:0 < sz)(hcv:∀ u ∈ us,Celv sz u)(hl:(cellsOf us).length=n*sz):us.length=n:=by
 rw [ycm hcv] at hl
 exact Nat.eq_of_mul_eq_mul_right hz hl
theorem yuq {w:World}{sz n cap g E k:Nat}{cur:Array Value}{us:List Value}{u:Value}(hz:0 < sz)(hcv:∀ u ∈ us,Celv sz u)(hg:w.heap[g]? = some (.cells cur E (0,0)))(htk:cur.toList.take (n*sz)=cellsOf us)(hn:us.length=n)(hk:us[k]? = some u):
  ∀ (j:Nat) x,u.cells[j]? = some x->w.cell? ⟨g,sz*k+j,none⟩=some x:=fun j x hx=>by
 have hlt:=(zhh.1 hk).1
 have hj:j < sz:=by
  have:=(zhf.1 hx).1
  rw [(hcv u (zhl hk)).siz] at this
  exact this
 have h1:=yg2 hcv hk j hj
 have hlt':k*sz+j < n*sz:=by
  have:(k+1)*sz<=n*sz:=zhn _ (by omega)
  rw [zhv] at this
  omega
 rw [← htk,zjc,if_pos hlt',hx] at h1
 simp only [World.cell?,hg,zhd sz k]
 simpa using h1
theorem yyp {sz n lo E:Nat}{φs:List Pr}(hz:0 < sz):∀ v w ys,World.ownsRow w lo E sz v n ys->CE sz φs ys w->Ar sz n φs v w:=by
 rintro v w ys ⟨hl,hown⟩ ⟨us,rfl,hul,hcv,hall⟩
 have hn:=yo5 hz hcv hl
 rcases hown with ⟨rfl,h0⟩ | ⟨g,cap,cur,rfl,hg0,hg,hnc,hcm,hcs,htk⟩
 ·subst h0
  refine ⟨none,0,rfl,by rw [← hul]; exact hn,⟨zha _,zhs _,fun _=>rfl⟩,fun i φ hφ=>?_⟩
  have:=(zhh.1 hφ).1
  omega
 ·refine ⟨_,cap,rfl,by rw [← hul]; exact hn,⟨hnc,hcm,(fun e=>by cases e)⟩,fun i φ hφ=>?_⟩
  have hlt:=(zhh.1 hφ).1
  obtain ⟨u,hu⟩:∃ u,us[i]? = some u:=⟨us[i]'(by omega),zhj _⟩
  refine ⟨g,0,u,rfl,fun j x hx=>?_,(hcv u (zhl hu)).siz,hall i u φ hu hφ⟩
  rw [zig]
  exact yuq (cap:=cap) hz hcv hg htk hn hu j x hx
theorem ynj {sz n lo E:Nat}{ψs:List (Nat->Pr)}(hz:0 < sz):∀ v w ys,World.ownsRow w lo E sz v n ys->CE sz (ψs.map (· lo)) ys w->LF sz n ψs lo v w:=by
 rintro v w ys hown hce
 refine ⟨yyp hz v w ys hown hce,fun b o n c e=>?_⟩
 rcases hown.2 with ⟨rfl,h0⟩ | ⟨g,cap,cur,rfl,hg0,hg,hnc,hcm,hcs,htk⟩
 ·cases e
 ·cases e
  exact hg0
theorem yre {z:Value}{sz:Nat}(h:Celv sz z)(hz:0 < sz)(n:Nat):(madeCells z.cells (n*sz)).toList=cellsOf (List.replicate n z):=by
 have hcv:∀ u ∈ List.replicate n z,Celv sz u:=fun u hu=>by rw [(zkm.1 hu).2]; exact h
 apply List.ext_getElem?
 intro m
 by_cases hm:m < n*sz
 ·have hk:m / sz < n:=zik (by rw [zhd]; exact hm)
  have hj:m % sz < sz:=zic _ hz
  have e:m=(m / sz)*sz+m % sz:=by rw [zhd]; exact (zh9 m sz).symm
  have h1:=yg2 hcv (k:=m / sz) (u:=z) (by simp [zi5,hk]) (m % sz) hj
  rw [← e] at h1
  rw [h1]
  have h2:=h.siz
  simp only [madeCells,Array.toList_map,zhi,Array.toList_range,zh5 hm,Option.map_some,h2]
  rw [zh4 (by omega),getElem!_pos _ _ (by omega)]
 ·rw [zim (by simp [size_madeCells]; omega),zim (by rw [ycm hcv]; simp; omega)]
section
variable {ops:Array Oper} {l:List Kd} {bx:Bxs} {sl:List (Tmp × Pr)} {i:Nat} {o:Oper} {Q:Exit->Act->World->Prop} {a0:Act} {n0:Nat} {w0:World}
theorem yjd {x:Operand}{T E sz bytes n:Nat}{z:Value}(ho:ops[i]? = some o)(hw:Wants ops l bx sl i o)(hop:o.op=.makeSlice T x x)(hT:Tryz.prog.underlying T=some (.slice E))(hE:(Tryz.prog.info? E).map (fun i=>(i.zero,i.size,i.bytes))=some (some z,sz,bytes))(hc:Celv sz z)(hz:0 < sz)(hx:Opnd ops l bx sl i x (iV (n:Nat)))(hn:bytes*n<=281474976710656/\n<=maxLen)(hk:kdAt l i=.new (.row E sz n (CE sz (List.replicate n (Is z))))):Owed Tryz.prog ops Q l bx sl a0 n0 w0 i:=fun vs B a w c o' ho'=>by
 obtain rfl:o=o':=Option.some.inj (ho.symm.trans ho')
 have hxv:a.eval x=.int .i64 (n:Nat):=(hx a0 n0 w0 vs B a w c).now
 obtain ⟨i0,hi,hz0,hz1,hz2⟩:=info_parts hE
 have hm:(n:Int)<=9223372036854775807:=by have:=hn.2; unfold maxLen at this; omega
 have hby:((bytes*n:Nat):Int)<=281474976710656:=by have:=hn.1; omega
 have hr:=run_make (P:=Tryz.prog) w T E i0 z hT hi hz0 .i64 .i64 n n (by omega) (Int.le_refl _) (by rw [hz2,← zho]; exact hby) hm
 have hb:Below w.heap.size w (w.alloc (.cells (madeCells z.cells (n*sz)) E)):=(Below.refl _ _).alloc (zha _) _
 have h:(execOp a.eval o).run Tryz.prog w=.ok (.value (.slice (some ⟨w.heap.size,0,none⟩) n n)) (w.alloc (.cells (madeCells z.cells (n*sz)) E)):=by
  unfold execOp
  rw [hop]
  simp only [hxv,Sem.run_bind,hr,Result.andThen_ok,Sem.run_pure,zju,hz1]
 simp only [wpOp,ho]
 rw [if_pos (hw a0 n0 w0 vs B a w c)]
 refine Or.inl ?_
 unfold Oper.wp
 rw [h,Oper.upon_value]
 refine ⟨_,rfl,?_⟩
 rw [hk]
 have hcv:∀ u ∈ List.replicate n z,Celv sz u:=fun u hu=>by rw [(zkm.1 hu).2]; exact hc
 refine ⟨hb,fun b hv=>?_,cellsOf (List.replicate n z),⟨by rw [ycm hcv]; simp,Or.inr ⟨w.heap.size,n,_,rfl,c.lo,heap_alloc_last _ _,zha _,hn.2,size_madeCells _ _,?_⟩⟩,fun b hv=>Or.inr hv,fun w' _=>⟨_,rfl,by simp,hcv,fun j u φ hu hφ=>?_⟩⟩
 ·simp [Rk.set,vblock] at hv
  subst hv
  simp
 ·rw [yre hc hz,zhg (by rw [ycm hcv]; simp)]
 ·have h1:=zhl hu
  have h2:=zhl hφ
  rw [(zkm.1 h1).2,(zkm.1 h2).2]
  rfl
def REt (a0:Act)(t off:Nat):Pr:=fun v _=>∃ g n c,a0.eval (.tmp t)=.slice (some ⟨g,0,none⟩) n c/\v=.pointer (some ⟨g,off,none⟩)
theorem yje {x y:Operand}{T E sz t k n idx:Nat}{χ:List Value->World->Prop}(ho:ops[i]? = some o)(hw:Wants ops l bx sl i o)(hop:o.op=.indexAddr T x y)(hT:Idx T sz)(hx:Opnd ops l bx sl i x (Is (a0.eval (.tmp t))))(hb:bx[k]? = some (t,.row E sz n χ))(hn:unturned ops l i (.inl t)=true)(hy:Opnd ops l bx sl i y (iV (idx:Nat)))(hlt:idx < n)(hk:kdAt l i=.val (REt a0 t (sz*idx))):Owed Tryz.prog ops Q l bx sl a0 n0 w0 i:=
 ycs ho hw hk fun vs B a w c=>by
  have hxv:a.eval x=a0.eval (.tmp t):=(hx a0 n0 w0 vs B a w c).now
  have hyv:a.eval y=.int .i64 (idx:Nat):=(hy a0 n0 w0 vs B a w c).now
  obtain ⟨xs,⟨hl,hown⟩,_,_⟩:=c.box t _ (zhl hb) hn
  rcases hown with ⟨_,h0⟩ | ⟨g,cap,cur,e,_⟩
  ·omega
  ·rw [e] at hxv
   refine ⟨.pointer (some ⟨g,sz*idx,none⟩),?_,fun _ _=>⟨g,n,cap,e,rfl⟩⟩
   have:=hT a.eval o x y w g 0 idx n cap hlt hxv hyv
   rw [zig] at this
   rw [← this]
   unfold execOp
   rw [hop]
theorem yu6 (A B C:List Value)(m:Nat)(h:A.length+B.length<=m):(A ++ (B ++ C)).take m=A ++ (B ++ C.take (m-(A.length+B.length))):=by
 rw [← zhr,← zhr,List.take_append,zhg (by simp; omega)]
 simp
theorem yfz (vs:List Value)(o:Nat)(cur:Array Value)(h:o+vs.length<=cur.size):(setsFrom cur o vs).toList=cur.toList.take o ++ vs ++ cur.toList.drop (o+vs.length):=by
 apply List.ext_getElem?
 intro k
 rw [Array.getElem?_toList,yeg vs o cur k h]
 by_cases h1:k < o
 ·rw [if_neg (by omega),zhr,zh1 (by simp; omega),zjc,if_pos h1]
  simp
 ·by_cases h2:k < o+vs.length
  ·rw [if_pos (by omega),zhr,zhq (by simp; omega),zh1 (by simp; omega)]
   congr 1
   simp
   omega
  ·rw [if_neg (by omega),zhq (by simp; omega),List.getElem?_drop]
   simp only [zhx,zh6,zkj]
   rw [show o+vs.length+(k-(min o cur.size+vs.length))=k from by omega]
   simp
theorem yjf {x y:Operand}{E sz t k n idx:Nat}{φs:List Pr}{ψ:Pr}(ho:ops[i]? = some o)(hw:Wants ops l bx sl i o)(hop:o.op=.store E x y)(hE:Sto E sz)(hz:0 < sz)(hx:Opnd ops l bx sl i x (REt a0 t (sz*idx)))(hb:bx[k]? = some (t,.row E sz n (CE sz φs)))(hn:unturned ops l i (.inl t)=true)(hy:Opnd ops l bx sl i y ψ)(hc:Cel sz ψ)(hlt:idx < n)(hk:kdAt l i=.put (.inl t) (.row E sz n (CE sz (φs.set idx ψ)))):Owed Tryz.prog ops Q l bx sl a0 n0 w0 i:=fun vs B a w c o' ho'=>by
 obtain rfl:o=o':=Option.some.inj (ho.symm.trans ho')
 obtain ⟨g,n',cap',hg0,hxv⟩:=(hx a0 n0 w0 vs B a w c).now
 have hyv:=hy a0 n0 w0 vs B a w c
 have hcy:=hc _ _ hyv.now
 obtain ⟨zs,⟨hl,hown⟩,hB,hχ⟩:=c.box t _ (zhl hb) hn
 obtain ⟨us,rfl,hul,hcv,hall⟩:=hχ w (Ev.refl _ _)
 have hun:=yo5 hz hcv hl
 rcases hown with ⟨_,h0⟩ | ⟨g',cap,cur,e,hlo,hg,hnc,hcm,hcs,htk⟩
 ·omega
 rw [hg0] at e
 simp only [Value.slice.injEq,Option.some.injEq,Addr.mk.injEq] at e
 obtain ⟨⟨rfl,_⟩,rfl,rfl⟩:=e
 have hBg:B g:=hB g (by rw [hg0]; rfl)
 have hfit:(idx+1)*sz<=n'*sz:=zhn _ hlt
 have hfit2:n'*sz<=cap'*sz:=zhn _ hnc
 rw [zhv,ziv] at hfit
 have hthere:w.there g (sz*idx) sz:=fun j hj=>by
  refine ⟨?_,by simp [World.frozen?,hg]⟩
  simp only [World.cell?,hg]
  rw [zhd sz idx]
  simp [show idx*sz+j < cur.size from by omega]
 have hlenu:(a.eval y).cells.toList.length=sz:=by simp [hcy.siz]
 have h:(execOp a.eval o).run Tryz.prog w=.ok .skip (w.setRow g (setsFrom cur (sz*idx) (a.eval y).cells.toList)):=by
  rw [← ye2 g _ _ w cur hg,← hE a.eval o x y w g (sz*idx) _ hcy hthere hxv rfl]
  unfold execOp
  rw [hop]
 simp only [wpOp,ho]
 rw [if_pos (hw a0 n0 w0 vs B a w c)]
 refine Or.inl ?_
 unfold Oper.wp
 rw [h,Oper.upon_skip]
 refine ⟨undef,rfl,?_⟩
 rw [hk]
 have hcv':∀ u ∈ us.set idx (a.eval y),Celv sz u:=fun u hu=>by
  rcases List.mem_or_eq_of_mem_set hu with h | h
  ·exact hcv u h
  ·rw [h]; exact hcy
 have hsl:=yfz (a.eval y).cells.toList (sz*idx) cur (by rw [hlenu,zhd]; omega)
 have hev:∀ w',Ev B (w.setRow g (setsFrom cur (sz*idx) (a.eval y).cells.toList)) w'->Ev B w w':=fun w' ev=>(show Ev B w (w.setRow g (setsFrom cur (sz*idx) (a.eval y).cells.toList)) from ⟨rfl,rfl,rfl,Nat.le_of_eq (yd8 _ _ _).symm,fun k _ hn'=>setRow_other _ _ _ _ (fun e=>hn' (e ▸ hBg))⟩).back (fun _ _ h=>h) ev
 refine zak (x:=.inl t) (zhl hb) rfl rfl ⟨rfl,rfl,rfl,Nat.le_of_eq (yd8 _ _ _).symm,fun k _ hn'=>setRow_other _ _ _ _ (fun e=>hn' (by show vblock (a0.eval (.tmp t))=_; rw [hg0,e]; rfl))⟩ ⟨cellsOf (us.set idx (a.eval y)),⟨?_,Or.inr ⟨g,cap',_,hg0,hlo,setRow_heap w _ _ _ _ _ hg,hnc,hcm,?_,?_⟩⟩,hB,fun w' ev=>?_⟩
 ·rw [ycm hcv',List.length_set,hun]
 ·have:=congrArg List.length hsl
  simp only [zkj,zhx,zh6,zj0] at this
  rw [this]
  have:=hcy.siz
  rw [zhd sz idx]
  omega
 ·rw [hsl,hlenu,zhd sz idx]
  have t1:cur.toList.take (idx*sz)=cellsOf (us.take idx):=by
   rw [← ymj hcv idx (by omega),← htk,List.take_take,ziq (by omega)]
  have t2:(cur.toList.drop (idx*sz+sz)).take (n'*sz-(idx*sz+sz))=cellsOf (us.drop (idx+1)):=by
   rw [← yh9 hcv (idx+1) (by omega),← htk,List.drop_take,zhv,ziv]
  rw [List.set_eq_take_append_cons_drop,if_pos (by omega),yea,zhr,t1]
  have e1:cellsOf (a.eval y :: us.drop (idx+1))=(a.eval y).cells.toList ++ cellsOf (us.drop (idx+1)):=rfl
  have l1:(cellsOf (us.take idx)).length=idx*sz:=by rw [← t1]; simp; omega
  rw [e1,yu6 _ _ _ _ (by rw [l1,hlenu]; omega),l1,hlenu,t2]
 ·obtain ⟨us',e',hul',hcv2,hall'⟩:=hχ w' (hev w' ev)
  have:us'=us:=yix hz hcv2 hcv e'.symm
  subst this
  refine ⟨_,rfl,by simp [hul],hcv',fun j u φ hu hφ=>?_⟩
  by_cases hj:j=idx
  ·subst hj
   rw [List.getElem?_set_self (by omega)] at hu hφ
   cases hu
   cases hφ
   exact hyv w' (hev w' ev)
  ·rw [List.getElem?_set_ne (Ne.symm hj)] at hu hφ
   exact hall' j u φ hu hφ
end
end Go.Proofs.YtdnindaohpdblaaGreat
