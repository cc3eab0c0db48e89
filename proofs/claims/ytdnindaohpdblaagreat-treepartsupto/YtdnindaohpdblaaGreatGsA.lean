import Derived.Test.YtdnindaohpdblaaGreatVcA
set_option linter.all false
namespace Go.Proofs.YtdnindaohpdblaaGreat
open Go Go.RowKit Nt
set_option maxRecDepth 20000
set_option maxHeartbeats 16000000
def SF (ps:List Pr):Pr:=fun v w=>∃ cs:Array Value,v=.agg cs/\cs.size=ps.length/\cs.all (·.oneCell')=true/\∀ (f:Nat) (p:Pr),ps[f]? = some p->∃ u,cs[f]? = some u/\p u w
theorem zep {ps:List Pr}:Shp ps.length (SF ps):=fun u w ⟨cs,e,h1,h2,_⟩=>⟨cs,e,h1,h2⟩
theorem SF.get {ps:List Pr}{cs:Array Value}{w:World}(h:SF ps (.agg cs) w):cs.size=ps.length/\cs.all (·.oneCell')=true/\∀ (f:Nat) (p:Pr),ps[f]? = some p->∃ u,cs[f]? = some u/\p u w:=by
 obtain ⟨cs',e,h⟩:=h
 simp at e
 subst e
 exact h
def Load1 (T:TypeId):Prop:=∀ (ρ:Operand->Value) (w:World) (o:Oper) (x:Operand) (b f:Nat) (u:Value),ρ x=.pointer (some ⟨b,f,none⟩)->w.cell? ⟨b,f,none⟩=some u->(execOp ρ { o with op:=.load T x }).run Tryz.prog w=.ok (.value u) w
section
variable {ops:Array Oper} {l:List Kd} {bx:Bxs} {sl:List (Tmp × Pr)} {i:Nat} {o:Oper} {Q:Exit->Act->World->Prop} {a0:Act} {n:Nat} {w0:World}
theorem za9 {w:World}{g f:Nat}{cs:Array Value}{T:TypeId}{u:Value}(h:w.heap[g]? = some (.cells (Value.agg cs).cells T (0,0)))(hu:cs[f]? = some u):w.cell? ⟨g,f,none⟩=some u:=by
 have h:w.heap[g]? = some (.cells cs T (0,0)):=h
 simp only [World.cell?,h]
 exact hu
end
section
variable {P:Program} {ops:Array Oper} {l:List Kd} {bx:Bxs} {n:Nat} {sl:List (Tmp × Pr)} {B0:Nat->Prop} {a0:Act} {W w0:World} {Q:Exit->Act->World->Prop}
end
section
variable {ops:Array Oper} {l:List Kd} {bx:Bxs} {sl:List (Tmp × Pr)} {i:Nat} {o:Oper} {Q:Exit->Act->World->Prop} {a0:Act} {n0:Nat} {w0:World}
end
theorem yb9:Load1 35:=fun ρ w o x b f u hx hc=>by
 unfold execOp
 go_simp
theorem yb1:Load1 36:=fun ρ w o x b f u hx hc=>by
 unfold execOp
 go_simp
theorem ys7 {w:World}{lo g E sz n:Nat}{us:List Value}(h:w.heap[g]? = some (.cells (cellsOf us).toArray E (0,0)))(hl:lo<=g)(hn:us.length=n)(hm:n<=maxLen)(hc:∀ u ∈ us,Celv sz u):w.ownsRow lo E sz (.slice (some ⟨g,0,none⟩) n n) n (cellsOf us):=by
 have e:(cellsOf us).length=n*sz:=by rw [ycm hc,hn]
 exact ⟨e,Or.inr ⟨g,n,_,rfl,hl,h,zha _,hm,by simpa using e,by rw [← e]; simp⟩⟩
theorem yob {u:Value}(h:Celv 2 u):∃ a b,u=.agg #[a,b]/\a.oneCell'=true/\b.oneCell'=true:=by
 have e:=h.of
 rw [ofCells,if_neg (by decide)] at e
 obtain ⟨l,hl⟩:∃ l,u.cells=⟨l⟩:=⟨u.cells.toList,by simp⟩
 have hs:=h.siz
 have ho:=h.one
 rw [hl] at e hs ho
 match l,hs with
 | [y,z],_=>simp at ho; exact ⟨y,z,e,ho.1,ho.2⟩
def Bld2 (T E:Nat)(p:Value->Prop):Prop:=∀ (ρ:Operand->Value) (o:Oper) (x y:Operand) (w:World),p (ρ x)->p (ρ y)->(execOp ρ { o with op:=.buildSlice T 2 #[(0,x),(1,y)] }).run Tryz.prog w=.ok (.value (.slice (some ⟨w.heap.size,0,none⟩) 2 2)) (w.alloc (.cells (cellsOf [ρ x,ρ y]).toArray E))
def Bld3 (T E:Nat)(p:Value->Prop):Prop:=∀ (ρ:Operand->Value) (o:Oper) (x y z:Operand) (w:World),p (ρ x)->p (ρ y)->p (ρ z)->(execOp ρ { o with op:=.buildSlice T 3 #[(0,x),(1,y),(2,z)] }).run Tryz.prog w=.ok (.value (.slice (some ⟨w.heap.size,0,none⟩) 3 3)) (w.alloc (.cells (cellsOf [ρ x,ρ y,ρ z]).toArray E))
def Bld0 (T E:Nat):Prop:=∀ (ρ:Operand->Value) (o:Oper) (w:World),(execOp ρ { o with op:=.buildSlice T 0 #[] }).run Tryz.prog w=.ok (.value (.slice (some ⟨w.heap.size,0,none⟩) 0 0)) (w.alloc (.cells #[] E))
theorem yvu:Bld0 35 24:=fun ρ o w=>by
 unfold execOp
 go_simp
def isSl (v:Value):Prop:=∃ p n c,v=.slice p n c
theorem yvw:Bld3 35 24 (Celv 2):=fun ρ o x y z w hx hy hz=>by
 obtain ⟨a,b,e1,h1,h2⟩:=yob hx
 obtain ⟨a',b',e2,h3,h4⟩:=yob hy
 obtain ⟨a'',b'',e3,h5,h6⟩:=yob hz
 rw [e1,e2,e3]
 simp only [cellsOf,List.flatMap_cons,List.flatMap_nil,Value.cells,zjy,zh8,zhz]
 unfold execOp
 go_simp
theorem yvv:Bld2 36 35 isSl:=fun ρ o x y w ⟨p,n,c,e1⟩ ⟨p',n',c',e2⟩=>by
 rw [e1,e2]
 simp only [cellsOf,List.flatMap_cons,List.flatMap_nil,Value.cells,zjy,zh8,zhz]
 unfold execOp
 go_simp
section
variable {ops:Array Oper} {l:List Kd} {bx:Bxs} {sl:List (Tmp × Pr)} {i:Nat} {o:Oper} {Q:Exit->Act->World->Prop} {a0:Act} {n0:Nat} {w0:World}
theorem ys6 {B:Nat->Prop}{vs:Nat->Value}{a:Act}{w:World}(c:Ctx ops l bx sl a0 n0 w0 i vs B a w){E sz n:Nat}{us:List Value}{ψs:List (Nat->Pr)}(hz:0 < sz)(hn:us.length=n)(hm:n<=maxLen)(hl:ψs.length=n)(hc:∀ u ∈ us,Celv sz u)(h:∀ (j:Nat) u ψ,us[j]? = some u->ψs[j]? = some ψ->Has B w (ψ w0.heap.size) u):
  Below w.heap.size w (w.alloc (.cells (cellsOf us).toArray E))/\Has B (w.alloc (.cells (cellsOf us).toArray E)) (LF sz n ψs w0.heap.size) (.slice (some ⟨w.heap.size,0,none⟩) n n):=by
 have hb:Below w.heap.size w (w.alloc (.cells (cellsOf us).toArray E)):=(Below.refl _ _).alloc (zha _) _
 refine ⟨hb,fun w'' e''=>?_⟩
 have ev:Ev B w w'':=⟨e''.os.trans hb.os,e''.tape.trans hb.tape,e''.output.trans hb.output,zhb hb.size e''.size,fun k hk hn=>(e''.block k (zhe hk hb.size) hn).trans (hb.block k hk)⟩
 refine ynj hz _ w'' (cellsOf us) (ys7 (E:=E) ?_ c.lo hn hm hc) ⟨us,rfl,by simp [hn,hl],hc,fun j u φ hu hφ=>?_⟩
 ·rw [e''.block w.heap.size (zhf.1 (heap_alloc_last w _)).1 (fun hB=>by have:=(c.bnd _ hB).2; omega)]
  exact heap_alloc_last _ _
 ·obtain ⟨ψ,hψ,rfl⟩:=ybs hφ
  exact h j u ψ hu hψ w'' ev
theorem ywt {x y:Operand}{T E sz:Nat}{p:Value->Prop}{ψ0 ψ1:Nat->Pr}(ho:ops[i]? = some o)(hw:Wants ops l bx sl i o)(hop:o.op=.buildSlice T 2 #[(0,x),(1,y)])(hB:Bld2 T E p)(hz:0 < sz)(hx:Opnd ops l bx sl i x (ψ0 w0.heap.size))(hy:Opnd ops l bx sl i y (ψ1 w0.heap.size))(h0:∀ v w,ψ0 w0.heap.size v w->p v/\Celv sz v)(h1:∀ v w,ψ1 w0.heap.size v w->p v/\Celv sz v)(hk:kdAt l i=.val (LF sz 2 [ψ0,ψ1] w0.heap.size)):Owed Tryz.prog ops Q l bx sl a0 n0 w0 i:=
 yfw ho hw hk fun vs B a w c=>by
  have hX:=hx a0 n0 w0 vs B a w c
  have hY:=hy a0 n0 w0 vs B a w c
  obtain ⟨p0,c0⟩:=h0 _ _ hX.now
  obtain ⟨p1,c1⟩:=h1 _ _ hY.now
  obtain ⟨b1,b2⟩:=ys6 c (E:=E) (n:=2) (us:=[a.eval x,a.eval y]) (ψs:=[ψ0,ψ1]) hz rfl (by unfold maxLen; omega) rfl (by intro u hu; simp at hu; rcases hu with rfl | rfl; exact c0; exact c1) (fun j u ψ hu hψ=>by
   match j,hu,hψ with
   | 0,hu,hψ=>simp at hu hψ; subst hu; subst hψ; exact hX
   | 1,hu,hψ=>simp at hu hψ; subst hu; subst hψ; exact hY)
  refine ⟨_,_,?_,b1,b2⟩
  rw [← hB a.eval o x y w p0 p1]
  unfold execOp
  rw [hop]
theorem ywu {x y z:Operand}{T E sz:Nat}{p:Value->Prop}{ψ0 ψ1 ψ2:Nat->Pr}(ho:ops[i]? = some o)(hw:Wants ops l bx sl i o)(hop:o.op=.buildSlice T 3 #[(0,x),(1,y),(2,z)])(hB:Bld3 T E p)(hz:0 < sz)(hx:Opnd ops l bx sl i x (ψ0 w0.heap.size))(hy:Opnd ops l bx sl i y (ψ1 w0.heap.size))(hzz:Opnd ops l bx sl i z (ψ2 w0.heap.size))(h0:∀ v w,ψ0 w0.heap.size v w->p v/\Celv sz v)(h1:∀ v w,ψ1 w0.heap.size v w->p v/\Celv sz v)(h2:∀ v w,ψ2 w0.heap.size v w->p v/\Celv sz v)(hk:kdAt l i=.val (LF sz 3 [ψ0,ψ1,ψ2] w0.heap.size)):Owed Tryz.prog ops Q l bx sl a0 n0 w0 i:=
 yfw ho hw hk fun vs B a w c=>by
  have hX:=hx a0 n0 w0 vs B a w c
  have hY:=hy a0 n0 w0 vs B a w c
  have hZ:=hzz a0 n0 w0 vs B a w c
  obtain ⟨p0,c0⟩:=h0 _ _ hX.now
  obtain ⟨p1,c1⟩:=h1 _ _ hY.now
  obtain ⟨p2,c2⟩:=h2 _ _ hZ.now
  obtain ⟨b1,b2⟩:=ys6 c (E:=E) (n:=3) (us:=[a.eval x,a.eval y,a.eval z]) (ψs:=[ψ0,ψ1,ψ2]) hz rfl (by unfold maxLen; omega) rfl (by intro u hu; simp at hu; rcases hu with rfl | rfl | rfl; exact c0; exact c1; exact c2) (fun j u ψ hu hψ=>by
   match j,hu,hψ with
   | 0,hu,hψ=>simp at hu hψ; subst hu; subst hψ; exact hX
   | 1,hu,hψ=>simp at hu hψ; subst hu; subst hψ; exact hY
   | 2,hu,hψ=>simp at hu hψ; subst hu; subst hψ; exact hZ)
  refine ⟨_,_,?_,b1,b2⟩
  rw [← hB a.eval o x y z w p0 p1 p2]
  unfold execOp
  rw [hop]
end
theorem yvn {z:Int}{lo:Nat}:∀ v w,ZN z lo v w->Celv 2 v/\Celv 2 v:=fun v w h=>⟨yb6 (by decide) yai v w h,yb6 (by decide) yai v w h⟩
theorem yy7 {sz n lo:Nat}{ψs:List (Nat->Pr)}:∀ v w,LF sz n ψs lo v w->isSl v/\Celv 1 v:=fun v w h=>by
 refine ⟨?_,zb9 v w h⟩
 obtain ⟨p,c,e,_⟩:=h.1
 exact ⟨p,n,c,e⟩
theorem zes {E sz lo:Nat}{ψ:Nat->Pr}(hz:0 < sz):∀ v w,Sng E sz (ψ lo) lo v w->LF sz 1 [ψ] lo v w:=by
 rintro v w ⟨g,u,rfl,h1,h2,h3,h4⟩
 have ecs:cellsOf [u]=u.cells.toList:=by simp [cellsOf]
 refine ynj hz _ w (cellsOf [u]) (ys7 (E:=E) (by rw [ecs]; simpa using h2) h1 rfl (by unfold maxLen; omega) (by intro x hx; simp at hx; subst hx; exact h3)) ⟨[u],rfl,rfl,by intro x hx; simp at hx; subst hx; exact h3,fun j x φ hx hφ=>?_⟩
 match j,hx,hφ with
 | 0,hx,hφ=>simp at hx hφ; subst hx; subst hφ; exact h4
 | j+1,hx,_=>simp at hx
end Go.Proofs.YtdnindaohpdblaaGreat
