import Derived.Test.YtdnindaohpdblaaGreatGsA
import Derived.Test.YtdnindaohpdblaaGreatSetV
import Derived.Test.YtdnindaohpdblaaGreatSetG
set_option linter.all false
namespace Go.Proofs.YtdnindaohpdblaaGreat
open Go Go.RowKit Nt
set_option maxRecDepth 20000
set_option maxHeartbeats 16000000
theorem ygh:Strct 38 2:=⟨⟨_,Tryz.underlying38,rfl⟩,by kernel_rfl⟩
theorem yei {p q:Pr}:Shp 2 (SF [p,q]):=zep (ps:=[p,q])
theorem yf5 {φ:Pr}(h:Shp 2 φ)(ρ:Operand->Value)(o:Oper)(x:Operand)(w:World)(hφ:φ (ρ x) w):(execOp ρ { o with op:=.box 38 x }).run Tryz.prog w=.ok (.value (.pointer (some ⟨w.heap.size,0,none⟩))) (w.alloc (.cells (ρ x).cells 38 (0,0))):=by
 obtain ⟨cs,e,h1,h2⟩:=h _ _ hφ
 unfold execOp
 rw [e]
 go_simp
theorem yb8 (ρ:Operand->Value)(o:Oper)(x:Operand)(w:World)(b f:Nat)(h:ρ x=.pointer (some ⟨b,f,none⟩)):(execOp ρ { o with op:=.fieldAddr 38 x 0 }).run Tryz.prog w=.ok (.value (.pointer (some ⟨b,f,none⟩))) w:=by
 unfold execOp
 go_simp
theorem yaw (ρ:Operand->Value)(o:Oper)(x:Operand)(w:World)(b f:Nat)(h:ρ x=.pointer (some ⟨b,f,none⟩)):(execOp ρ { o with op:=.fieldAddr 38 x 1 }).run Tryz.prog w=.ok (.value (.pointer (some ⟨b,f+1,none⟩))) w:=by
 unfold execOp
 go_simp
theorem ploadS {ps:List Pr}{χ:Pr}{f:Nat}{T T':TypeId}(hp:ps[f]? = some χ)(hL:Load1 T')(ρ:Operand->Value)(o:Oper)(x:Operand)(w:World)(b:Nat)(u:Value)(hφ:SF ps u w)(hx:ρ x=.pointer (some ⟨b,f,none⟩))(hb:w.heap[b]? = some (.cells u.cells T (0,0))):
  ∃ v,(execOp ρ { o with op:=.load T' x }).run Tryz.prog w=.ok (.value v) w/\∀ w',SF ps u w'->χ v w':=by
 obtain ⟨cs,rfl,h1,h2,h3⟩:=hφ
 obtain ⟨v,hv,_⟩:=h3 f χ hp
 refine ⟨v,hL ρ w o x b f v hx (za9 hb hv),fun w' h'=>?_⟩
 obtain ⟨_,_,h4⟩:=h'.get
 obtain ⟨v',hv',hχ⟩:=h4 f χ hp
 rw [hv] at hv'
 cases hv'
 exact hχ
theorem Sta.reboxS {w0 W:World}{n:Nat}{bx:Bxs}{sl:List (Tmp × Pr)}{B:Nat->Prop}{a:Act}(S:Sta w0 n bx sl B a W)(k:Nat){t:Nat}{T:TypeId}{φ ψ:Pr}(h:bx[k]? = some (t,.box T φ))(hi:∀ v w,φ v w->ψ v w):Sta w0 n (bx.set k (t,.box T ψ)) sl B a W:=by
 have hm:=zhl h
 have key:∀ x ∈ bx.set k (t,.box T ψ),∃ y ∈ bx,y.1=x.1/\(∀ v b,x.2.set v b ↔ y.2.set v b)/\(y.2.at w0.heap.size B W (a.eval (.tmp x.1))->x.2.at w0.heap.size B W (a.eval (.tmp x.1))):=fun x hx=>by
  rcases List.mem_or_eq_of_mem_set hx with h1 | rfl
  ·exact ⟨x,h1,rfl,fun _ _=>Iff.rfl,id⟩
  ·exact ⟨_,hm,rfl,fun _ _=>Iff.rfl,fun ⟨b,u,h1,h2,h3,h4⟩=>⟨b,u,h1,h2,h3,h4.imp (fun w=>hi u w)⟩⟩
 refine ⟨S.ent,S.bnd,S.siz,S.dfr,fun x hx=>?_,fun x hx y hy b hbx hby=>?_,S.slt⟩
 ·obtain ⟨y,hy,e,_,h2⟩:=key x hx
  exact h2 (by rw [← e]; exact S.box y hy)
 ·obtain ⟨x',hx',ex,sx,_⟩:=key x hx
  obtain ⟨y',hy',ey,sy,_⟩:=key y hy
  have:=S.sep x' hx' y' hy' b (by rw [ex]; exact (sx _ _).1 hbx) (by rw [ey]; exact (sy _ _).1 hby)
  rw [← ex,← ey,this]
section
variable {ops:Array Oper} {l:List Kd} {bx:Bxs} {sl:List (Tmp × Pr)} {i:Nat} {o:Oper} {Q:Exit->Act->World->Prop} {a0:Act} {n:Nat} {w0:World}
theorem yjb {χ:Pr}{f:FuncId}{xs:Array Operand}{ts:Array TypeId}(ho:ops[i]? = some o)(hw:Wants ops l bx sl i o)(hop:o.op=.call { callee:=.value (.func f),args:=xs,argTypes:=ts })(hk:kdAt l i=.val χ)
  (hcf:∀ args w,(callFunc f args).run Tryz.prog w=.ok (.enter f args) w)
  (h:∀ vs B a w,Ctx ops l bx sl a0 n w0 i vs B a w->Calls Tryz.prog f (xs.map a.eval) w fun e w'=>∃ r,e=.returned r/\Below w.heap.size w w'/\Has B w' χ r):Owed Tryz.prog ops Q l bx sl a0 n w0 i:=fun vs B a w c o' ho'=>by
 obtain rfl:o=o':=Option.some.inj (ho.symm.trans ho')
 have hr:(execOp a.eval o).run Tryz.prog w=.ok (.enter f (xs.map a.eval)) w:=by
  unfold execOp
  rw [hop]
  have hf:a.eval (.func f)=.func (.func f) #[] #[]:=rfl
  generalize a.eval=ρ at hf
  go_simp
 simp only [wpOp,ho]
 rw [if_pos (hw a0 n w0 vs B a w c)]
 refine Or.inl ?_
 unfold Oper.wp
 rw [hr,Oper.upon_enter]
 refine (h vs B a w c).mono ?_
 rintro e w' ⟨v,rfl,hb,hψ⟩
 refine ⟨v,rfl,?_⟩
 rw [hk]
 exact ⟨hb,hψ⟩
end
theorem yb2 {zs:List Int}{k:Nat}(h:Dl zs k)(i:Nat):(digs (zs.getD i 0).natAbs).length<=k:=by
 rw [zhc]
 cases e:zs[i]? with
 | none=>show (digs (0:Int).natAbs).length<=k; rw [show (0:Int).natAbs=0 from rfl,yc8]; exact zhs _
 | some z=>exact h i z e
theorem yec {A B:Int}{k:Nat}(h1:(digs A.natAbs).length<=k)(h2:(digs B.natAbs).length<=k):(digs (A-B).natAbs).length<=k+1:=
 zhb (yag (by omega:(A-B).natAbs<=A.natAbs+B.natAbs)) (yc3 h1 h2)
theorem yej {D:List Int}{K k:Nat}(h:k < D.length):(D.map (fun z=>Zv z K))[k]? = some (Zv (D.getD k 0) K):=by
 rw [zhi,zhj h,zhc,zhj h]
 rfl
theorem yrs {A:List (List Int)}{K k:Nat}(h:k < A.length):(A.map (fun zs=>Vv zs.length zs K))[k]? = some (Vv (A.getD k []).length (A.getD k []) K):=by
 rw [zhi,zhj h,zhc,zhj h]
 rfl

def dotR (R B:List Int):Int:=sumZ (List.zipWith (· * ·) R B)
section
variable {ops:Array Oper} {l:List Kd} {bx:Bxs} {sl:List (Tmp × Pr)} {i:Nat} {o:Oper} {Q:Exit->Act->World->Prop} {a0:Act} {n:Nat} {w0:World} {vs:Nat->Value} {B:Nat->Prop} {a:Act} {w:World}
end
section
variable {ops:Array Oper} {l:List Kd} {bx:Bxs} {sl:List (Tmp × Pr)} {i:Nat} {o:Oper} {Q:Exit->Act->World->Prop} {a0:Act} {n:Nat} {w0:World}
end

theorem yf0:(digs (1:Int).natAbs).length<=1:=ya1 (by decide)
theorem yys {a b c d:Pr}(h1:∀ v w,a v w->c v w)(h2:∀ v w,b v w->d v w):∀ v w,SF [a,b] v w->SF [c,d] v w:=by
 rintro v w ⟨cs,e,hs,ho,hp⟩
 refine ⟨cs,e,hs,ho,fun f p hf=>?_⟩
 match f,hf with
 | 0,hf=>simp at hf; subst hf; obtain ⟨u,hu,ha⟩:=hp 0 a rfl; exact ⟨u,hu,h1 u w ha⟩
 | 1,hf=>simp at hf; subst hf; obtain ⟨u,hu,ha⟩:=hp 1 b rfl; exact ⟨u,hu,h2 u w ha⟩
structure GS where
 k:Nat
 pd:Option Addr
 cd:Nat
 xd:List Value
 pl:Option Addr
 cl:Nat
 xl:List Value
section
variable {ops:Array Oper} {l:List Kd} {bx:Bxs} {sl:List (Tmp × Pr)} {i:Nat} {o:Oper} {Q:Exit->Act->World->Prop} {a0:Act} {n:Nat} {w0:World}
end
section
variable {ops:Array Oper} {l:List Kd} {bx:Bxs} {sl:List (Tmp × Pr)} {i:Nat} {o:Oper} {Q:Exit->Act->World->Prop} {a0:Act} {n:Nat} {w0:World}
end
abbrev SQ:List (List Int):=[[1,1],[0,2]]
end Go.Proofs.YtdnindaohpdblaaGreat
