import Derived.Test.YtdnindaohpdblaaGreatSetL
import Derived.Test.YtdnindaohpdblaaGreatSetQ
set_option linter.all false
namespace Go.Proofs.YtdnindaohpdblaaGreat
open Go Go.RowKit Nt
set_option maxRecDepth 20000
set_option maxHeartbeats 16000000
def Lx (p:Option Addr)(n c:Nat)(es:List El):Pr:=fun v w=>v=.slice p n c/\Ls w p n c es
theorem yfr {w w':World}{a:Addr}{v:Value}(h:w.cell? a=some v)(e:Ev (fun _=>False) w w'):w'.cell? a=some v:=by
 have hlt:=yb3 h
 have hb:=e.block a.block hlt (fun h=>h)
 unfold World.cell? at h ⊢
 rw [hb]
 exact h
theorem zah {w w':World}{p:Option Addr}{n c:Nat}{es:List El}(h:Ls w p n c es)(e:Ev (fun _=>False) w w'):Ls w' p n c es:=
 ⟨h.len,h.cap,h.max,h.nil,fun i x hx=>by
  obtain ⟨b,o,e1,h1,h2,h3⟩:=h.lie i x hx
  exact ⟨b,o,e1,yfr h1 e,yfr h2 e,yj1 h3 (fun _ _ _ _ h=>h) e⟩⟩
section
variable {ops:Array Oper} {l:List Kd} {bx:Bxs} {sl:List (Tmp × Pr)} {i:Nat} {o:Oper} {Q:Exit->Act->World->Prop} {a0:Act} {n0:Nat} {w0:World}
end
def El.z (e:El):Int:=sg e.s (val e.xs)
def tot (es:List El):Nat->Int
 | 0=>0
 | k+1=>tot es k+(match es[k]? with | some e=>e.z | none=>0)
theorem yxi {es:List El}{k:Nat}{e:El}(h:es[k]? = some e):tot es (k+1)=tot es k+sg e.s (val e.xs):=by
 show tot es k+(match es[k]? with | some e=>e.z | none=>0)=_
 rw [h]
 rfl
def cellsL (fs:List El):List Value:=fs.flatMap fun f=>[.bool f.s,.slice f.p f.n f.c]
def CL (es:List El):List Value->World->Prop:=fun ys w=>∃ fs:List El,ys=cellsL fs/\fs.length=es.length/\∀ (i:Nat) (f e:El),fs[i]? = some f->es[i]? = some e->f.s=e.s/\f.n=e.n/\f.xs=e.xs/\Sl w f.p f.n f.c f.xs
theorem infoInt:(Tryz.prog.info? 24).map (fun i=>(i.zero,i.size,i.bytes))=some (some (.agg #[.bool false,.slice none 0 0]),2,32):=by kernel_rfl
theorem ypa:EInf 24 2 32:=by
 obtain ⟨i0,hi,hz0,hz1,hz2⟩:=info_parts infoInt
 exact ⟨⟨i0,_,hi,hz0,hz1,hz2,rfl⟩,by decide⟩
end Go.Proofs.YtdnindaohpdblaaGreat
