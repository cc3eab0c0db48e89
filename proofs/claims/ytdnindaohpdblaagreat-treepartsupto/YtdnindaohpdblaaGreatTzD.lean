import Derived.RangeFuncBox
import Derived.Shelf.Abstract
import Derived.OwnWalkIn
import Derived.TacticsInMore
import Derived.Test.YtdnindaohpdblaaGreatTzC
set_option linter.all false
namespace Go.Proofs.YtdnindaohpdblaaGreat
open Go Go.RowKit Go.Shelf Nt
set_option maxRecDepth 20000
set_option maxHeartbeats 16000000
theorem zco {B:Nat->Prop}{w w1:World}(h:Ev (fun _=>False) w w1):Ev B w w1:=⟨h.os,h.tape,h.output,h.size,fun k hk _=>h.block k hk id⟩
theorem yi4 {B:Nat->Prop}{w w1:World}{b sz:Nat}{T:TypeId}{cs:Array Value}{φ:Pr}(h:Has B w φ (.agg cs))(hs:cs.size=sz)(he:Ev (fun _=>False) w w1)(hb:w1.heap[b]? = some (.cells cs T (0,0)))(hB:¬ B b):Has B w1 (AtE sz φ) (.pointer (some ⟨b,0,none⟩)):=fun w' e=>by
 have e2:=(e.block b (zhf.1 hb).1 hB).trans hb
 refine ⟨b,0,.agg cs,rfl,fun j x hx=>?_,hs,h w' ((zco he).back (fun k _ h=>h) e)⟩
 rw [zig,ybl e2]
 exact hx
theorem ywh (cs ds:Array Value)(w:World):
  Calls Tryz.prog 114 #[.agg cs,.agg ds] w fun e w'=>e=.returned (.func (.func 124) #[] #[.pointer (some ⟨w.heap.size,0,none⟩),.pointer (some ⟨w.heap.size+1,0,none⟩)])/\w'=(w.alloc (.cells cs 75)).alloc (.cells ds 26):=by
 refine (callsIn_wide (n:=3)).1 ?_
 refine callsIn_of_wp Tryz.func114 rfl trivial ?_ rfl
 simp only [Tryz.ntmps114,zjv,zie,zjw,Nat.reduceAdd,Nat.reduceSub,Array.replicate_succ,Array.replicate_zero,List.push_toArray,List.append_toArray,zh8,zjy]
 gi_wp2
 go_ret
 exact ⟨by simp,rfl⟩
def KF (f:FuncId)(φ ψ:Pr):Pr:=fun v w=>∃ p q,v=.func (.func f) #[] #[p,q]/\AtE 8 φ p w/\AtE 4 ψ q w
theorem zdc {φ ψ:Pr}(hφ:Shp 8 φ)(hψ:Shp 4 ψ)(B:Nat->Prop)(w:World)(u v:Value)(hB:∀ k,B k->k < w.heap.size)(hu:Has B w φ u)(hv:Has B w ψ v):
  Calls Tryz.prog 114 #[u,v] w fun e w'=>∃ r,e=.returned r/\Below w.heap.size w w'/\Has B w' (KF 124 φ ψ) r:=by
 obtain ⟨cs,rfl,hc,_⟩:=hφ _ _ hu.now
 obtain ⟨ds,rfl,hd,_⟩:=hψ _ _ hv.now
 refine (ywh cs ds w).mono ?_
 rintro e w' ⟨rfl,rfl⟩
 have hb:Below w.heap.size w ((w.alloc (.cells cs 75)).alloc (.cells ds 26)):=((Below.refl _ w).alloc (zha _) _).alloc (by simp) _
 have n1:¬ B w.heap.size:=fun h=>by have:=hB _ h; omega
 have n2:¬ B (w.heap.size+1):=fun h=>by have:=hB _ h; omega
 have k1:((w.alloc (.cells cs 75)).alloc (.cells ds 26)).heap[w.heap.size]? = some (.cells cs 75 (0,0)):=(Below.heap_alloc _ _ _ (by simp)).trans (World.alloc_heap_new w _)
 have k2:((w.alloc (.cells cs 75)).alloc (.cells ds 26)).heap[w.heap.size+1]? = some (.cells ds 26 (0,0)):=by
  have:=World.alloc_heap_new (w.alloc (.cells cs 75)) (.cells ds 26)
  rwa [World.size_alloc] at this
 have h1:=yi4 hu hc (Ev.of_below hb) k1 n1
 have h2:=yi4 hv hd (Ev.of_below hb) k2 n2
 exact ⟨_,rfl,hb,fun w2 e2=>⟨_,_,rfl,h1 w2 e2,h2 w2 e2⟩⟩
end Go.Proofs.YtdnindaohpdblaaGreat

namespace Go.Proofs.YtdnindaohpdblaaGreat
open Go Go.RowKit Nt
set_option maxRecDepth 20000
set_option maxHeartbeats 16000000
def Hx (V:Nat->Prop)(φ:Pr):Pr:=fun v w=>Has V w φ v
theorem Hx.nw {V:Nat->Prop}{φ:Pr}{v:Value}{w:World}(h:Hx V φ v w):φ v w:=Has.now h
open Classical in
noncomputable def midW (B V:Nat->Prop)(w w':World):World:={ w' with heap:=Array.ofFn (fun i:Fin w'.heap.size=>if h:i.1 < w.heap.size/\V i.1/\¬ B i.1 then w.heap[i.1]'h.1 else w'.heap[i.1]'i.2) }
theorem yfe {B V:Nat->Prop}{w w':World}:(midW B V w w').heap.size=w'.heap.size:=by simp [midW]
open Classical in
theorem yil {B V:Nat->Prop}{w w':World}(hs:w.heap.size<=w'.heap.size)(k:Nat):(midW B V w w').heap[k]? = if k < w.heap.size/\V k/\¬ B k then w.heap[k]? else w'.heap[k]?:=by
 by_cases hk:k < w'.heap.size
 ·have h1:k < (midW B V w w').heap.size:=by rw [yfe]; exact hk
  rw [zh4 h1]
  simp only [midW,Array.getElem_ofFn]
  by_cases h:k < w.heap.size/\V k/\¬ B k
  ·rw [dif_pos h,if_pos h,zh4 h.1]
  ·rw [dif_neg h,if_neg h,zh4 hk]
 ·rw [zi6 (by rw [yfe]; omega),if_neg (fun h=>hk (zhe h.1 hs)),zi6 (by omega)]
theorem yi5 {B V:Nat->Prop}{w:World}{φ:Pr}{v:Value}(h:Has B w (Hx V φ) v):Has (fun k=>B k\/V k) w φ v:=fun w' e=>by
 have e1:Ev B w (midW B V w w'):=⟨e.os,e.tape,e.output,by rw [yfe]; exact e.size,fun k hk hB=>by
  rw [yil e.size]
  by_cases hv:V k
  ·rw [if_pos ⟨hk,hv,hB⟩]
  ·rw [if_neg (fun h=>hv h.2.1)]
   exact e.block k hk (fun h=>h.elim hB hv)⟩
 have e2:Ev V (midW B V w w') w':=⟨rfl,rfl,rfl,by rw [yfe]; exact zha _,fun k hk hv=>by
  rw [yil e.size,if_neg (fun h=>hv h.2.1)]⟩
 exact h _ e1 _ e2
theorem yma {B V:Nat->Prop}{w:World}{φ:Pr}{v:Value}(h:Has (fun k=>B k\/V k) w φ v):Has B w (Hx V φ) v:=fun w' e w'' e'=>h w'' ⟨e'.os.trans e.os,e'.tape.trans e.tape,e'.output.trans e.output,zhb e.size e'.size,fun k hk hn=>(e'.block k (zhe hk e.size) (fun h=>hn (.inr h))).trans (e.block k hk (fun h=>hn (.inl h)))⟩
theorem yya {V:Nat->Prop}{w:World}{φ:Pr}{v:Value}(h:Has V w φ v):Has (fun _=>False) w (Hx V φ) v:=yma (Has.mono' h (fun k h=>h.elim (fun f=>f.elim) id))
theorem ysz {V V':Nat->Prop}{w w':World}{φ:Pr}{v:Value}(h:Has V w φ v)(e:Ev V w w')(hV:∀ k,k < w.heap.size->V' k->V k):Has V' w' φ v:=h.go e hV
theorem yzj {V:Nat->Prop}{w:World}{sz:Nat}{φ:Pr}{v:Value}(hz:0 < sz)(hc:Cel sz φ)(h:Has V w (AtE sz φ) v):Has V w (AtE sz (Hx V φ)) v:=fun w' e=>by
 obtain ⟨b,o,u,e1,h1,h2,h3⟩:=yo0 hz hc (h.go e (fun _ _ h=>h))
 exact ⟨b,o,u,e1,h1,h2.siz,h3⟩
theorem ygu {V:Nat->Prop}{sz:Nat}{φ:Pr}(h:Cel sz φ):Cel sz (Hx V φ):=fun u w hu=>h u w (Hx.nw hu)
theorem yyy {V:Nat->Prop}{sz:Nat}{φ:Pr}(h:Shp sz φ):Shp sz (Hx V φ):=fun u w hu=>h u w (Hx.nw hu)
theorem zfm {V:Nat->Prop}{w:World}{sz n:Nat}{φs:List Pr}{v:Value}(hz:0 < sz)(hc:∀ (k:Nat) φ,φs[k]? = some φ->Cel sz φ)(h:Has V w (Ar sz n φs) v):Has V w (Ar sz n (φs.map (Hx V))) v:=fun w' e=>by
 obtain ⟨vs,lv,h1,h2⟩:=yxu hz hc (h.go e (fun _ _ h=>h))
 obtain ⟨p,c,e1,l1,b1,a1⟩:=h2.now
 refine ⟨p,c,e1,?_,b1,fun i ψ hψ=>?_⟩
 ·obtain ⟨_,_,_,l2,_⟩:=(h.go e (fun _ _ h=>h)).now
  rw [zks]; exact l2
 ·rw [zhi] at hψ
  cases hφ:φs[i]? with
  | none=>simp [hφ] at hψ
  | some φ =>
   simp [hφ] at hψ
   subst hψ
   obtain ⟨_,_,_,l2,_⟩:=(h.go e (fun _ _ h=>h)).now
   have hi:i < vs.length:=by rw [lv,← l2]; exact (zhh.1 hφ).1
   have hp:(Pl vs φs)[i]? = some (PI vs[i] φ):=by
    simp [Pl,List.getElem?_zipWith,hφ,hi]
   obtain ⟨b,o,u,e2,h3,h4,h5,h6⟩:=a1 i _ hp
   subst h5
   exact ⟨b,o,_,e2,h3,h4,h1 i _ φ (by simp [hi]) hφ⟩
structure NEl where
 l:List Int
 p:Option Addr
 c:Nat
def NEl.v (x:NEl):Value:=.slice x.p x.l.length x.c
def nds (kd:List Int->List Int):Nat->List Int->List (List Int)
 | 0,_=>[]
 | m+1,s=>(kd s).flatMap (fun z=>(s ++ [z]) :: nds kd m (s ++ [z]))
theorem zdb {f:FuncId}{V:Nat->Prop}{w:World}{φ ψ:Pr}{v:Value}(h:Has V w (KF f φ ψ) v):∃ p q,v=.func (.func f) #[] #[p,q]/\Has V w (AtE 8 φ) p/\Has V w (AtE 4 ψ) q:=by
 obtain ⟨p,q,rfl,_,_⟩:=h.now
 refine ⟨p,q,rfl,fun w' e=>?_,fun w' e=>?_⟩
 ·obtain ⟨p',q',e1,h1,_⟩:=h w' e
  cases e1
  exact h1
 ·obtain ⟨p',q',e1,_,h1⟩:=h w' e
  cases e1
  exact h1
theorem ys4:Ldr 130 1:=fun ρ o x w b k u hu hc hx=>by
 obtain ⟨e,h1⟩:=celv1 hu
 have h2:w.cell? ⟨b,k,none⟩=some u:=hc 0 u (by rw [e]; rfl)
 clear hc hu e
 unfold execOp
 go_simp
theorem zb8 (ρ:Operand->Value)(o:Oper)(x:Operand)(w:World)(hu:Celv 1 (ρ x)):(execOp ρ { o with op:=.box 130 x }).run Tryz.prog w=.ok (.value (.pointer (some ⟨w.heap.size,0,none⟩))) (w.alloc (.cells (ρ x).cells 130 (0,0))):=by
 obtain ⟨e,h1⟩:=celv1 hu
 rw [e]
 clear hu e
 generalize hx:ρ x=u at *
 cases u <;> first | (simp [Value.oneCell'] at h1; done) | (unfold execOp; go_simp; done)
def Vmd (V:Nat->Prop)(lo hi:Nat):Nat->Prop:=fun k=>V k\/(lo<=k/\k < hi)
theorem yeh {B V:Nat->Prop}{w w':World}(h:Ev B w w')(hB:∀ k,k < w.heap.size->B k->V k):Ev V w w':=⟨h.os,h.tape,h.output,h.size,fun k hk hn=>h.block k hk (fun hb=>hn (hB k hk hb))⟩
theorem yb4 {B:Nat->Prop}{w w' w'':World}(h:Ev B w w')(h':Ev B w' w''):Ev B w w'':=h.back (fun _ _ h=>h) h'
theorem zb4 {V:Nat->Prop}{w:World}{sz:Nat}{φ φ':Pr}{v:Value}(hz:0 < sz)(hc:Cel sz φ)(hi:∀ w' u,Has V w' φ u->φ' u w')(h:Has V w (AtE sz φ) v):Has V w (AtE sz φ') v:=fun w' e=>by
 obtain ⟨b,o,u,e1,h1,h2,h3⟩:=yo0 hz hc (h.go e (fun _ _ h=>h))
 exact ⟨b,o,u,e1,h1,h2.siz,hi _ _ h3⟩
theorem yqu {f:FuncId}{fn:Func}{c:Code}{args:Array Value}{w:World}{R:Ending->World->Prop}{n:Nat}{sl:List (Tmp × Pr)}(hf:Tryz.prog.funcs[f]? = some fn)(hb:fn.body=some c)(hn:fn.ntmps=n)(hs:args.size<=n)
  (h:∀ x ∈ sl,∃ v,args[x.1]? = some v/\Has (fun _=>False) w x.2 v) (k:∀ a,Sta w n [] sl (fun _=>False) a w->c.wp Tryz.prog (bodyPostM Fence.wide 8 Tryz.prog fn R) a w):Calls Tryz.prog f args w R:=by
 refine (callsIn_wide (n:=8)).1 (callsIn_of_wp_marks hf hb trivial (wpIn_wide.2 (k _ (ydr ?_ rfl (fun x hx=>?_)))) rfl)
 ·simp [hn]; omega
 ·obtain ⟨v,hv,hh⟩:=h x hx
  have hlt:x.1 < args.size:=(zhf.1 hv).1
  have e:(Act.eval { tmps:=args ++ Array.replicate (fn.ntmps-args.size) undef,defers:=[] } (.tmp x.1))=v:=by
   simp only [Act.eval,zkr,Array.getElem?_append_left hlt,hv,Option.getD_some]
  rw [e]
  exact hh
theorem lift2 {f:FuncId}{φ ψ χ:Pr}{V:Nat->Prop}{lo:Nat}(C:∀ (B:Nat->Prop) (w:World) (u v:Value),(∀ k,B k->k < w.heap.size)->Has B w φ u->Has B w ψ v->Calls Tryz.prog f #[u,v] w fun e w'=>∃ r,e=.returned r/\Below w.heap.size w w'/\Has B w' χ r)(hV:∀ k,V k->k < lo):
  ∀ (B:Nat->Prop) (w:World) (u v:Value),lo<=w.heap.size->(∀ k,B k->k < w.heap.size)->Has B w (Hx V φ) u->Has B w (Hx V ψ) v->Calls Tryz.prog f #[u,v] w fun e w'=>∃ r,e=.returned r/\Below w.heap.size w w'/\Has B w' (Hx V χ) r:=fun B w u v hl hB hu hv=>by
 refine (C (fun k=>B k\/V k) w u v (fun k h=>h.elim (hB k) (fun h=>zhe (hV k h) hl)) (yi5 hu) (yi5 hv)).mono ?_
 rintro e w' ⟨r,e1,hb,h⟩
 exact ⟨r,e1,hb,yma h⟩
theorem lift3 {f:FuncId}{φ ψ θ χ:Pr}{V:Nat->Prop}{lo:Nat}(C:∀ (B:Nat->Prop) (w:World) (u v t:Value),(∀ k,B k->k < w.heap.size)->Has B w φ u->Has B w ψ v->Has B w θ t->Calls Tryz.prog f #[u,v,t] w fun e w'=>∃ r,e=.returned r/\Below w.heap.size w w'/\Has B w' χ r)(hV:∀ k,V k->k < lo):
  ∀ (B:Nat->Prop) (w:World) (u v t:Value),lo<=w.heap.size->(∀ k,B k->k < w.heap.size)->Has B w (Hx V φ) u->Has B w (Hx V ψ) v->Has B w (Hx V θ) t->Calls Tryz.prog f #[u,v,t] w fun e w'=>∃ r,e=.returned r/\Below w.heap.size w w'/\Has B w' (Hx V χ) r:=fun B w u v t hl hB hu hv ht=>by
 refine (C (fun k=>B k\/V k) w u v t (fun k h=>h.elim (hB k) (fun h=>zhe (hV k h) hl)) (yi5 hu) (yi5 hv) (yi5 ht)).mono ?_
 rintro e w' ⟨r,e1,hb,h⟩
 exact ⟨r,e1,hb,yma h⟩
section
variable {ops:Array Oper} {l:List Kd} {bx:Bxs} {sl:List (Tmp × Pr)} {i:Nat} {o:Oper} {Q:Exit->Act->World->Prop} {a0:Act} {n0:Nat} {w0:World}
theorem ykk {f:FuncId}{x y z:Operand}{φ ψ θ χ:Pr}{ts:Array TypeId}(ho:ops[i]? = some o)(hw:Wants ops l bx sl i o)(hop:o.op=.call { callee:=.value (.func f),args:=#[x,y,z],argTypes:=ts })(hx:Opnd ops l bx sl i x φ)(hy:Opnd ops l bx sl i y ψ)(hz:Opnd ops l bx sl i z θ)(hk:kdAt l i=.val χ)(hcf:∀ args w,(callFunc f args).run Tryz.prog w=.ok (.enter f args) w)
  (C:∀ (B:Nat->Prop) w u v t,w0.heap.size<=w.heap.size->(∀ k,B k->k < w.heap.size)->Has B w φ u->Has B w ψ v->Has B w θ t->Calls Tryz.prog f #[u,v,t] w fun e w'=>∃ r,e=.returned r/\Below w.heap.size w w'/\Has B w' χ r):Owed Tryz.prog ops Q l bx sl a0 n0 w0 i:=
 yjb ho hw hop hk hcf fun vs B a w c=>by
  rw [show (#[x,y,z]:Array Operand).map a.eval=#[a.eval x,a.eval y,a.eval z] from by simp]
  exact C B w _ _ _ c.lo (fun k hk=>(c.bnd k hk).2) (hx a0 n0 w0 vs B a w c) (hy a0 n0 w0 vs B a w c) (hz a0 n0 w0 vs B a w c)
end
def BF (f:FuncId)(φ ψ χ:Pr):Pr:=fun v w=>∃ p q t,v=.func (.func f) #[] #[p,q,t]/\AtE 8 φ p w/\AtE 4 ψ q w/\AtE 1 χ t w
theorem yxx {f:FuncId}{V:Nat->Prop}{w:World}{φ ψ χ:Pr}{v:Value}(h:Has V w (BF f φ ψ χ) v):∃ p q t,v=.func (.func f) #[] #[p,q,t]/\Has V w (AtE 8 φ) p/\Has V w (AtE 4 ψ) q/\Has V w (AtE 1 χ) t:=by
 obtain ⟨p,q,t,rfl,_,_,_⟩:=h.now
 refine ⟨p,q,t,rfl,fun w' e=>?_,fun w' e=>?_,fun w' e=>?_⟩ <;>
 ·obtain ⟨p',q',t',e1,h1,h2,h3⟩:=h w' e
  cases e1
  first | exact h1 | exact h2 | exact h3
theorem yr0 (cs ds:Array Value)(p:Option Addr)(n c:Nat)(w:World):
  Calls Tryz.prog 88 #[.agg cs,.slice p n c,.agg ds] w fun e w'=>e=.returned (.func (.func 113) #[] #[.pointer (some ⟨w.heap.size,0,none⟩),.pointer (some ⟨w.heap.size+2,0,none⟩),.pointer (some ⟨w.heap.size+1,0,none⟩)])/\w'=((w.alloc (.cells cs 75)).alloc (.cells #[.slice p n c] 35)).alloc (.cells ds 26):=by
 refine (callsIn_wide (n:=3)).1 ?_
 refine callsIn_of_wp Tryz.func88 rfl trivial ?_ rfl
 simp only [Tryz.ntmps88,zjv,zie,zjw,Nat.reduceAdd,Nat.reduceSub,Array.replicate_succ,Array.replicate_zero,List.push_toArray,List.append_toArray,zh8,zjy]
 gi_wp2
 go_ret
 exact ⟨by simp,rfl⟩
theorem ywg {B:Nat->Prop}{w w1:World}{b:Nat}{T:TypeId}{u:Value}{φ:Pr}(h:Has B w φ u)(hs:u.cells=#[u])(he:Ev (fun _=>False) w w1)(hb:w1.heap[b]? = some (.cells #[u] T (0,0)))(hB:¬ B b):Has B w1 (AtE 1 φ) (.pointer (some ⟨b,0,none⟩)):=fun w' e=>by
 have e2:=(e.block b (zhf.1 hb).1 hB).trans hb
 refine ⟨b,0,u,rfl,fun j x hx=>?_,by rw [hs]; rfl,h w' ((zco he).back (fun k _ h=>h) e)⟩
 rw [zig,ybl e2,← hs]
 exact hx
theorem yr1 {φ ψ θ:Pr}(hφ:Shp 8 φ)(hψ:Shp 4 ψ)(hθ:∀ v w,θ v w->∃ p n c,v=.slice p n c)(B:Nat->Prop)(w:World)(u t v:Value)(hB:∀ k,B k->k < w.heap.size)(hu:Has B w φ u)(ht:Has B w θ t)(hv:Has B w ψ v):
  Calls Tryz.prog 88 #[u,t,v] w fun e w'=>∃ r,e=.returned r/\Below w.heap.size w w'/\Has B w' (BF 113 φ ψ θ) r:=by
 obtain ⟨cs,rfl,hc,_⟩:=hφ _ _ hu.now
 obtain ⟨ds,rfl,hd,_⟩:=hψ _ _ hv.now
 obtain ⟨p,n,c,rfl⟩:=hθ _ _ ht.now
 refine (yr0 cs ds p n c w).mono ?_
 rintro e w' ⟨rfl,rfl⟩
 obtain ⟨w1,hw1⟩:∃ x,x=w.alloc (.cells cs 75):=⟨_,rfl⟩
 obtain ⟨w2,hw2⟩:∃ x,x=w1.alloc (.cells #[.slice p n c] 35):=⟨_,rfl⟩
 rw [← hw1,← hw2]
 have s1:w1.heap.size=w.heap.size+1:=by rw [hw1]; simp
 have s2:w2.heap.size=w.heap.size+2:=by rw [hw2]; simp [s1]
 have b1:Below w.heap.size w w1:=by rw [hw1]; exact (Below.refl _ w).alloc (zha _) _
 have b2:Below w.heap.size w w2:=by rw [hw2]; exact b1.alloc (by omega) _
 have hb:Below w.heap.size w (w2.alloc (.cells ds 26)):=b2.alloc (by omega) _
 have n1:¬ B w.heap.size:=fun h=>by have:=hB _ h; omega
 have n2:¬ B (w.heap.size+1):=fun h=>by have:=hB _ h; omega
 have n3:¬ B (w.heap.size+2):=fun h=>by have:=hB _ h; omega
 have k1:(w2.alloc (.cells ds 26)).heap[w.heap.size]? = some (.cells cs 75 (0,0)):=(Below.heap_alloc _ _ _ (by omega)).trans (by rw [hw2]; exact (Below.heap_alloc _ _ _ (by omega)).trans (by rw [hw1]; exact World.alloc_heap_new w _))
 have k2:(w2.alloc (.cells ds 26)).heap[w.heap.size+1]? = some (.cells #[.slice p n c] 35 (0,0)):=(Below.heap_alloc _ _ _ (by omega)).trans (by rw [hw2,← s1]; exact World.alloc_heap_new w1 _)
 have k3:(w2.alloc (.cells ds 26)).heap[w.heap.size+2]? = some (.cells ds 26 (0,0)):=by rw [← s2]; exact World.alloc_heap_new w2 _
 have h1:=yi4 hu hc (Ev.of_below hb) k1 n1
 have h2:=ywg ht rfl (Ev.of_below hb) k2 n2
 have h3:=yi4 hv hd (Ev.of_below hb) k3 n3
 exact ⟨_,rfl,hb,fun w2 e2=>⟨_,_,_,rfl,h1 w2 e2,h3 w2 e2,h2 w2 e2⟩⟩
theorem yzx {B:Nat->Prop}{n:Nat}{X W W':World}(h:Ev B X W)(k:Nw n W W')(hn:X.heap.size<=n):Ev B X W':=
 ⟨k.os.trans h.os,k.tape.trans h.tape,k.output.trans h.output,zhb h.size k.size,fun j hj hb=>(k.block j (zhe hj h.size) (Or.inl (by omega))).trans (h.block j hj hb)⟩
theorem yx1 {T:TypeId}{lo:Nat}{u0:Value}(hu:u0.cells=#[u0]):∀ v w,FB T (IS u0) lo v w->AtE 1 (Is u0) v w:=fun v w ⟨b,u,e,_,hc,hp⟩=>by
 obtain rfl:u=u0:=hp
 refine ⟨b,0,u,e,fun j x hx=>?_,by rw [hu]; rfl,rfl⟩
 rw [zig,ybl hc]
 exact hx
theorem zba {x:KEl}:Shp 2 (Is x.v):=fun u w h=>⟨_,h,rfl,by simp [Value.oneCell']⟩
theorem yzo {V:Nat->Prop}{K:Nat}{s:List Int}:∀ (k:Nat) φ,(s.map (fun z=>Hx V (Zv z K)))[k]? = some φ->Cel 2 φ:=fun k φ h=>by
 rw [zhi] at h
 cases hz:s[k]? with
 | none=>simp [hz] at h
 | some z =>
  simp [hz] at h
  subst h
  exact ygu (yb6 (by decide) yan)
theorem ze7 {s:List Int}{K:Nat}:∀ (k:Nat) φ,(s.map (fun z=>Zv z K))[k]? = some φ->Cel 2 φ:=fun k φ h=>by
 rw [zhi] at h
 cases hz:s[k]? with
 | none=>simp [hz] at h
 | some z =>
  simp [hz] at h
  subst h
  exact yb6 (by decide) yan
theorem zfn {V:Nat->Prop}{lo k K:Nat}{s:List Int}{z:Int}{v:Value}{w:World}(hV:∀ k,V k->k < lo)(ls:s.length=k)(h:ArN 2 (k+1) (s.map (fun z=>Hx V (Zv z K)) ++ [Hx V (Zv z K)]) lo v w):Has V w (Vv (s ++ [z]).length (s ++ [z]) K) v:=fun w' e=>by
 obtain ⟨⟨p,c,e1,l1,b1,a1⟩,hlo⟩:=h
 refine ⟨p,c,by rw [e1,zhx,zj6,ls],by simp,by rw [zhx,zj6,ls]; exact b1,fun i φ hφ=>?_⟩
 have e2:s.map (fun z=>Hx V (Zv z K)) ++ [Hx V (Zv z K)]=(s ++ [z]).map (fun z=>Hx V (Zv z K)):=by simp
 rw [e2] at a1
 rw [zhi] at hφ
 cases hz:(s ++ [z])[i]? with
 | none=>simp [hz] at hφ
 | some y =>
  simp only [hz,Option.map_some,Option.some.injEq] at hφ
  subst hφ
  obtain ⟨b,o,u,e3,h1,h2,h3⟩:=a1 i (Hx V (Zv y K)) (by rw [zhi,hz]; rfl)
  refine ⟨b,o,u,e3,fun j x hx=>?_,h2,h3 w' e⟩
  have hb:lo<=b:=hlo b o _ _ (by rw [e1,e3])
  exact yg9 (h1 j x hx) (fun hv=>by have:=hV b hv; omega) e
theorem yrz {sz n lo:Nat}{φs:List Pr}{v:Value}{w:World}(h:ArN sz n φs lo v w):∃ p c,v=.slice p n c:=yh7 v w h.1
theorem zip1 {d:Tmp}{v:Value}{tm:Array Value}:((#[d].zip #[v]).foldl (fun t (x:Tmp × Value)=>t.setIfInBounds x.1 x.2) tm)=tm.setIfInBounds d v:=by simp
def FL (kd:List Int->List Int)(m:Nat)(s:List Int)(zs:List Int):List (List Int):=zs.flatMap (fun z=>(s ++ [z]) :: nds kd m (s ++ [z]))
theorem yii {kd:List Int->List Int}{m:Nat}{s zs:List Int}{z:Int}:FL kd m s (zs ++ [z])=FL kd m s zs ++ ((s ++ [z]) :: nds kd m (s ++ [z])):=by simp [FL]
theorem yzz {kd:List Int->List Int}{m:Nat}{s zs:List Int}:zs.length<=(FL kd m s zs).length:=by
 induction zs with
 | nil=>simp
 | cons z zs ih=>simp only [FL,List.flatMap_cons,zhx,zie] at ih ⊢; omega
theorem yz0 {kd:List Int->List Int}{m:Nat}{s zs ys:List Int}(h:zs <+: ys):FL kd m s zs <+: FL kd m s ys:=by
 obtain ⟨r,rfl⟩:=h
 exact ⟨FL kd m s r,by simp [FL]⟩
theorem below1 (n K MM:Nat)(kd:List Int->List Int)(Pz:List Int->Int->Prop)(φ:List Int->Pr)(ψ:Pr)(hφ:∀ s,Shp 8 (φ s))(hψ:Shp 4 ψ)(hn:n<=1048576)
  (cK:∀ s:List Int,s.length < n->∀ (M:Nat) (B:Nat->Prop) (w0:World) (pa pr:Value),M<=MM->(∀ k,B k->k < w0.heap.size)->Has B w0 (AtE 8 (φ s)) pa->Has B w0 (AtE 4 ψ) pr->SeqE Tryz.prog 124 #[pa,pr] (fun x:KEl=>#[x.v]) (fun m x w=>Has (fun k=>k < m) w (Zv x.z K) x.v/\Pz s x.z) B M (fun xs=>xs.map KEl.z=kd s) (fun xs=>xs.map KEl.z <+: kd s) w0)
  (cL:∀ s:List Int,s.length<=n->∀ w u,Hs w (φ s) u->CG 96 #[u] w (IS (.int .i64 ((n-s.length:Nat):Int))))
  (cC:∀ (s:List Int) (z:Int),s.length < n->Pz s z->∀ (B:Nat->Prop) (w:World) (u v:Value),(∀ k,B k->k < w.heap.size)->Has B w (φ s) u->Has B w (Zv z K) v->Calls Tryz.prog 94 #[u,v] w fun e w'=>∃ r,e=.returned r/\Below w.heap.size w w'/\Has B w' (φ (s ++ [z])) r):
  ∀ (m:Nat) (s:List Int),s.length+m=n->0 < m->∀ (B U0:Nat->Prop) (w0:World) (pa pr ps:Value) (M:Nat),M<=MM->(∀ k,B k->U0 k)->(∀ k,U0 k->k < w0.heap.size)->Has U0 w0 (AtE 8 (φ s)) pa->Has U0 w0 (AtE 4 ψ) pr->Has U0 w0 (AtE 1 (Vv s.length s K)) ps →
   SeqE Tryz.prog 113 #[pa,pr,ps] (fun x:NEl=>#[x.v]) (fun m x w=>Has (Vmd U0 w0.heap.size m) w (Vv x.l.length x.l K) x.v/\1<=x.l.length/\x.l.length<=n) B M (fun xs=>xs.map NEl.l=nds kd m s) (fun xs=>xs.map NEl.l <+: nds kd m s) w0:=by
 intro m
 induction m with
 | zero=>intro s _ h0; omega
 | succ m ih =>
 intro s hs _ B U0 w0 pa pr ps M hMM hBV hV h1 h2 h3 l J Jx w hw hJ hJx hM hY h0
 have hlo:w0.heap.size<=w.heap.size:=hw.size
 obtain ⟨Vm,eVm⟩:∃ Vm,Vm=Vmd U0 w0.heap.size w.heap.size:=⟨_,rfl⟩
 dsimp only at hY
 rw [← eVm] at hY
 have hVm:∀ k,Vm k->k < w.heap.size:=fun k h=>by rw [eVm] at h; rcases h with h | h; exact zhe (hV k h) hlo; exact h.2
 have hVV:∀ k,k < w0.heap.size->Vm k->U0 k:=fun k hk h=>by rw [eVm] at h; rcases h with h | h; exact h; omega
 have hBm:∀ k,B k->Vm k:=fun k h=>by rw [eVm]; exact Or.inl (hBV k h)
 have hBw:∀ k,B k->k < w.heap.size:=fun k h=>hVm k (hBm k h)
 have hsn:s.length < n:=by omega
 have ev0:Ev U0 w0 w:=yeh hw (fun k _ h=>hBV k h)
 have g1:Has Vm w (AtE 8 (φ s)) pa:=ysz h1 ev0 hVV
 have g2:Has Vm w (AtE 4 ψ) pr:=ysz h2 ev0 hVV
 have g3:Has Vm w (AtE 1 (Vv s.length s K)) ps:=ysz h3 ev0 hVV
 have G1:∀ X,Ev Vm w X->Has (fun _=>False) X (AtE 8 (Hx Vm (φ s))) pa:=fun X e=>Has.mono' (yzj (by decide) (yb6 (by decide) (hφ s)) (g1.go e (fun _ _ h=>h))) (fun k h=>h.elim)
 have G2:∀ X,Ev Vm w X->Has (fun _=>False) X (AtE 4 (Hx Vm ψ)) pr:=fun X e=>Has.mono' (yzj (by decide) (yb6 (by decide) hψ) (g2.go e (fun _ _ h=>h))) (fun k h=>h.elim)
 have G3:∀ X,Ev Vm w X->Has (fun _=>False) X (AtE 1 (Ar 2 (s.length) (s.map (fun z=>Hx Vm (Zv z K))))) ps:=fun X e=>Has.mono' (zb4 (by decide) yh8 (fun w' u h=>by have:=(zfm (by decide) ze7 h).now; rw [List.map_map] at this; exact this) (g3.go e (fun _ _ h=>h))) (fun k h=>h.elim)
 clear h1 h2 h3 g1 g2 g3
 refine yqu (sl:=[(0,Is (.func (.yield l) #[] #[])),(1,Is pa),(2,Is pr),(3,Is ps)]) Tryz.func113 rfl Tryz.ntmps113 (by simp) (yae rfl (ycy _) (yae rfl (ycy _) (yae rfl (ycy _) (yae rfl (ycy _) yao)))) ?_
 intro a0 S0
 refine wq [.new (.box 130 (Is (.func (.yield l) #[] #[])))] [.inl 0] [.inr 1,.inr 2,.inr 3] S0 ?_ ?_
 ·exact jj1 (ytu rfl wA rfl (oS 0 0) rfl (fun ρ w h=>zb8 ρ _ _ w ((ymi rfl) _ _ h)))
 intro _ a1 W1 (S1:Zt [_] [_,_,_])
 have f4:=yqf (ψ:=IS (.func (.yield l) #[] #[])) S1 0 rfl
 have q1:=ya4 S1 0 rfl; have q2:=ya4 S1 1 rfl; have q3:=ya4 S1 2 rfl
 have e1:Ev Vm w W1:=Ev.of_below S1.ent
 have S10:Sta W1 39 [] [(1,(AtE 8 (Hx Vm (φ s)))),(2,(AtE 4 (Hx Vm ψ))),(3,(AtE 1 (Ar 2 (s.length) (s.map (fun z=>Hx Vm (Zv z K)))))),(4,(FB 130 (IS (.func (.yield l) #[] #[])) w.heap.size)),(1,(Is (pa))),(2,(Is (pr))),(3,(Is (ps)))] (fun _=>False) a1 W1:=ydr S1.siz S1.dfr (ybh (by rw [q1]; exact G1 _ e1) (ybh (by rw [q2]; exact G2 _ e1) (ybh (by rw [q3]; exact G3 _ e1) (ybh ((ydb (yab _)).has (fun k (h:False)=>h.elim) f4) (ybh (ydz q1) (ybh (ydz q2) (ybh (ydz q3) (yho))))))))
 obtain ⟨a10,ea⟩:∃ x,x=a1:=⟨_,rfl⟩
 rw [← ea] at S10 ⊢
 have hs1:=S1.ent
 clear S1 q1 q2 q3 f4 ea
 refine wp_scope_straight ?_
 refine wp_seq (wp_label ?_)
 refine thenN ?_
 refine wq [V (Hx Vm (φ s)),V (Hx Vm ψ),V (Hx Vm (KF 124 (φ s) ψ))] [] (.inl 2 :: ur7) S10 ?_ ?_
 ·exact jj3 (alA wA yfd (ygu (yb6 (by decide) (hφ s))) (oS 0 1)) (alA wA yc6 (ygu (yb6 (by decide) hψ)) (oS 1 2)) (yda rfl wA rfl (oO 0 8) (oO 1 9) rfl (fun args w=>by go_simp) (fun B w2 u v hl hB hu hv=>lift2 (zdc (hφ s) hψ) hVm B w2 u v (zhb (hs1.size) hl) hB hu hv))
 intro _ a11 W11 (S11:Sta W1 39 [] [(10,(Hx Vm (KF 124 (φ s) ψ))),(1,(AtE 8 (Hx Vm (φ s)))),(2,(AtE 4 (Hx Vm ψ))),(3,(AtE 1 (Ar 2 (s.length) (s.map (fun z=>Hx Vm (Zv z K)))))),(4,(FB 130 (IS (.func (.yield l) #[] #[])) w.heap.size)),(1,(Is (pa))),(2,(Is (pr))),(3,(Is (ps)))] _ _ _)
 have y10:=ya4 S11 0 rfl; have q1:=ya4 S11 5 rfl; have q2:=ya4 S11 6 rfl; have q3:=ya4 S11 7 rfl; have f4:=ya4 S11 4 rfl
 have hs2:=S11.ent; have z2:=S11.siz; have d2:=S11.dfr
 clear S11 S10
 obtain ⟨p,q,e10,k1,k2⟩:=zdb y10
 obtain ⟨X,eX⟩:∃ X,X=W11:=⟨_,rfl⟩
 rw [← eX] at y10 k1 k2 hs2 f4 ⊢
 obtain ⟨ax,eax⟩:∃ x,x=a11:=⟨_,rfl⟩
 rw [← eax] at y10 e10 q1 q2 q3 f4 z2 d2 ⊢
 have hwX:w.heap.size<=X.heap.size:=zhb hs1.size hs2.size
 have eX1:Ev Vm w X:=yb4 (Ev.of_below hs1) (Ev.of_below hs2)
 have hBX:∀ k,B k->k < X.heap.size:=fun k h=>zhe (hBw k h) hwX
 obtain ⟨v4,e4⟩:∃ v,ax.eval (.tmp 4)=v:=⟨_,rfl⟩
 rw [e4] at f4
 clear eX eax
 refine wp_block ?_
 refine (wpIn_wide (n:=8)).1 ?_
 refine yua (n:=8) (w0:=X) (B:=B) (M:=M) e10 (enters_of Tryz.func124 (by kernel_rfl) rfl) (cK s hsn M B X p q hMM hBX (Has.mono' k1 hBm) (Has.mono' k2 hBm)) (Ev.refl _ _) (fun x=>rfl) hBX (fun m x W W' hE e=>⟨hE.1.go (yeh e (fun k _ h=>h.2)) (fun _ _ h=>h),hE.2⟩)
  (fun (pre:List KEl) W=>Ev B X W/\∃ xs:List NEl,xs.map NEl.l=FL kd m s (pre.map KEl.z)/\J xs W) (fun (c:Code) (pre:List KEl) W=>c=.exit 0/\∃ xs:List NEl,xs.map NEl.l <+: FL kd m s (pre.map KEl.z)/\Jx xs W) ?hI ?hIx ?hM ?h0 (fun (x:KEl) (a:Act) W=>(a.tmps.size=39/\a.defers=[]/\a.eval (.tmp 1)=pa/\a.eval (.tmp 2)=pr/\a.eval (.tmp 3)=ps/\a.eval (.tmp 4)=v4)/\∃ bx,a.eval (.tmp 5)=.pointer (some ⟨bx,0,none⟩)/\X.heap.size<=bx/\W.heap[bx]? = some (.cells x.v.cells 24 (0,0))) ?hAx ?assign ?body ?done ?stop
 case hI=>exact fun s A A' ⟨hs,xs,h1,h2⟩ hn=>⟨yzx hs hn (zha _),xs,h1,hJ _ _ _ h2 (hn.mono hwX)⟩
 case hIx=>exact fun c s A A' ⟨hc,xs,h1,h2⟩ hn=>⟨hc,xs,h1,hJx _ _ _ h2 (hn.mono hwX)⟩
 case hM =>
  rintro pre W ⟨_,xs,h1,h2⟩
  have:=hM _ _ h2
  have e:=congrArg List.length h1
  rw [zks] at e
  have:=yzz (kd:=kd) (m:=m) (s:=s) (zs:=pre.map KEl.z)
  rw [zks] at this
  omega
 case h0=>exact ⟨Ev.refl _ _,[],rfl,hJ _ _ _ (hJ _ _ _ h0 (Nw.of_below hs1)) (Nw.of_below hs2)⟩
 case hAx=>exact fun a' x A A' ⟨⟨b1,b2,b3,b4,b5,b6⟩,bx,b7,b8,b9⟩ hn=>⟨⟨b1,b2,b3,b4,b5,b6⟩,bx,b7,b8,(hn.block bx (zhf.1 b9).1 (Or.inr ⟨_,b9,rfl⟩)).trans b9⟩
 case assign =>
  intro l2 pre x W m2 Kk hI hE hK
  obtain ⟨aa,eaa⟩:∃ aa:Act,aa={ tmps:=ax.tmps.setIfInBounds 11 x.v,defers:=[] }:=⟨_,rfl⟩
  have hz:aa.tmps.size=39:=by rw [eaa]; simp [z2]
  have ho:∀ t,t≠11->aa.eval (.tmp t)=ax.eval (.tmp t):=fun t ht=>by rw [eaa]; simp [Act.eval,zkd (Ne.symm ht)]
  have h11:aa.eval (.tmp 11)=x.v:=by rw [eaa]; simp [Act.eval,z2]
  have hd:aa.defers=[]:=by rw [eaa]
  rw [show ((#[11].zip ((fun x:KEl=>#[x.v]) x)).foldl (fun t (y:Tmp × Value)=>t.setIfInBounds y.1 y.2) ax.tmps)=ax.tmps.setIfInBounds 11 x.v from zip1,← eaa]
  have S20:Sta W 39 [] [(11,(Is (x.v))),(1,(Is (pa))),(2,(Is (pr))),(3,(Is (ps))),(4,(Is (v4)))] (fun _=>False) aa W:=ydr hz hd (ybh (ydz h11) (ybh (ydz ((ho 1 (by decide)).trans q1)) (ybh (ydz ((ho 2 (by decide)).trans q2)) (ybh (ydz ((ho 3 (by decide)).trans q3)) (ybh (ydz ((ho 4 (by decide)).trans e4)) (yho))))))
  obtain ⟨a20,ea⟩:∃ x,x=aa:=⟨_,rfl⟩
  rw [← ea] at S20 ⊢
  refine yh5 [.new (.box 24 zI),
    .put (.inr 0) (.box 24 (Is (x.v)))] [.inl 0] [.inr 1,.inr 2,.inr 3,.inr 4] follows S20 rfl (by kernel_rfl) ?_ (by kernel_rfl) (fun _ _ h=>h) ?_
  ·exact jj2 (nwA wA yar) (puA 0 wA (oS 0 11) yad ya9 zba)
  intro _ a21 _ (S21:Sta W 39 [(5,(.box 24 (Is (x.v))))] [(1,(Is (pa))),(2,(Is (pr))),(3,(Is (ps))),(4,(Is (v4)))] _ _ _)
  refine thenN ?_
  obtain ⟨bx,u,eb,hb1,hb2,hb3⟩:=S21.box (5,.box 24 (Is x.v)) (by simp)
  obtain rfl:u=x.v:=hb3.now
  exact hK _ _ S21.ent ⟨⟨S21.siz,S21.dfr,ya4 S21 0 rfl,ya4 S21 1 rfl,ya4 S21 2 rfl,ya4 S21 3 rfl⟩,bx,eb,zhb hI.1.size (S21.bnd bx hb1).1,hb2⟩
 case body =>
  rintro l2 pre x m2 a' W hl hlm ⟨r0,hr0⟩ ⟨hB,xs,hxs,hj⟩ ⟨hE,hP⟩ ⟨⟨z0,d0,r1,r2,r3,r4⟩,bx,r5,hbx,hbc⟩
  have evW:Ev Vm w W:=yb4 eX1 (yeh hB (fun k _ h=>hBm k h))
  have hXW:X.heap.size<=W.heap.size:=hB.size
  have f4W:=(ydb (yab _)).ev _ _ _ _ B hBw f4 hB
  have hxW:Has Vm W (Zv x.z K) (.agg #[.bool x.s,.slice x.p x.n x.c]):=Has.mono' hE (fun k h=>by have:=hVm k h; omega)
  have nbx:¬ Vm bx:=fun h=>by have:=hVm bx h; omega
  have g5:Has Vm W (AtE 2 (Zv x.z K)) (.pointer (some ⟨bx,0,none⟩)):=yi4 hxW rfl (Ev.refl _ _) hbc nbx
  have G5:∀ Y,Ev Vm W Y->Has (fun _=>False) Y (AtE 2 (Hx Vm (Zv x.z K))) (.pointer (some ⟨bx,0,none⟩)):=fun Y e=>Has.mono' (yzj (by decide) (yb6 (by decide) yan) (g5.go e (fun _ _ h=>h))) (fun k h=>h.elim)
  have hVW:∀ k,Vm k->k < W.heap.size:=fun k h=>by have:=hVm k h; omega
  refine wpIn_block ?_
  have S30:Sta W 39 [] [(3,(AtE 1 (Ar 2 (s.length) (s.map (fun z=>Hx Vm (Zv z K)))))),(5,(AtE 2 (Hx Vm (Zv x.z K)))),(1,(Is (pa))),(2,(Is (pr))),(3,(Is (ps))),(4,(Is (v4))),(5,(Is (.pointer (some ⟨bx,0,none⟩))))] (fun _=>False) a' W:=ydr z0 d0 (ybh (by rw [r3]; exact G3 _ evW) (ybh (by rw [r5]; exact G5 _ (Ev.refl _ _)) (ybh (ydz r1) (ybh (ydz r2) (ybh (ydz r3) (ybh (ydz r4) (ybh (ydz r5) (yho))))))))
  obtain ⟨a30,ea⟩:∃ x,x=a':=⟨_,rfl⟩
  rw [← ea] at S30 ⊢
  clear ea
  refine wpIn_seq (yh5 [.val (Ar 2 (s.length) (s.map (fun z=>Hx Vm (Zv z K)))),
    .val (Ar 2 (s.length) (s.map (fun z=>Hx Vm (Zv z K)))),
    .val (iV (s.length:Nat)),
    .val (Ar 2 (s.length) (s.map (fun z=>Hx Vm (Zv z K)))),
    .val (iV (s.length:Nat)),
    .val (ArC 2 (s.length) (s.map (fun z=>Hx Vm (Zv z K)))),
    .val (Hx Vm (Zv x.z K)),
    .val (Sng 24 2 (Hx Vm (Zv x.z K)) W.heap.size),
    .val (ArN 2 (s.length+1) (s.map (fun z=>Hx Vm (Zv z K)) ++ [(Hx Vm (Zv x.z K))]) W.heap.size),
    .val (ArN 2 (s.length+1) (s.map (fun z=>Hx Vm (Zv z K)) ++ [(Hx Vm (Zv x.z K))]) W.heap.size)] [] [.inl 9,.inr 0,.inr 1,.inr 2,.inr 3,.inr 4,.inr 5,.inr 6] follows S30 rfl (by kernel_rfl) ?_ (by kernel_rfl) (fun _ _ h=>h) ?_)
  ·exact ⟨⟨jj8 (alA wA ycf yh8 (oS 0 3)) (alA wA ycf yh8 (oS 0 3)) (lnA wA (oO 1 13) Tryz.underlying35) (alA wA ycf yh8 (oS 0 3)) (lnA wA (oO 3 15) Tryz.underlying35) (ypt rfl wA rfl (oO 0 12) (oO 2 14) (oO 4 16) rfl) (alA wA yba (ygu (yb6 (by decide) yan)) (oS 1 5)) (yhj rfl wA rfl yn4 (oO 6 18) (ygu (yb6 (by decide) yan)) rfl),yja rfl wA rfl (oO 5 17) yzo (oO 7 19) ypa Tryz.underlying35 ⟨by unfold maxLen; omega,by omega⟩ rfl⟩,mO 8 20⟩
  intro _ a31 W31 (S31:Sta W 39 [] [(6,(ArN 2 (s.length+1) (s.map (fun z=>Hx Vm (Zv z K)) ++ [(Hx Vm (Zv x.z K))]) W.heap.size)),(3,(AtE 1 (Ar 2 (s.length) (s.map (fun z=>Hx Vm (Zv z K)))))),(5,(AtE 2 (Hx Vm (Zv x.z K)))),(1,(Is (pa))),(2,(Is (pr))),(3,(Is (ps))),(4,(Is (v4))),(5,(Is (.pointer (some ⟨bx,0,none⟩))))] _ _ _)
  refine thenN ?_
  have q1:=ya4 S31 3 rfl; have q2:=ya4 S31 4 rfl; have q3:=ya4 S31 5 rfl; have q4:=ya4 S31 6 rfl; have q5:=ya4 S31 7 rfl
  have y6:=ya4 S31 0 rfl; have hs6:=S31.ent; have z6:=S31.siz; have d6:=S31.dfr
  obtain ⟨W6,eW⟩:∃ Y,Y=W31:=⟨_,rfl⟩
  rw [← eW] at y6 hs6 ⊢
  obtain ⟨a6,ea⟩:∃ Y,Y=a31:=⟨_,rfl⟩
  rw [← ea] at q1 q2 q3 q4 q5 y6 z6 d6 ⊢
  clear S31 S30 eW ea
  obtain ⟨np,nc,e6⟩:=yrz y6
  obtain ⟨x',hx'⟩:∃ y:NEl,y=⟨s ++ [x.z],np,nc⟩:=⟨_,rfl⟩
  have l':x'.l=s ++ [x.z]:=by rw [hx']
  have e6':a6.eval (.tmp 6)=x'.v:=by rw [e6,hx']; simp [NEl.v]
  have hE6:Has Vm W6 (Vv x'.l.length x'.l K) x'.v:=by rw [l',← e6']; exact zfn (lo:=W.heap.size) hVW rfl y6
  have eB6:Ev B W W6:=Ev.of_below hs6
  have f46:=(ydb (yab _)).ev _ _ _ _ B hBw f4W eB6
  have S40:Sta W6 39 [] [(4,(FB 130 (IS (.func (.yield l) #[] #[])) w.heap.size)),(6,(Is (x'.v))),(1,(Is (pa))),(2,(Is (pr))),(3,(Is (ps))),(4,(Is (v4))),(5,(Is (.pointer (some ⟨bx,0,none⟩))))] (fun _=>False) a6 W6:=ydr z6 d6 (ybh (by rw [show a6.eval (.tmp 4)=v4 from q4]; exact (ydb (yab _)).has (fun k (h:False)=>h.elim) f46) (ybh (ydz e6') (ybh (ydz q1) (ybh (ydz q2) (ybh (ydz q3) (ybh (ydz q4) (ybh (ydz q5) (yho))))))))
  obtain ⟨a40,ea⟩:∃ x,x=a6:=⟨_,rfl⟩
  rw [← ea] at S40 ⊢
  clear ea q1 q2 q3 q4 q5 y6
  refine wpIn_seq ?_
  refine wpIn_seq (yvf (.inr ⟨_,rfl⟩) (l1:=[_,_]) (l2:=[_,_]) [.val (Is (.func (.yield l) #[] #[])),
    .val (Is (x'.v))] [] [.inl 0,.inl 1,.inr 0,.inr 1,.inr 2,.inr 3,.inr 4,.inr 5,.inr 6] S40 rfl (by kernel_rfl) (by kernel_rfl) (fun _ _ h=>h) ?_ ?_)
  ·exact jj2 (alA wA ys4 (ymi rfl) ((oS 0 4).imp (yx1 rfl))) (mS 1 6)
  intro _ a41 W41 (S41:Sta W6 39 [] [(21,(Is (.func (.yield l) #[] #[]))),(22,(Is (x'.v))),(4,(FB 130 (IS (.func (.yield l) #[] #[])) w.heap.size)),(6,(Is (x'.v))),(1,(Is (pa))),(2,(Is (pr))),(3,(Is (ps))),(4,(Is (v4))),(5,(Is (.pointer (some ⟨bx,0,none⟩))))] _ _ _)
  have q1:=ya4 S41 4 rfl; have q2:=ya4 S41 5 rfl; have q3:=ya4 S41 6 rfl; have q4:=ya4 S41 7 rfl; have q5:=ya4 S41 8 rfl; have q6:=ya4 S41 3 rfl; have q21:=ya4 S41 0 rfl; have q22:=ya4 S41 1 rfl
  have hs7:=S41.ent; have z7:=S41.siz; have d7:=S41.dfr
  obtain ⟨W7,eW⟩:∃ Y,Y=W41:=⟨_,rfl⟩
  rw [← eW] at hs7 ⊢
  obtain ⟨a7,ea⟩:∃ Y,Y=a41:=⟨_,rfl⟩
  rw [← ea] at q1 q2 q3 q4 q5 q6 q21 q22 z7 d7 ⊢
  clear S41 S40 eW ea
  have eB7:Ev B W W7:=yb4 eB6 (Ev.of_below hs7)
  have hjw:=hJ _ _ _ (hJ _ _ _ hj (Nw.of_below hs6)) (Nw.of_below hs7)
  have hE7:Has Vm W7 (Vv x'.l.length x'.l K) x'.v:=hE6.go (Ev.of_below hs7) (fun _ _ h=>h)
  have e22:a7.eval (.tmp 22)=x'.v:=q22
  refine ydy rfl (ydg rfl) ?_
  refine ymb (.inr ⟨_,rfl⟩) rfl q21 (by simp [e22]) (hY xs x' _ hjw ⟨hE7,by rw [l']; simp,by rw [l']; simp; omega⟩) ?_
  rintro e W8 (⟨rfl,hj8,hk8⟩ | ⟨rfl,hx8,hk8⟩)
  ·refine ⟨_,rfl,?_⟩
   change wpOpsIn _ _ _ _ _ _ (a7.put (some 23) _) W8
   refine ydy rfl (ydg rfl) ?_
   refine ykh (.inr ⟨_,rfl⟩) rfl (b:=true) (yce (by rw [z7]; decide)) ?_
   refine thenN ?_
   change Code.wpIn _ _ _ _ _ ((a7.put (some 23) _).put (some 24) _) W8
   refine wpIn_cond_false (yce (by rw [yc7,z7]; decide)) ?_
   refine wpIn_skip ?_
   refine thenN ?_
   refine keep2 (P:=fun x=>Code.wpIn _ _ _ _ _ x W8) (fun a9 k1' k2' k3'=>?_)
   replace q1:=(k3' 1 (by decide) (by decide)).trans q1
   replace q2:=(k3' 2 (by decide) (by decide)).trans q2
   replace q3:=(k3' 3 (by decide) (by decide)).trans q3
   replace q4:=(k3' 4 (by decide) (by decide)).trans q4
   replace q5:=(k3' 5 (by decide) (by decide)).trans q5
   replace q6:=(k3' 6 (by decide) (by decide)).trans q6
   have eB8:Ev B W W8:=yb4 eB7 hk8
   have ev8:Ev Vm W W8:=yeh eB8 (fun k _ h=>hBm k h)
   have evw8:Ev Vm w W8:=yb4 evW ev8
   have hE8:Has Vm W8 (Vv (s ++ [x.z]).length (s ++ [x.z]) K) x'.v:=by have h:=hE7.go (yeh hk8 (fun k _ h=>hBm k h)) (fun _ _ h=>h); rw [l'] at h; exact h
   have S50:Sta W8 39 [] [(1,(AtE 8 (Hx Vm (φ s)))),(2,(AtE 4 (Hx Vm ψ))),(5,(AtE 2 (Hx Vm (Zv x.z K)))),(6,(Hx Vm (Vv (s ++ [x.z]).length (s ++ [x.z]) K))),(1,(Is (pa))),(2,(Is (pr))),(3,(Is (ps))),(4,(Is (v4))),(5,(Is (.pointer (some ⟨bx,0,none⟩))))] (fun _=>False) a9 W8:=ydr (k1'.trans z7) (k2'.trans d7) (ybh (by rw [q1]; exact G1 _ evw8) (ybh (by rw [q2]; exact G2 _ evw8) (ybh (by rw [q5]; exact G5 _ ev8) (ybh (by rw [q6]; exact yya hE8) (ybh (ydz q1) (ybh (ydz q2) (ybh (ydz q3) (ybh (ydz q4) (ybh (ydz q5) (yho))))))))))
   obtain ⟨a50,ea⟩:∃ x,x=a9:=⟨_,rfl⟩
   rw [← ea] at S50 ⊢
   clear ea q1 q2 q3 q4 q5 q6 q21 q22
   have hleft:n-s.length=m+1:=by omega
   by_cases hm0:m=0
   ·skip
    refine wpIn_seq ?_
    refine wpIn_seq (yh5 [.val (Hx Vm (φ s)),
      .val (iV ((m+1:Nat):Int)),
      kT] [] [.inl 2,.inr 0,.inr 1,.inr 2,.inr 3,.inr 4,.inr 5,.inr 6,.inr 7,.inr 8] follows S50 rfl (by kernel_rfl) ?_ (by kernel_rfl) (fun _ _ h=>h) ?_)
    ·exact jj3 (alA wA yfd (ygu (yb6 (by decide) (hφ s))) (oS 0 1)) (ch1 wA (qO 0 25 rfl) (yab _) (fun w u h1=>by have h:=cL s (by omega) w u (fun w' e=>Hx.nw (h1 w' e)); rw [hleft] at h; exact h)) (ycl wA (oO 1 26) (yaa _))
    intro B51 a51 W51 (S51:Sta W8 39 [] [(27,bT),(1,(AtE 8 (Hx Vm (φ s)))),(2,(AtE 4 (Hx Vm ψ))),(5,(AtE 2 (Hx Vm (Zv x.z K)))),(6,(Hx Vm (Vv (s ++ [x.z]).length (s ++ [x.z]) K))),(1,(Is (pa))),(2,(Is (pr))),(3,(Is (ps))),(4,(Is (v4))),(5,(Is (.pointer (some ⟨bx,0,none⟩))))] _ _ _)
    refine thenN ?_
    refine wpIn_cond_true (S51.bool 0 27 rfl) ?_
    refine wpIn_exit (thenX (inBlkE ?_))
    refine ⟨yb4 eB8 (Ev.of_below S51.ent),yb4 (yb4 hB eB8) (Ev.of_below S51.ent),xs ++ [x'],?_,hJ _ _ _ hj8 (Nw.of_below S51.ent)⟩
    have e0:nds kd m (s ++ [x.z])=[]:=by rw [hm0]; rfl
    rw [ziy,ziy,zjg,zjg,yii,hxs,l',e0]
   ·skip
    refine wpIn_seq ?_
    refine wpIn_seq (yh5 [.val (Hx Vm (φ s)),
      .val (iV ((m+1:Nat):Int)),
      kF] [] [.inl 2,.inr 0,.inr 1,.inr 2,.inr 3,.inr 4,.inr 5,.inr 6,.inr 7,.inr 8] follows S50 rfl (by kernel_rfl) ?_ (by kernel_rfl) (fun _ _ h=>h) ?_)
    ·exact jj3 (alA wA yfd (ygu (yb6 (by decide) (hφ s))) (oS 0 1)) (ch1 wA (qO 0 25 rfl) (yab _) (fun w u h1=>by have h:=cL s (by omega) w u (fun w' e=>Hx.nw (h1 w' e)); rw [hleft] at h; exact h)) (ycd wA (oO 1 26) (yaa _))
    intro B51 a51 W51 (S51:Sta W8 39 [] [(27,bF),(1,(AtE 8 (Hx Vm (φ s)))),(2,(AtE 4 (Hx Vm ψ))),(5,(AtE 2 (Hx Vm (Zv x.z K)))),(6,(Hx Vm (Vv (s ++ [x.z]).length (s ++ [x.z]) K))),(1,(Is (pa))),(2,(Is (pr))),(3,(Is (ps))),(4,(Is (v4))),(5,(Is (.pointer (some ⟨bx,0,none⟩))))] _ _ _)
    refine thenN ?_
    refine wpIn_cond_false (S51.bool 0 27 rfl) ?_
    refine wpIn_skip ?_
    refine thenN ?_
    have hs9:=S51.ent
    have q1:=ya4 S51 5 rfl; have q2:=ya4 S51 6 rfl; have q3:=ya4 S51 7 rfl; have q4:=ya4 S51 8 rfl; have q5:=ya4 S51 9 rfl
    have z9:=S51.siz; have d9:=S51.dfr
    have eB9:Ev B W W51:=yb4 eB8 (Ev.of_below hs9)
    refine wpIn_seq (yh5 [.val (Hx Vm (φ s)),
      .val (Hx Vm (Zv x.z K)),
      .val (Hx Vm (φ (s ++ [x.z]))),
      .val (Hx Vm (Vv (s ++ [x.z]).length (s ++ [x.z]) K)),
      .val (Hx Vm ψ),
      .val (Hx Vm (BF 113 (φ (s ++ [x.z])) ψ (Vv (s ++ [x.z]).length (s ++ [x.z]) K)))] [] [.inl 5,.inr 0,.inr 1,.inr 2,.inr 3,.inr 4,.inr 5,.inr 6,.inr 7,.inr 8,.inr 9] follows S51 rfl (by kernel_rfl) ?_ (by kernel_rfl) (fun _ _ h=>h) ?_)
    ·exact jj6 (alA wA yfd (ygu (yb6 (by decide) (hφ s))) (oS 1 1)) (alA wA yba (ygu (yb6 (by decide) yan)) (oS 3 5)) (yda rfl wA rfl (oO 0 28) (oO 1 29) rfl (fun args w=>by go_simp) (fun B w2 u v hl hB hu hv=>lift2 (cC s x.z hsn hP) hVm B w2 u v (zhb (zhb hwX (zhb hXW ev8.size)) hl) hB hu hv)) (mS 4 6) (alA wA yc6 (ygu (yb6 (by decide) hψ)) (oS 2 2)) (ykk rfl wA rfl (oO 2 30) (oO 3 31) (oO 4 32) rfl (fun args w=>by go_simp) (fun B w2 u v t hl hB hu hv ht=>lift3 (fun B w u v t hB hu hv ht=>yr1 (hφ _) hψ (fun v w h=>by obtain ⟨p,c,e⟩:=yh7 _ _ h; exact ⟨p,_,c,e⟩) B w u v t hB hu hv ht) hVm B w2 u v t (zhb (zhb hwX (zhb hXW ev8.size)) hl) hB hu hv ht))
    intro _ a52 W52 (S52:Sta W8 39 [] [(33,(Hx Vm (BF 113 (φ (s ++ [x.z])) ψ (Vv (s ++ [x.z]).length (s ++ [x.z]) K)))),(27,bF),(1,(AtE 8 (Hx Vm (φ s)))),(2,(AtE 4 (Hx Vm ψ))),(5,(AtE 2 (Hx Vm (Zv x.z K)))),(6,(Hx Vm (Vv (s ++ [x.z]).length (s ++ [x.z]) K))),(1,(Is (pa))),(2,(Is (pr))),(3,(Is (ps))),(4,(Is (v4))),(5,(Is (.pointer (some ⟨bx,0,none⟩))))] _ _ _)
    refine thenN ?_
    have u4:=ya4 S52 9 rfl
    have y33:=ya4 S52 0 rfl; have hs10:=S52.ent; have z10:=S52.siz; have d10:=S52.dfr
    obtain ⟨W10,eW⟩:∃ Y,Y=W52:=⟨_,rfl⟩
    rw [← eW] at y33 hs10 ⊢
    obtain ⟨a10',ea⟩:∃ Y,Y=a52:=⟨_,rfl⟩
    rw [← ea] at u4 y33 z10 d10 ⊢
    clear S52 S51 S50 eW ea
    obtain ⟨p',q',t',e33,i1,i2,i3⟩:=yxx y33
    have eB10:Ev B W W10:=yb4 eB8 (Ev.of_below hs10)
    have hl10:W10.heap[l2]? = some (.loop r0):=yk6 eB10 (fun h=>by have:=hBX l2 h; omega) hr0
    have hw10:w.heap.size<=W10.heap.size:=zhb hwX (zhb hXW eB10.size)
    have hB10:∀ k,B k->k < W10.heap.size:=fun k h=>zhe (hBw k h) hw10
    have hj10:=hJ _ _ _ hj8 (Nw.of_below hs10)
    refine wpIn_block ?_
    refine zaw (n:=8) (w0:=W10) (B:=B) (M:=M) hl10 e33 (enters_of Tryz.func113 (by kernel_rfl) rfl) (ih (s ++ [x.z]) (by simp; omega) (by omega) B Vm W10 p' q' t' M hMM hBm (fun k h=>zhe (hVm k h) hw10) i1 i2 i3) (Ev.refl _ _) (fun x=>rfl) hB10 (fun m x W W' hE e=>⟨hE.1.go (yeh e (fun k _ h=>Or.inr h)) (fun _ _ h=>h),hE.2⟩)
     (fun (ys:List NEl) W'=>Ev B W10 W'/\J (xs ++ [x'] ++ ys) W') (fun (c:Code) (ys:List NEl) W'=>c=.exit 0/\Ev (fun k=>k < X.heap.size) W10 W'/\Jx (xs ++ [x'] ++ ys) W') ?hI2 ?hIx2 ?hM2 ?h02 (fun (y:NEl) (a:Act) (_:World)=>a.tmps.size=39/\a.defers=[]/\a.eval (.tmp 4)=v4/\a.eval (.tmp 7)=y.v) ?hAx2 ?assign2 ?body2 ?done2 ?stop2
    case hI2=>exact fun s A A' ⟨h1,h2⟩ hn=>⟨yzx h1 hn (zha _),hJ _ _ _ h2 (hn.mono hw10)⟩
    case hIx2=>exact fun c s A A' ⟨hc,h1,h2⟩ hn=>⟨hc,yzx h1 hn (zha _),hJx _ _ _ h2 (hn.mono hw10)⟩
    case hM2=>exact fun ys W' ⟨_,h2⟩=>by have:=hM _ _ h2; simp at this; omega
    case h02=>exact ⟨Ev.refl _ _,by rw [zhz]; exact hj10⟩
    case hAx2=>exact fun a' x A A' h hn=>h
    case assign2 =>
     intro l3 ys y Y m3 Kk hI hE hK
     obtain ⟨aa,eaa⟩:∃ aa:Act,aa={ tmps:=a10'.tmps.setIfInBounds 34 y.v,defers:=[] }:=⟨_,rfl⟩
     have hz:aa.tmps.size=39:=by rw [eaa]; simp [z10]
     have ho:∀ t,t≠34->aa.eval (.tmp t)=a10'.eval (.tmp t):=fun t ht=>by rw [eaa]; simp [Act.eval,zkd (Ne.symm ht)]
     have h34:aa.eval (.tmp 34)=y.v:=by rw [eaa]; simp [Act.eval,z10]
     have hd:aa.defers=[]:=by rw [eaa]
     rw [show ((#[34].zip ((fun x:NEl=>#[x.v]) y)).foldl (fun t (y:Tmp × Value)=>t.setIfInBounds y.1 y.2) a10'.tmps)=a10'.tmps.setIfInBounds 34 y.v from zip1,← eaa]
     have S60:Sta Y 39 [] [(34,(Is (y.v))),(4,(Is (v4)))] (fun _=>False) aa Y:=ydr hz hd (ybh (ydz h34) (ybh (ydz ((ho 4 (by decide)).trans u4)) (yho)))
     obtain ⟨a60,ea⟩:∃ x,x=aa:=⟨_,rfl⟩
     rw [← ea] at S60 ⊢
     refine yh5 [.val (Is (y.v))] [] [.inl 0,.inr 1] follows S60 rfl (by kernel_rfl) ?_ (by kernel_rfl) (fun _ _ h=>h) ?_
     ·exact jj1 (mS 0 34)
     intro _ a61 _ (S61:Sta Y 39 [] [(7,(Is (y.v))),(4,(Is (v4)))] _ _ _)
     refine thenN ?_
     exact hK _ _ S61.ent ⟨S61.siz,S61.dfr,ya4 S61 1 rfl,ya4 S61 0 rfl⟩
    case body2 =>
     rintro l3 ys y m3 ab Y hl3 hlm3 _ ⟨hBY,hjY⟩ ⟨hEY,hEl⟩ ⟨z0',d0',r4',r7'⟩
     have f4Y:=(ydb (yab _)).ev _ _ _ _ B hBw f46 (yb4 (yb4 (Ev.of_below hs7) hk8) (yb4 (Ev.of_below hs10) hBY))
     have hEm:Has Vm Y (Vv y.l.length y.l K) y.v:=Has.mono' hEY (fun k h=>Or.inl h)
     refine wpIn_block ?_
     have S70:Sta Y 39 [] [(4,(FB 130 (IS (.func (.yield l) #[] #[])) w.heap.size)),(7,(Is (y.v)))] (fun _=>False) ab Y:=ydr z0' d0' (ybh (by rw [r4']; exact (ydb (yab _)).has (fun k (h:False)=>h.elim) f4Y) (ybh (ydz r7') (yho)))
     obtain ⟨a70,ea⟩:∃ x,x=ab:=⟨_,rfl⟩
     rw [← ea] at S70 ⊢
     refine wpIn_seq (yvf (.inr ⟨_,rfl⟩) (l1:=[_,_]) (l2:=[_,_]) [.val (Is (.func (.yield l) #[] #[])),
       .val (Is (y.v))] [] [.inl 0,.inl 1,.inr 0] S70 rfl (by kernel_rfl) (by kernel_rfl) (fun _ _ h=>h) ?_ ?_)
     ·exact jj2 (alA wA ys4 (ymi rfl) ((oS 0 4).imp (yx1 rfl))) (mS 1 7)
     intro _ a71 W71 (S71:Sta Y 39 [] [(35,(Is (.func (.yield l) #[] #[]))),(36,(Is (y.v))),(4,(FB 130 (IS (.func (.yield l) #[] #[])) w.heap.size))] _ _ _)
     have q35:=ya4 S71 0 rfl; have e36:=ya4 S71 1 rfl
     have hsY:=S71.ent; have zY:=S71.siz
     obtain ⟨Y7,eW⟩:∃ Z,Z=W71:=⟨_,rfl⟩
     rw [← eW] at hsY ⊢
     obtain ⟨b7,ea2⟩:∃ Z,Z=a71:=⟨_,rfl⟩
     rw [← ea2] at q35 e36 zY ⊢
     clear S71 S70 eW ea2
     have e36':b7.eval (.tmp 36)=y.v:=e36
     refine ydy rfl (ydg rfl) ?_
     refine ymb (.inr ⟨_,rfl⟩) rfl q35 (by simp [e36']) (hY _ y _ (hJ _ _ _ hjY (Nw.of_below hsY)) ⟨hEm.go (Ev.of_below hsY) (fun _ _ h=>h),hEl⟩) ?_
     rintro e W8 (⟨rfl,hj9,hk9⟩ | ⟨rfl,hx9,hk9⟩)
     ·refine ⟨_,rfl,?_⟩
      change wpOpsIn _ _ _ _ _ _ (b7.put (some 37) _) W8
      refine ydy rfl (ydg rfl) ?_
      refine ykh (.inr ⟨_,rfl⟩) rfl (b:=true) (yce (by rw [zY]; decide)) ?_
      refine thenN ?_
      change Code.wpIn _ _ _ _ _ ((b7.put (some 37) _).put (some 38) _) W8
      refine wpIn_cond_false (yce (by rw [yc7,zY]; decide)) ?_
      refine wpIn_skip ?_
      refine inBlkN ?_
      exact ⟨yb4 (Ev.of_below hsY) hk9,yb4 hBY (yb4 (Ev.of_below hsY) hk9),by rw [← zhr]; exact hj9⟩
     ·refine ⟨_,rfl,?_⟩
      change wpOpsIn _ _ _ _ _ _ (b7.put (some 37) _) W8
      refine ydy rfl (ydg rfl) ?_
      refine ykh (.inr ⟨_,rfl⟩) rfl (b:=false) (yce (by rw [zY]; decide)) ?_
      refine thenN ?_
      change Code.wpIn _ _ _ _ _ ((b7.put (some 37) _).put (some 38) _) W8
      refine wpIn_cond_true (yce (by rw [yc7,zY]; decide)) ?_
      refine wpIn_exit (inBlkX (by decide) ?_)
      have eo:Ev (fun k=>k < X.heap.size) Y W8:=yb4 (Ev.of_below hsY) (yeh hk9 (fun k _ h=>zhe h hwX))
      exact ⟨yeh eo (fun k _ h=>zhe h (zhb hXW eB10.size)),rfl,yb4 (yeh hBY (fun k _ h=>hBX k h)) eo,by rw [← zhr]; exact hx9⟩
    case done2 =>
     intro ys Y hS ⟨hBY,hjY⟩
     refine inBlkN (inBlkN ⟨yb4 eB10 hBY,yb4 hB (yb4 eB10 hBY),xs ++ [x'] ++ ys,?_,hjY⟩)
     rw [ziy,ziy,ziy,zjg,zjg,yii,hxs,l',hS,zhr]
     rfl
    case stop2 =>
     rintro c ys Y ⟨rr,hSp⟩ ⟨rfl,he,hjx⟩
     refine wpIn_exit (inBlkX (by decide) (inBlkX (by decide) ?_))
     refine ⟨yb4 (yeh eB10 (fun k _ h=>hBX k h)) he,rfl,xs ++ [x'] ++ ys,⟨rr,?_⟩,hjx⟩
     rw [ziy,ziy,ziy,zjg,zjg,yii,hxs,l',← hSp,zhr,zhr]
     rfl
  ·refine ⟨_,rfl,?_⟩
   change wpOpsIn _ _ _ _ _ _ (a7.put (some 23) _) W8
   refine ydy rfl (ydg rfl) ?_
   refine ykh (.inr ⟨_,rfl⟩) rfl (b:=false) (yce (by rw [z7]; decide)) ?_
   refine thenN ?_
   change Code.wpIn _ _ _ _ _ ((a7.put (some 23) _).put (some 24) _) W8
   refine wpIn_cond_true (yce (by rw [yc7,z7]; decide)) ?_
   refine wpIn_exit (thenX (inBlkX (by decide) ?_))
   have eo:Ev (fun k=>k < X.heap.size) W W8:=yb4 (yeh eB7 (fun k _ h=>hBX k h)) (yeh hk8 (fun k _ h=>zhe h hwX))
   refine ⟨eo,rfl,xs ++ [x'],⟨nds kd m (s ++ [x.z]),?_⟩,hx8⟩
   rw [ziy,ziy,zjg,zjg,yii,hxs,l',zhr]
   rfl
 case done =>
  intro D pre W hD hS ⟨hB',xs,hxs,hj⟩ hdef
  refine inBlkN ?_
  show LeavesInM _ _ _ _ _ _ (_ :: ax.defers) _ _
  rw [d2]
  exact ⟨by simp,.inl ⟨_,_,rfl,run_takeDeferred hdef,_,results_none rfl _ _ _,⟨_,rfl⟩,.inl ⟨xs,by show xs.map NEl.l=nds kd (m+1) s; rw [hxs,show pre.map KEl.z=kd s from hS]; rfl,hJ _ _ _ hj (Nw.putObj _ (zhb hwX hD) hdef rfl)⟩⟩⟩
 case stop =>
  rintro D c pre W hD hSp ⟨rfl,xs,hxs,hjx⟩ hdef
  refine wpIn_exit (inBlkE ?_)
  show LeavesInM _ _ _ _ _ _ (_ :: ax.defers) _ _
  rw [d2]
  exact ⟨by simp,.inl ⟨_,_,rfl,run_takeDeferred hdef,_,results_none rfl _ _ _,⟨_,rfl⟩,.inr ⟨xs,hxs.trans (yz0 hSp),hJx _ _ _ hjx (Nw.putObj _ (zhb hwX hD) hdef rfl)⟩⟩⟩
end Go.Proofs.YtdnindaohpdblaaGreat
