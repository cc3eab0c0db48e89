import Derived.RangeFuncLeaves
import Derived.RangeFuncNested
import Derived.RangeFuncBound
import Derived.RangeFuncCalls
import Derived.Test.YtdnindaohpdblaaGreatSetO
-- a range over a function whose elements lie in memory: what an iterator gives,what a loop owes; at the wide fence
set_option maxRecDepth 20000
set_option linter.all false
namespace Go.Proofs.YtdnindaohpdblaaGreat
open Go Go.RowKit

structure Nw (n:Nat) (A A':World):Prop where
 os:A'.os=A.os
 tape:A'.tape=A.tape
 output:A'.output=A.output
 size:A.heap.size<=A'.heap.size
 block:∀ k,k < A.heap.size->(k < n\/∃ o,A.heap[k]? = some o/\o.isCells=true)->A'.heap[k]? = A.heap[k]?
theorem Nw.trans {n:Nat}{A C D:World}(h:Nw n A C)(k:Nw n C D):Nw n A D:=
 ⟨k.os.trans h.os,k.tape.trans h.tape,k.output.trans h.output,zhb h.size k.size,fun j hj hc=>by
  have e:=h.block j hj hc
  refine (k.block j (zhe hj h.size) ?_).trans e
  rcases hc with hc | ⟨o,ho,hc⟩
  ·exact Or.inl hc
  ·exact Or.inr ⟨o,e.trans ho,hc⟩⟩
theorem Nw.mono {n m:Nat}{A C:World}(h:Nw n A C)(hm:m<=n):Nw m A C:=
 ⟨h.os,h.tape,h.output,h.size,fun k hk hc=>h.block k hk (hc.imp (fun x=>by omega) id)⟩
theorem Nw.of_below {n:Nat}{A C:World}(h:Below A.heap.size A C):Nw n A C:=⟨h.os,h.tape,h.output,h.size,fun k hk _=>h.block k hk⟩
theorem Nw.alloc (n:Nat)(A:World)(o:Obj):Nw n A (A.alloc o):=Nw.of_below ((Below.refl _ A).alloc (zha _) o)
theorem Nw.putObj {n:Nat}{A:World}{l:Nat}{o:Obj}(o':Obj)(hn:n<=l)(hl:A.heap[l]? = some o)(hc:o.isCells=false):Nw n A (A.putObj l o'):=
 ⟨rfl,rfl,rfl,by simp,fun k hk h=>World.putObj_heap_other (fun e=>by
  subst e
  rcases h with h | ⟨o2,h2,h3⟩
  ·omega
  ·rw [hl] at h2; cases h2; rw [hc] at h3; cases h3)⟩
def Stb {β:Type}(n:Nat)(J:β->World->Prop):Prop:=∀ s A A',J s A->Nw n A A'->J s A'

def SeqE {α:Type}(P:Program)(g:Nat)(lb:Array Value)(encs:α->Array Value)(E:Nat->α->World->Prop)(B:Nat->Prop)(M:Nat)(S Sp:List α->Prop)(w:World):Prop:=
 ∀ (l:Nat) (J Jx:List α->World->Prop) (W:World),Ev B w W->Stb W.heap.size J->Stb W.heap.size Jx->(∀ pre W1,J pre W1->pre.length<=M) →
  (∀ pre x W1,J pre W1->E W.heap.size x W1->YieldAt Fence.wide 0 P l (encs x) W1 fun e W' =>
   (e=.returned (.bool true)/\J (pre ++ [x]) W'/\Ev B W1 W')\/(e=.returned (.bool false)/\Jx (pre ++ [x]) W'/\Ev (fun k=>k < W.heap.size) W1 W')) →
  J [] W →
  Calls P g (#[.func (.yield l) #[] #[]] ++ lb) W fun e W'=>(∃ v,e=.returned v)/\((∃ xs,S xs/\J xs W')\/(∃ pre,Sp pre/\Jx pre W'))

theorem SeqE.imp {α:Type}{P:Program}{g:Nat}{lb:Array Value}{encs:α->Array Value}{E E':Nat->α->World->Prop}{B:Nat->Prop}{M:Nat}{S Sp S' Sp':List α->Prop}{w:World}(h:SeqE P g lb encs E B M S Sp w)(hE:∀ m x W,E m x W->E' m x W)(hS:∀ xs,S xs->S' xs)(hSp:∀ xs,Sp xs->Sp' xs):SeqE P g lb encs E' B M S' Sp' w:=
 fun l J Jx W hW hJ hJx hM hY h0=>(h l J Jx W hW hJ hJx hM (fun pre x W1 hj he=>hY pre x W1 hj (hE _ _ _ he)) h0).mono fun e W' ⟨hv,h⟩=>⟨hv,h.imp (fun ⟨xs,a,b⟩=>⟨xs,hS _ a,b⟩) (fun ⟨xs,a,b⟩=>⟨xs,hSp _ a,b⟩)⟩
theorem yjn {m m':Nat}{P:Program}{l:Nat}{f:FuncId}{tmps:Array Value}{assign body:Code}{w:World}{R:Ending->World->Prop}
  (h:RoundIn Fence.wide m P l f tmps assign body w R):RoundIn Fence.wide m' P l f tmps assign body w R:=⟨h.1,fun c cs _=>h.2 c cs (room_wide _)⟩
def postE {α:Type}(B:Nat->Prop)(n:Nat)(I:List α->World->Prop)(Ix:Code->List α->World->Prop)(xs:List α)(W:World):Exit->Act->World->Prop
 | .normal,_,W'=>Ev B W W'/\I xs W'
 | .ret,_,W'=>Ev (fun k=>k < n) W W'/\Ix .ret xs W'
 | .exit id,_,W'=>Ev (fun k=>k < n) W W'/\Ix (.exit id) xs W'
 | .goto t,_,W'=>Ev (fun k=>k < n) W W'/\Ix (.goto t) xs W'
 | .panic _,_,_=>False
 | .outgrown,_,_=>False

theorem yk6 {B:Nat->Prop}{W W':World}(h:Ev B W W'){k:Nat}{o:Obj}(hb:¬ B k)(ho:W.heap[k]? = some o):W'.heap[k]? = some o:=
 (h.block k (zhf.1 ho).1 hb).trans ho
theorem yv9 {B:Nat->Prop}{W W3:World}{l:Nat}{o o1:Obj}(hl:W.heap[l]? = some o)(hb:¬ B l)(h:Ev B (W.putObj l o1) W3):Ev B W (W3.putObj l o):=by
 have hlt:=(zhf.1 hl).1
 have hz:W.heap.size<=W3.heap.size:=by have:=h.size; simpa using this
 refine ⟨h.os,h.tape,h.output,by simpa using hz,fun k hk hn=>?_⟩
 by_cases e:k=l
 ·subst e; rw [hl]; exact World.putObj_heap_same (zhe hlt hz)
 ·exact (World.putObj_heap_other e).trans ((h.block k (by simpa using hk) hn).trans (World.putObj_heap_other e))

theorem ysl {S:Nat->Prop}{W:World}{l:Nat}{o:Obj}(h:S l):Ev S W (W.putObj l o):=
 ⟨rfl,rfl,rfl,by simp,fun k hk hn=>World.putObj_heap_other (fun e=>hn (e ▸ h))⟩
section laws
variable {α:Type} {P:Program} {n:Nat} {g:Operand} {ps:Array Tmp} {assign body:Code} {Q:Exit->Act->World->Prop} {a:Act} {w w0:World}
 {gf:Nat} {lb:Array Value} {encs:α->Array Value} {E:Nat->α->World->Prop} {B:Nat->Prop} {M:Nat} {S Sp:List α->Prop}

theorem yup {rec:LoopState->Option Code->Loop}{fn:FuncId}{tm:Array Value}{dn:Nat}(hrec:rec=fun st pe=>{ state:=st,pending:=pe,fn,tmps:=tm,params:=ps,assign,body,defers:=dn })
  {l n0 m:Nat} (hn0:n0<=l) (hlm:l < m) (hBl:¬ B l) (hps:∀ x,(encs x).size=ps.size) {I:List α->World->Prop} {Ix:Code->List α->World->Prop} (hI:Stb n0 I) (hIx:∀ c,Stb n0 (Ix c)) (hE:∀ x W W',E m x W->Ev (fun k=>n0<=k/\k < m) W W'->E m x W') (Ax:α->Act->World->Prop) (hAx:∀ a',Stb n0 (fun x=>Ax x a'))
  (hassign:∀ (l:Nat) (pre:List α) (x:α) (W:World) (K:Act->World->Prop),I pre W->E m x W->(∀ a' W',Below W.heap.size W W'->Ax x a' W'->K a' W') →
   assign.wpIn (Fence.wide.inRound l) n P (Exit.then K (fun _ _ _=>False)) { tmps:=(ps.zip (encs x)).foldl (fun t (p,v)=>t.setIfInBounds p v) tm,defers:=[] } W)
  (hbody:∀ (l:Nat) (pre:List α) (x:α) (a':Act) (W:World),n0<=l->l < m->(∃ r,W.heap[l]? = some (.loop r))->I pre W->E m x W->Ax x a' W->body.wpIn (Fence.wide.inRound l) n P (postE B n0 I Ix (pre ++ [x]) W) a' W)
  (pre:List α) (x:α) (W:World) (hi:I pre W) (hl:W.heap[l]? = some (.loop (rec .ready none))) (hx:E m x W) (K:World->Prop) (hK:∀ A A',K A->Ev B A A'->K A') (hK':∀ A A',K A->Ev (fun k=>k < n0) A A'->K A') (hKp:∀ A (o o':Obj),K A->A.heap[l]? = some o->o.isCells=false->K (A.putObj l o')) (hk:K W):
  YieldAt Fence.wide 0 P l (encs x) W fun e W' =>
   (e=.returned (.bool true)/\(I (pre ++ [x]) W'/\W'.heap[l]? = some (.loop (rec .ready none))/\K W')/\Ev B W W')\/(e=.returned (.bool false)/\(∃ c,Ix c (pre ++ [x]) W'/\W'.heap[l]? = some (.loop (rec .done (some c)))/\K W')/\Ev (fun k=>k < m) W W'):=by
 have hlt:l < W.heap.size:=(zhf.1 hl).1
 have hy:=run_yield (P:=P) (args:=encs x) hl (by rw [hrec]; exact hps x)
 rw [hrec] at hy
 refine ⟨fn,_,assign,body,hy,yjn (m:=n) (roundIn_of_wpIn trivial (hassign l pre x W _ hi hx (fun a' Wa hba hax=>?_)))⟩
 clear hy
 have hk0:K Wa:=hK _ _ hk (Ev.of_below hba)
 replace hl:Wa.heap[l]? = some (.loop (rec .ready none)):=(hba.block _ hlt).trans hl
 replace hlt:l < Wa.heap.size:=(zhf.1 hl).1
 replace hi:I pre Wa:=hI _ _ _ hi (Nw.of_below hba)
 replace hx:E m x Wa:=hE _ _ _ hx (Ev.of_below hba)
 have hev0:Ev B W Wa:=Ev.of_below hba
 have hev1:Ev (fun _=>False) W Wa:=Ev.of_below hba
 clear hk hba
 revert hev0 hev1
 generalize W=Wb
 intro hev0 hev1
 obtain ⟨W,rfl⟩:∃ W,W=Wa:=⟨_,rfl⟩
 refine ⟨_,run_beginRound hl (by rw [hrec]),?_⟩
 have hl2:(W.putObj l (.loop { rec .ready none with state:=.busy })).heap[l]? = some (.loop { rec .ready none with state:=.busy }):=World.putObj_heap_same hlt
 have hn:Nw n0 W (W.putObj l (.loop { rec .ready none with state:=.busy })):=Nw.putObj _ hn0 hl rfl
 refine wpIn_mono (hbody l pre x a' _ hn0 hlm ⟨_,hl2⟩ (hI _ _ _ hi hn) (hE _ _ _ hx (ysl ⟨hn0,hlm⟩)) (hAx a' _ _ _ hax hn)) ?_
 have k2:K (W.putObj l (.loop { rec .ready none with state:=.busy })):=hKp _ _ _ hk0 hl rfl
 have fin:∀ (S:Nat->Prop) (_:¬ S l) (_:∀ A A',K A->Ev S A A'->K A') (jump:Option Code) (W3:World),Ev S (W.putObj l (.loop { rec .ready none with state:=.busy })) W3 →
   (Instr.endRound l jump).run P W3=.ok (.bool jump.isNone) (W3.putObj l (.loop (rec (if jump.isNone then .ready else .done) jump))) ∧
   W3.heap[l]? = some (.loop { rec .ready none with state:=.busy }) ∧
   (W3.putObj l (.loop (rec (if jump.isNone then .ready else .done) jump))).heap[l]? = some (.loop (rec (if jump.isNone then .ready else .done) jump))/\K (W3.putObj l (.loop (rec (if jump.isNone then .ready else .done) jump))):=fun S hSl hKS jump W3 hk3=>by
  have hl3:=yk6 hk3 hSl hl2
  have:=run_endRound (P:=P) jump hl3
  rw [hrec] at this ⊢
  exact ⟨this,by rw [hrec] at hl3; exact hl3,World.putObj_heap_same (zhf.1 hl3).1,hKp _ _ _ (hKS _ _ k2 hk3) hl3 rfl⟩
 have hnl:¬ (l < n0):=by omega
 have out:∀ (o:Obj) (W3:World),Ev (fun k=>k < n0) (W.putObj l (.loop { rec .ready none with state:=.busy })) W3->Ev (fun k=>k < m) Wb (W3.putObj l o):=fun o W3 h=>by
  have e1:Ev (fun k=>k < m) W (W.putObj l (.loop { rec .ready none with state:=.busy })):=ysl hlm
  have e2:Ev (fun k=>k < m) (W.putObj l (.loop { rec .ready none with state:=.busy })) W3:=⟨h.os,h.tape,h.output,h.size,fun k hk hn=>h.block k hk (fun hb=>hn (by omega))⟩
  have e3:Ev (fun k=>k < m) W3 (W3.putObj l o):=ysl hlm
  have e0:Ev (fun k=>k < m) Wb W:=⟨hev1.os,hev1.tape,hev1.output,hev1.size,fun k hk _=>hev1.block k hk id⟩
  exact ((e0.back (fun _ _ h=>h) e1).back (fun _ _ h=>h) e2).back (fun _ _ h=>h) e3
 rintro e a3 W3 hp
 cases e with
 | normal =>
  obtain ⟨hk3,hi3⟩:=hp
  obtain ⟨hr,hl3,hl4,hk4⟩:=fin B hBl hK none W3 hk3
  exact ⟨_,_,hr,.inl ⟨rfl,⟨hI _ _ _ hi3 (Nw.putObj _ hn0 hl3 rfl),hl4,hk4⟩,hev0.back (fun k _ h=>h) (yv9 hl hBl hk3)⟩⟩
 | ret =>
  obtain ⟨hk3,hi3⟩:=hp
  obtain ⟨hr,hl3,hl4,hk4⟩:=fin _ hnl hK' (some .ret) W3 hk3
  exact ⟨_,_,hr,.inr ⟨rfl,⟨.ret,hIx _ _ _ _ hi3 (Nw.putObj _ hn0 hl3 rfl),hl4,hk4⟩,out _ _ hk3⟩⟩
 | exit id =>
  obtain ⟨hk3,hi3⟩:=hp
  obtain ⟨hr,hl3,hl4,hk4⟩:=fin _ hnl hK' (some (.exit id)) W3 hk3
  exact ⟨_,_,hr,.inr ⟨rfl,⟨.exit id,hIx _ _ _ _ hi3 (Nw.putObj _ hn0 hl3 rfl),hl4,hk4⟩,out _ _ hk3⟩⟩
 | goto t =>
  obtain ⟨hk3,hi3⟩:=hp
  obtain ⟨hr,hl3,hl4,hk4⟩:=fin _ hnl hK' (some (.goto t)) W3 hk3
  exact ⟨_,_,hr,.inr ⟨rfl,⟨.goto t,hIx _ _ _ _ hi3 (Nw.putObj _ hn0 hl3 rfl),hl4,hk4⟩,out _ _ hk3⟩⟩
 | panic ch=>exact hp.elim
 | outgrown=>exact hp.elim

theorem yua (hg:a.eval g=.func (.func gf) #[] lb)(eg:∀ args w,(callFunc gf args).run P w=.ok (.enter gf args) w)
  (hseq:SeqE P gf lb encs E B M S Sp w0) (hb0:Ev B w0 w) (hps:∀ x,(encs x).size=ps.size) (hBw:∀ k,B k->k < w.heap.size) (hE:∀ m x W W',E m x W->Ev (fun k=>w.heap.size<=k/\k < m) W W'->E m x W')
  (I:List α->World->Prop) (Ix:Code->List α->World->Prop) (hI:Stb w.heap.size I) (hIx:∀ c,Stb w.heap.size (Ix c)) (hM:∀ pre W,I pre W->pre.length<=M) (h0:I [] w) (Ax:α->Act->World->Prop) (hAx:∀ a',Stb w.heap.size (fun x=>Ax x a'))
  (hassign:∀ (l:Nat) (pre:List α) (x:α) (W:World) (m:Nat) (K:Act->World->Prop),I pre W->E m x W->(∀ a' W',Below W.heap.size W W'->Ax x a' W'->K a' W') →
   assign.wpIn (Fence.wide.inRound l) n P (Exit.then K (fun _ _ _=>False)) { tmps:=(ps.zip (encs x)).foldl (fun t (p,v)=>t.setIfInBounds p v) a.tmps,defers:=[] } W)
  (hbody:∀ (l:Nat) (pre:List α) (x:α) (m:Nat) (a':Act) (W:World),w.heap.size<=l->l < m->(∃ r,W.heap[l]? = some (.loop r))->I pre W->E m x W->Ax x a' W->body.wpIn (Fence.wide.inRound l) n P (postE B w.heap.size I Ix (pre ++ [x]) W) a' W)
  (hdone:∀ (D:Nat) (xs:List α) (W:World),w.heap.size<=D->S xs->I xs W->W.heap[D]? = some (.deferred (some []))->Q .normal { a with defers:={ target:=.collected D,args:=#[] } :: a.defers } W)
  (hstop:∀ (D:Nat) (c:Code) (pre:List α) (W:World),w.heap.size<=D->Sp pre->Ix c pre W->W.heap[D]? = some (.deferred (some []))->c.wpIn Fence.wide n P Q { a with defers:={ target:=.collected D,args:=#[] } :: a.defers } W):
  (Code.rangeFunc g ps assign body).wpIn Fence.wide n P Q a w:=by
 refine wpIn_rangeFunc ?_
 intro fn hfn
 obtain ⟨rec,hrec⟩:∃ rec:LoopState->Option Code->Loop,rec=fun st pe=>{ state:=st,pending:=pe,fn,tmps:=a.tmps,params:=ps,assign,body,defers:=w.heap.size }:=⟨_,rfl⟩
 obtain ⟨W1,hW1⟩:∃ W1,(w.alloc (.deferred (some []))).alloc (.loop (rec .ready none))=W1:=⟨_,rfl⟩
 have hL1:W1.heap[w.heap.size+1]? = some (.loop (rec .ready none)):=by
  rw [← hW1]; have:=World.alloc_heap_new (w.alloc (.deferred (some []))) (.loop (rec .ready none)); rwa [World.size_alloc] at this
 have hK1:W1.heap[w.heap.size]? = some (.deferred (some [])):=by
  rw [← hW1]; exact (Below.heap_alloc _ _ _ (by simp)).trans (World.alloc_heap_new w _)
 have hz1:W1.heap.size=w.heap.size+2:=by rw [← hW1]; simp
 have hnw1:∀ m,Nw m w W1:=fun m=>by rw [← hW1]; exact (Nw.alloc m _ _).trans (Nw.alloc m _ _)
 have hb1:Ev B w0 W1:=by
  refine hb0.back (fun k hk h=>h) (B':=B) ?_
  rw [← hW1]
  exact Ev.of_below (((Below.refl _ w).alloc (zha _) _).alloc (by simp) _)
 have hBl:¬ B (w.heap.size+1):=fun h=>by have:=hBw _ h; omega
 have hBd:¬ B w.heap.size:=fun h=>by have:=hBw _ h; omega
 refine ⟨w.heap.size+1,[{ target:=.collected w.heap.size,args:=#[] }],W1,{ target:=.fn (.func gf) lb,args:=#[.func (.yield (w.heap.size+1)) #[] #[]] },W1,gf,
  #[.func (.yield (w.heap.size+1)) #[] #[]] ++ lb,W1,?_,?_,?_,?_,fun h=>by (simp [Fence.wide] at h),?_⟩
 ·rw [← hW1,hrec]; exact run_enterLoop_outer _ _ _ _ _
 ·simp only [resolve,hg]
  simp [go_sem]
 ·intro f' hf'; trivial
 ·simp [invoke,go_sem,eg]
 ·refine callsIn_wide.2 ((hseq (w.heap.size+1)
   (fun pre W=>I pre W/\W.heap[w.heap.size+1]? = some (.loop (rec .ready none))/\W.heap[w.heap.size]? = some (.deferred (some [])))
   (fun pre W=>∃ c,Ix c pre W/\W.heap[w.heap.size+1]? = some (.loop (rec .done (some c)))/\W.heap[w.heap.size]? = some (.deferred (some [])))
   W1 hb1
   (fun s A A' hs hn=>⟨hI s A A' hs.1 (hn.mono (by omega)),(hn.block _ (zhf.1 hs.2.1).1 (Or.inl (by omega))).trans hs.2.1,(hn.block _ (zhf.1 hs.2.2).1 (Or.inl (by omega))).trans hs.2.2⟩)
   (fun s A A' hs hn=>by
    obtain ⟨c,hc,hl,hk⟩:=hs
    exact ⟨c,hIx c s A A' hc (hn.mono (by omega)),(hn.block _ (zhf.1 hl).1 (Or.inl (by omega))).trans hl,(hn.block _ (zhf.1 hk).1 (Or.inl (by omega))).trans hk⟩)
   (fun pre W h=>hM pre W h.1)
   (fun pre x W ⟨hi,hl,hk⟩ hx=>(yup hrec (n0:=w.heap.size) (m:=W1.heap.size) (by omega) (by omega) hBl hps hI hIx (hE _) Ax hAx (fun l pre x W K=>hassign l pre x W _ K) (fun l pre x a' W=>hbody l pre x _ a' W) pre x W hi hl hx (fun A=>A.heap[w.heap.size]? = some (.deferred (some []))) (fun A A' h e=>yk6 e hBd h) (fun A A' h e=>yk6 e (Nat.lt_irrefl _) h) (fun A o o' h _ _=>(World.putObj_heap_other (by omega)).trans h) hk))
   ⟨hI _ _ _ h0 (hnw1 _),hL1,hK1⟩).mono ?_)
  rintro e W2 ⟨⟨v,rfl⟩,(⟨xs,hS,hi,hl,hk⟩ | ⟨pre,hSp,c,hi,hl,hk⟩)⟩
  ·exact ⟨none,_,by have:=run_endLoop (P:=P) hl (by rw [hrec]; simp); rw [hrec] at this; exact this,hdone _ xs _ (zha _) hS (hI _ _ _ hi (Nw.putObj _ (by omega) hl rfl)) ((World.putObj_heap_other (by omega)).trans hk)⟩
  ·exact ⟨some c,_,by have:=run_endLoop (P:=P) hl (by rw [hrec]; simp); rw [hrec] at this; exact this,hstop _ c pre _ (zha _) hSp (hIx c _ _ _ hi (Nw.putObj _ (by omega) hl rfl)) ((World.putObj_heap_other (by omega)).trans hk)⟩

theorem zaw {l₀:Nat}{r₀:Loop}(hl₀:w.heap[l₀]? = some (.loop r₀))(hg:a.eval g=.func (.func gf) #[] lb)(eg:∀ args w,(callFunc gf args).run P w=.ok (.enter gf args) w)
  (hseq:SeqE P gf lb encs E B M S Sp w0) (hb0:Ev B w0 w) (hps:∀ x,(encs x).size=ps.size) (hBw:∀ k,B k->k < w.heap.size) (hE:∀ m x W W',E m x W->Ev (fun k=>w.heap.size<=k/\k < m) W W'->E m x W')
  (I:List α->World->Prop) (Ix:Code->List α->World->Prop) (hI:Stb w.heap.size I) (hIx:∀ c,Stb w.heap.size (Ix c)) (hM:∀ pre W,I pre W->pre.length<=M) (h0:I [] w) (Ax:α->Act->World->Prop) (hAx:∀ a',Stb w.heap.size (fun x=>Ax x a'))
  (hassign:∀ (l:Nat) (pre:List α) (x:α) (W:World) (m:Nat) (K:Act->World->Prop),I pre W->E m x W->(∀ a' W',Below W.heap.size W W'->Ax x a' W'->K a' W') →
   assign.wpIn (Fence.wide.inRound l) n P (Exit.then K (fun _ _ _=>False)) { tmps:=(ps.zip (encs x)).foldl (fun t (p,v)=>t.setIfInBounds p v) a.tmps,defers:=[] } W)
  (hbody:∀ (l:Nat) (pre:List α) (x:α) (m:Nat) (a':Act) (W:World),w.heap.size<=l->l < m->(∃ r,W.heap[l]? = some (.loop r))->I pre W->E m x W->Ax x a' W->body.wpIn (Fence.wide.inRound l) n P (postE B w.heap.size I Ix (pre ++ [x]) W) a' W)
  (hdone:∀ (xs:List α) (W:World),S xs->I xs W->Q .normal a W)
  (hstop:∀ (c:Code) (pre:List α) (W:World),Sp pre->Ix c pre W->c.wpIn (Fence.wide.inRound l₀) n P Q a W):
  (Code.rangeFunc g ps assign body).wpIn (Fence.wide.inRound l₀) n P Q a w:=by
 refine wpIn_rangeFunc ?_
 intro fn hfn
 obtain ⟨rec,hrec⟩:∃ rec:LoopState->Option Code->Loop,rec=fun st pe=>{ state:=st,pending:=pe,fn,tmps:=a.tmps,params:=ps,assign,body,defers:=r₀.defers }:=⟨_,rfl⟩
 obtain ⟨W1,hW1⟩:∃ W1,w.alloc (.loop (rec .ready none))=W1:=⟨_,rfl⟩
 have hL1:W1.heap[w.heap.size]? = some (.loop (rec .ready none)):=by rw [← hW1]; exact World.alloc_heap_new w _
 have hz1:W1.heap.size=w.heap.size+1:=by rw [← hW1]; simp
 have hnw1:∀ m,Nw m w W1:=fun m=>by rw [← hW1]; exact Nw.alloc m _ _
 have hb1:Ev B w0 W1:=by
  refine hb0.back (fun k hk h=>h) (B':=B) ?_
  rw [← hW1]
  exact Ev.of_below ((Below.refl _ w).alloc (zha _) _)
 have hBl:¬ B w.heap.size:=fun h=>by have:=hBw _ h; omega
 refine ⟨w.heap.size,[],W1,{ target:=.fn (.func gf) lb,args:=#[.func (.yield w.heap.size) #[] #[]] },W1,gf,
  #[.func (.yield w.heap.size) #[] #[]] ++ lb,W1,?_,?_,?_,?_,fun h=>by (simp [Fence.wide,Fence.inRound] at h),?_⟩
 ·rw [← hW1,hrec]; exact run_enterLoop_inner hl₀ _ _ _ _ _
 ·simp only [resolve,hg]
  simp [go_sem]
 ·intro f' hf'; trivial
 ·simp [invoke,go_sem,eg]
 ·refine CallsIn.inRound l₀ (callsIn_wide.2 ((hseq w.heap.size
   (fun pre W=>I pre W/\W.heap[w.heap.size]? = some (.loop (rec .ready none)))
   (fun pre W=>∃ c,Ix c pre W/\W.heap[w.heap.size]? = some (.loop (rec .done (some c))))
   W1 hb1
   (fun s A A' hs hn=>⟨hI s A A' hs.1 (hn.mono (by omega)),(hn.block _ (zhf.1 hs.2).1 (Or.inl (by omega))).trans hs.2⟩)
   (fun s A A' hs hn=>by
    obtain ⟨c,hc,hl⟩:=hs
    exact ⟨c,hIx c s A A' hc (hn.mono (by omega)),(hn.block _ (zhf.1 hl).1 (Or.inl (by omega))).trans hl⟩)
   (fun pre W h=>hM pre W h.1)
   (fun pre x W ⟨hi,hl⟩ hx=>(YieldAt.mono (yup hrec (n0:=w.heap.size) (m:=W1.heap.size) (zha _) (by omega) hBl hps hI hIx (hE _) Ax hAx (fun l pre x W K=>hassign l pre x W _ K) (fun l pre x a' W=>hbody l pre x _ a' W) pre x W hi hl hx (fun _=>True) (fun _ _ _ _=>trivial) (fun _ _ _ _=>trivial) (fun _ _ _ _ _ _=>trivial) trivial) (fun e W' h=>by
    rcases h with ⟨h1,⟨h2,h3,_⟩,h4⟩ | ⟨h1,⟨c,h2,h3,_⟩,h4⟩
    ·exact .inl ⟨h1,⟨h2,h3⟩,h4⟩
    ·exact .inr ⟨h1,⟨c,h2,h3⟩,h4⟩)))
   ⟨hI _ _ _ h0 (hnw1 _),hL1⟩).mono ?_))
  rintro e W2 ⟨⟨v,rfl⟩,(⟨xs,hS,hi,hl⟩ | ⟨pre,hSp,c,hi,hl⟩)⟩
  ·exact ⟨none,_,by have:=run_endLoop (P:=P) hl (by rw [hrec]; simp); rw [hrec] at this; exact this,hdone xs _ hS (hI _ _ _ hi (Nw.putObj _ (zha _) hl rfl))⟩
  ·exact ⟨some c,_,by have:=run_endLoop (P:=P) hl (by rw [hrec]; simp); rw [hrec] at this; exact this,hstop c pre _ hSp (hIx c _ _ _ hi (Nw.putObj _ (zha _) hl rfl))⟩
end laws
end Go.Proofs.YtdnindaohpdblaaGreat

-- statements within a round,and a statement's first operations alone
set_option maxRecDepth 20000
namespace Go.Proofs.YtdnindaohpdblaaGreat
open Go Go.RowKit

theorem yvy {P:Program}{l n:Nat}{f:FuncId}{args:Array Value}{w:World}{R:Ending->World->Prop}(h:Calls P f args w R):CallsIn (Fence.wide.inRound l) n P f args w R:=CallsIn.inRound l (callsIn_wide.2 h)

def noDefer (o:Oper):Bool:=match o.op with | .defer _=>false | _=>true
theorem ykg {o:Oper}(h:noDefer o=true):∀ c,o.op ≠ .defer c:=fun c e=>by simp [noDefer,e] at h

theorem ytt {P:Program}{l n:Nat}{o:Oper}{a:Act}{w:World}{next:Act->World->Prop}{Q:Exit->Act->World->Prop}(hd:∀ c,o.op ≠ .defer c)(h:o.wp P a w next Q):o.wpIn (Fence.wide.inRound l) n P a w next Q:=by
 refine ⟨fun _ _=>trivial,?_⟩
 show o.uponIn _ n P a next Q ((o.semAt (some l) a.eval).run P w)
 rw [Oper.semAt_some l a.eval o hd]
 unfold Oper.wp at h
 revert h
 generalize (execOp a.eval o).run P w=r
 intro h
 cases r with
 | ok x w' =>
  cases x with
  | value v=>exact h
  | skip=>exact h
  | defer d=>exact h
  | enter f args=>exact ⟨fun e=>by simp [Fence.wide,Fence.inRound] at e,yvy h⟩
  | row r args=>exact ⟨fun e=>by simp [Fence.wide,Fence.inRound] at e,fun c cs _=>by
    obtain ⟨v,w'',hr,hs⟩:=h c cs
    exact ⟨v,w'',hr,stepsIn_wide.2 hs⟩⟩
  | _=>exact absurd h id
 | halt x w' =>
  cases x with
  | panic v=>exact h
  | _=>exact absurd h id

theorem ymz {P:Program}{l n:Nat}{ops:Array Oper}{Q:Exit->Act->World->Prop}(hd:ops.all noDefer=true)(hQ:∀ a w,¬ Q .outgrown a w):∀ (idx:List Nat) (a:Act) (w:World),wpOps P ops Q idx a w->wpOpsIn (Fence.wide.inRound l) n P ops Q idx a w
 | [],_,_,h=>h
 | i :: rest,a,w,h=>by
  cases ho:ops[i]? with
  | none =>
   simp only [wpOps,ho] at h
   simp only [wpOpsIn,ho]
   exact ymz hd hQ rest a w h
  | some o =>
   simp only [wpOps,ho] at h
   simp only [wpOpsIn,ho]
   split at h
   ·rename_i hw
    rw [if_pos hw]
    rcases h with h | ⟨_,a',w',h⟩
    ·have hno:noDefer o=true:=by
      have:=Array.all_eq_true.1 hd i (zhf.1 ho).1
      rw [(zhf.1 ho).2] at this
      exact this
     exact ytt (ykg hno) (Oper.wp_mono (fun a w h=>ymz hd hQ rest a w h) h)
    ·exact absurd h (hQ _ _)
   ·rename_i hw
    rw [if_neg hw]
    exact ⟨fun _ _=>trivial,ymz hd hQ rest _ w h⟩

theorem yts {P:Program}{o:Oper}{a:Act}{w:World}{next:Act->World->Prop}{Q Q':Exit->Act->World->Prop}(h:o.wp P a w next Q)(hq:∀ e a w,e ≠ .normal->Q e a w->Q' e a w):o.wp P a w next Q':=by
 unfold Oper.wp at *
 revert h
 generalize (execOp a.eval o).run P w=r
 intro h
 cases r with
 | ok x w' =>
  cases x with
  | value v=>exact h
  | skip=>exact h
  | defer d=>exact h
  | enter f args=>exact Calls.mono h (fun e w h=>by
    cases e with
    | returned v=>exact h
    | panicked c=>exact hq _ _ _ (by simp) h
    | outgrown=>obtain ⟨a',w',h'⟩:=h; exact ⟨a',w',hq _ _ _ (by simp) h'⟩)
  | row r args=>exact h
  | _=>exact absurd h id
 | halt x w' =>
  cases x with
  | panic v=>exact hq _ _ _ (by simp) h
  | _=>exact absurd h id
section
variable {P:Program} {Q:Exit->Act->World->Prop} {ops:Array Oper} {bx:Bxs} {sl:List (Tmp × Pr)} {n:Nat} {w0 W:World} {B0:Nat->Prop} {a0:Act}
theorem yh5 {r k:Nat}{id:Nat}{draw:Bool}(l:List Kd)(s1 s2:List (Nat ⊕ Nat))(hm:P.follows .mixedOrders=true)(T0:Sta w0 n bx sl B0 a0 W)(hl:l.length=ops.size)(hc:(shapeOk ops l (bx.map (·.1)) n && pickOk ops l bx s1)=true)
  (hop:AllOwed (Owed P ops Q l bx sl a0 n w0) ops.size) (hd:ops.all noDefer=true) (hQ:∀ a w,¬ Q .outgrown a w)
  (fin:∀ B a w,Sta w0 n (pickBx ops l bx s1) (pickSl ops l sl s2) B a w->Q .normal a w):(Code.region id ops draw).wpIn (Fence.wide.inRound r) k P Q a0 W:=by
 simp only [zh0] at hc
 have S:=yl4 hc.1
 have hs1:=hc.2
 have fin':∀ vs B w,Held ops l bx B0 a0 W w0 (fun i=>decide (i < ops.size)) vs B w->Q .normal (fillL ops.toList 0 (fun i=>decide (i < ops.size)) vs a0) w:=fun vs B w H=>fin _ _ _ (H.done S hl T0 s1 s2 hs1)
 cases draw with
 | false =>
  refine wpIn_region (ymz hd hQ _ _ _ ?_)
  have H:=Held.start (ops:=ops) (l:=l) S T0 (Below.refl _ W) rfl
  have h0:(fun i=>decide (i < 0))=fun _:Nat=>false:=by funext i; simp
  have:=yh4 S T0 hop fin' ops.size 0 (fun _=>undef) B0 W (by simp) (by rw [h0]; exact H)
  rw [h0,yf7] at this
  rw [zjh]
  exact this
 | true =>
  refine wpIn_region_draw fun t=>ymz hd hQ _ _ _ ?_
  simp only [Region.schedule,hm,Bool.true_or,if_true]
  refine wpAny_sound ops.size t _ _ _ ?_
  have hf:flags (Array.replicate ops.size false)=fun _=>false:=by
   funext i
   by_cases h:i < ops.size <;> simp [flags,h]
  have H:=Held.start (ops:=ops) (l:=l) S T0 (w:={ W with drawn:=W.drawn+1 }) ⟨rfl,rfl,rfl,zha _,fun _ _=>rfl⟩ rfl
  have:=yky S T0 hop fin' ops.size (Array.replicate ops.size false) (fun _=>undef) B0 { W with drawn:=W.drawn+1 } (by simp) (by simp only [leftOver]; exact zhb List.countP_le_length (by simp)) (by rw [hf]; exact H)
  rw [hf,yf7] at this
  exact this
end

def preOk (l1:List Oper):Bool:=l1.all (fun o=>noDefer o && (match o.guard with | some g=>decide (g.1 < l1.length) | none=>true))

theorem zdy {P:Program}{n:Nat}{o:Oper}{a:Act}{w:World}{next:Act->World->Prop}{Q:Exit->Act->World->Prop}(h:o.wp P a w next Q):o.wpIn Fence.wide n P a w next Q:=by
 refine ⟨fun _ _=>trivial,?_⟩
 show o.uponIn _ n P a next Q ((execOp a.eval o).run P w)
 unfold Oper.wp at h
 revert h
 generalize (execOp a.eval o).run P w=r
 intro h
 cases r with
 | ok x w' =>
  cases x with
  | value v=>exact h
  | skip=>exact h
  | defer d=>exact h
  | enter f args=>exact ⟨fun e=>by simp [Fence.wide] at e,callsIn_wide.2 h⟩
  | row r args=>exact ⟨fun e=>by simp [Fence.wide] at e,fun c cs _=>by
    obtain ⟨v,w'',hr,hs⟩:=h c cs
    exact ⟨v,w'',hr,stepsIn_wide.2 hs⟩⟩
  | _=>exact absurd h id
 | halt x w' =>
  cases x with
  | panic v=>exact h
  | _=>exact absurd h id

def Open (F:Fence):Prop:=F=Fence.wide\/∃ l,F=Fence.wide.inRound l
theorem yyl {F:Fence}(hF:Open F){P:Program}{n:Nat}{o:Oper}{a:Act}{w:World}{next:Act->World->Prop}{Q:Exit->Act->World->Prop}(hd:∀ c,o.op ≠ .defer c)(h:o.wp P a w next Q):o.wpIn F n P a w next Q:=by
 rcases hF with rfl | ⟨l,rfl⟩
 ·exact zdy h
 ·exact ytt hd h
theorem ytr {F:Fence}(hF:Open F)(f:FuncId):F.fn f:=by
 rcases hF with rfl | ⟨l,rfl⟩ <;> trivial

theorem ysm {α:Type}{l1 l2:List α}{j:Nat}(h:j < l1.length):(l1 ++ l2).toArray[j]? = l1.toArray[j]?:=by
 simp [zh1 h]
def preQ (F:Fence)(k:Nat)(P:Program)(ops:Array Oper)(Q:Exit->Act->World->Prop)(rest:List Nat):Exit->Act->World->Prop
 | .normal,a,w=>wpOpsIn F k P ops Q rest a w
 | .ret,a,w=>Q .ret a w
 | .exit i,a,w=>Q (.exit i) a w
 | .goto i,a,w=>Q (.goto i) a w
 | .panic c,a,w=>Q (.panic c) a w
 | .outgrown,a,w=>Q .outgrown a w
theorem zau {F:Fence}{k:Nat}{P:Program}{ops:Array Oper}{Q:Exit->Act->World->Prop}{rest:List Nat}(e:Exit)(a:Act)(w:World)(he:e ≠ .normal)(h:preQ F k P ops Q rest e a w):Q e a w:=by
 cases e <;> first | exact h | exact absurd rfl he
theorem yof {F:Fence}(hF:Open F){P:Program}{k:Nat}{l1 l2:List Oper}{Q:Exit->Act->World->Prop}(hp:preOk l1=true)(hQ:∀ a w,¬ Q .outgrown a w)(rest:List Nat):∀ (idx:List Nat) (a:Act) (w:World),(∀ i ∈ idx,i < l1.length) →
  wpOps P l1.toArray (preQ F k P (l1 ++ l2).toArray Q rest) idx a w->wpOpsIn F k P (l1 ++ l2).toArray Q (idx ++ rest) a w
 | [],_,_,_,h=>h
 | i :: idx,a,w,hi,h=>by
  have him:=hi i (by simp)
  have e2:l1.toArray[i]? = some l1[i]:=by simp [him]
  have e1:(l1 ++ l2).toArray[i]? = some l1[i]:=(ysm him).trans e2
  have hall:=zjo.1 hp l1[i] (List.getElem_mem him)
  simp only [zh0] at hall
  have hy:∀ j,j < l1.length->yielded l1.toArray a.tmps j=yielded (l1 ++ l2).toArray a.tmps j:=fun j hj=>by
   unfold yielded
   rw [ysm hj]
  have hw:Region.wanted l1[i] (yielded l1.toArray a.tmps)=Region.wanted l1[i] (yielded (l1 ++ l2).toArray a.tmps):=by
   unfold Region.wanted
   cases hg:l1[i].guard with
   | none=>rfl
   | some g =>
    have:=hall.2
    simp only [hg,decide_eq_true_eq] at this
    show (yielded l1.toArray a.tmps g.1 == some g.2)=(yielded (l1 ++ l2).toArray a.tmps g.1 == some g.2)
    rw [hy g.1 this]
  simp only [wpOps,e2,hw] at h
  show wpOpsIn F k P (l1 ++ l2).toArray Q (i :: (idx ++ rest)) a w
  simp only [wpOpsIn,e1]
  split at h
  ·rename_i hc
   rw [if_pos hc]
   rcases h with h | ⟨_,a',w',h⟩
   ·refine yyl hF (ykg hall.1) ?_
    have:=Oper.wp_mono (K':=wpOpsIn F k P (l1 ++ l2).toArray Q (idx ++ rest)) (fun a w h=>yof hF hp hQ rest idx a w (fun j hj=>hi j (by simp [hj])) h) h
    exact yts this (fun e a w he h=>zau e a w he h)
   ·exact absurd (show Q .outgrown a' w' from h) (hQ _ _)
  ·rename_i hc
   rw [if_neg hc]
   exact ⟨fun _ _=>ytr hF _,yof hF hp hQ rest idx _ w (fun j hj=>hi j (by simp [hj])) h⟩

theorem yvf {F:Fence}(hF:Open F){P:Program}{k:Nat}{l1 l2:List Oper}{Q:Exit->Act->World->Prop}{id:Nat}{bx:Bxs}{sl:List (Tmp × Pr)}{n:Nat}{w0 W:World}{B0:Nat->Prop}{a0:Act}(l:List Kd)(s1 s2:List (Nat ⊕ Nat))(T0:Sta w0 n bx sl B0 a0 W)(hl:l.length=l1.toArray.size)(hc:(shapeOk l1.toArray l (bx.map (·.1)) n && pickOk l1.toArray l bx s1)=true)(hp:preOk l1=true)(hQ:∀ a w,¬ Q .outgrown a w)
  (hop:AllOwed (Owed P l1.toArray (preQ F k P (l1 ++ l2).toArray Q (List.range' l1.length l2.length)) l bx sl a0 n w0) l1.toArray.size)
  (fin:∀ B a w,Sta w0 n (pickBx l1.toArray l bx s1) (pickSl l1.toArray l sl s2) B a w->wpOpsIn F k P (l1 ++ l2).toArray Q (List.range' l1.length l2.length) a w):(Code.region id (l1 ++ l2).toArray false).wpIn F k P Q a0 W:=by
 refine wpIn_region ?_
 have e:List.range (l1 ++ l2).toArray.size=List.range' 0 l1.length ++ List.range' l1.length l2.length:=by
  rw [zjh,zjv,zhx]
  have:=@List.range'_append 0 l1.length l2.length 1
  simpa using this.symm
 rw [e]
 refine yof hF hp hQ _ _ _ _ (fun i hi=>by simp at hi; exact hi) ?_
 simp only [zh0] at hc
 have S:=yl4 hc.1
 have hs1:=hc.2
 have H:=Held.start (ops:=l1.toArray) (l:=l) S T0 (Below.refl _ W) rfl
 have h0:(fun i=>decide (i < 0))=fun _:Nat=>false:=by funext i; simp
 have:=yh4 S T0 hop (fun vs B w H=>fin _ _ _ (H.done S hl T0 s1 s2 hs1)) l1.toArray.size 0 (fun _=>undef) B0 W (by simp) (by rw [h0]; exact H)
 rw [h0,yf7] at this
 simpa using this
theorem za3 {F:Fence}(hF:Open F){m k:Nat}{P:Program}{l:Nat}{f:FuncId}{tmps:Array Value}{assign body:Code}{w:World}{R:Ending->World->Prop}(h:RoundIn Fence.wide m P l f tmps assign body w R):RoundIn F k P l f tmps assign body w R:=by
 rcases hF with rfl | ⟨j,rfl⟩
 ·exact yjn h
 ·exact yjn h
theorem yq5 {P:Program}{l:Nat}{ρ:Operand->Value}{o:Oper}{x:Operand}{args:Array Operand}{tys:Array TypeId}{w:World}{nx:Next}(hx:ρ x=.func (.yield l) #[] #[])(hy:(Instr.yield l (args.map ρ)).run P w=.ok nx w):
  (execOp ρ { o with op:=.call { callee:=.value x,args:=args,argTypes:=tys } }).run P w=.ok nx w:=by
 unfold execOp
 simp [go_sem,resolve,invoke,hx,hy]
theorem ymb {F:Fence}(hF:Open F){P:Program}{n l:Nat}{o:Oper}{a:Act}{w:World}{next:Act->World->Prop}{Q:Exit->Act->World->Prop}{x:Operand}{args:Array Operand}{tys:Array TypeId}{vals:Array Value}{R:Ending->World->Prop}
  (hop:o.op=.call { callee:=.value x,args:=args,argTypes:=tys }) (hx:a.eval x=.func (.yield l) #[] #[]) (hargs:args.map a.eval=vals) (hY:YieldAt Fence.wide 0 P l vals w R) (hR:∀ e w',R e w'->∃ v,e=.returned v/\next (a.put o.dst v) w'):o.wpIn F n P a w next Q:=by
 obtain ⟨fn,tmps,assign,body,hy,hr⟩:=hY
 have he:(execOp a.eval o).run P w=.ok (.round l fn tmps assign body) w:=by
  subst hargs
  have:=yq5 (o:=o) (tys:=tys) hx hy
  rw [← hop] at this
  exact this
 refine ⟨fun _ _=>ytr hF _,?_⟩
 have hs:o.semAt F.round a.eval=execOp a.eval o:=by
  refine Oper.semAt_eq _ _ _ (fun c e=>?_)
  rw [hop] at e
  cases e
 rw [hs,he]
 refine ⟨fun e=>?_,(za3 hF hr).mono (fun e w' h=>?_)⟩
 ·rcases hF with rfl | ⟨j,rfl⟩
  ·simp [Fence.wide] at e
  ·simp [Fence.wide,Fence.inRound] at e
 ·obtain ⟨v,rfl,h2⟩:=hR e w' h
  exact h2
end Go.Proofs.YtdnindaohpdblaaGreat
