import Derived.Shelf.RegionOpen
import Derived.LoopNIn
import Derived.Test.YtdnindaohpdblaaGreatTzF
set_option linter.all false
namespace Go.Proofs.YtdnindaohpdblaaGreat
open Go Go.RowKit Go.Shelf Nt
set_option maxRecDepth 20000
set_option maxHeartbeats 16000000
attribute [local go_sem] Oper.semAt_some
def cntL (j:Nat)(xs:List (List Int)):Nat:=(xs.filter (fun l=>l.length == j)).length
theorem yo6 {j:Nat}{xs:List (List Int)}{x:List Int}:cntL j (xs ++ [x])=cntL j xs+(if x.length=j then 1 else 0):=by
 unfold cntL
 rw [List.filter_append,zhx]
 by_cases h:x.length=j <;> simp [h]
theorem yxy {j:Nat}{xs:List (List Int)}:cntL j xs<=xs.length:=List.length_filter_le _ _
theorem after5 {w w1:World}{A C D E F:Obj}(h:Below (((((w.alloc A).alloc C).alloc D).alloc E).alloc F).heap.size (((((w.alloc A).alloc C).alloc D).alloc E).alloc F) w1):
  w1.heap[w.heap.size]? = some A/\w1.heap[w.heap.size+1]? = some C/\w1.heap[w.heap.size+1+1]? = some D/\w1.heap[w.heap.size+1+1+1]? = some E/\w1.heap[w.heap.size+1+1+1+1]? = some F/\Below w.heap.size w w1/\w.heap.size+5<=w1.heap.size:=by
 obtain ⟨a1,e1⟩:∃ x,x=w.alloc A:=⟨_,rfl⟩
 obtain ⟨a2,e2⟩:∃ x,x=a1.alloc C:=⟨_,rfl⟩
 obtain ⟨a3,e3⟩:∃ x,x=a2.alloc D:=⟨_,rfl⟩
 obtain ⟨a4,e4⟩:∃ x,x=a3.alloc E:=⟨_,rfl⟩
 obtain ⟨a5,e5⟩:∃ x,x=a4.alloc F:=⟨_,rfl⟩
 rw [← e1,← e2,← e3,← e4,← e5] at h
 have s1:a1.heap.size=w.heap.size+1:=by rw [e1]; simp
 have s2:a2.heap.size=w.heap.size+1+1:=by rw [e2]; simp [s1]
 have s3:a3.heap.size=w.heap.size+1+1+1:=by rw [e3]; simp [s2]
 have s4:a4.heap.size=w.heap.size+1+1+1+1:=by rw [e4]; simp [s3]
 have s5:a5.heap.size=w.heap.size+1+1+1+1+1:=by rw [e5]; simp [s4]
 have g5:∀ k,k < a5.heap.size->w1.heap[k]? = a5.heap[k]?:=fun k hk=>h.block k hk
 have g4:∀ k,k < a4.heap.size->w1.heap[k]? = a4.heap[k]?:=fun k hk=>(g5 k (by omega)).trans (by rw [e5]; exact Below.heap_alloc _ _ _ hk)
 have g3:∀ k,k < a3.heap.size->w1.heap[k]? = a3.heap[k]?:=fun k hk=>(g4 k (by omega)).trans (by rw [e4]; exact Below.heap_alloc _ _ _ hk)
 have g2:∀ k,k < a2.heap.size->w1.heap[k]? = a2.heap[k]?:=fun k hk=>(g3 k (by omega)).trans (by rw [e3]; exact Below.heap_alloc _ _ _ hk)
 have g1:∀ k,k < a1.heap.size->w1.heap[k]? = a1.heap[k]?:=fun k hk=>(g2 k (by omega)).trans (by rw [e2]; exact Below.heap_alloc _ _ _ hk)
 have g0:∀ k,k < w.heap.size->w1.heap[k]? = w.heap[k]?:=fun k hk=>(g1 k (by omega)).trans (by rw [e1]; exact Below.heap_alloc _ _ _ hk)
 refine ⟨(g1 _ (by omega)).trans (by rw [e1]; exact World.alloc_heap_new _ _),(g2 _ (by omega)).trans (by rw [e2,← s1]; exact World.alloc_heap_new _ _),(g3 _ (by omega)).trans (by rw [e3,← s2]; exact World.alloc_heap_new _ _),(g4 _ (by omega)).trans (by rw [e4,← s3]; exact World.alloc_heap_new _ _),(g5 _ (by omega)).trans (by rw [e5,← s4]; exact World.alloc_heap_new _ _),⟨?_,?_,?_,by have:=h.size; omega,g0⟩,by have:=h.size; omega⟩
 ·rw [h.os,e5,e4,e3,e2,e1]; rfl
 ·rw [h.tape,e5,e4,e3,e2,e1]; rfl
 ·rw [h.output,e5,e4,e3,e2,e1]; rfl
theorem after3 {w w1:World}{A C D:Obj}(h:Below (((w.alloc A).alloc C).alloc D).heap.size (((w.alloc A).alloc C).alloc D) w1):
  w1.heap[w.heap.size]? = some A/\w1.heap[w.heap.size+1]? = some C/\w1.heap[w.heap.size+1+1]? = some D/\Below w.heap.size w w1/\w.heap.size+3<=w1.heap.size:=by
 obtain ⟨a1,e1⟩:∃ x,x=w.alloc A:=⟨_,rfl⟩
 obtain ⟨a2,e2⟩:∃ x,x=a1.alloc C:=⟨_,rfl⟩
 obtain ⟨a3,e3⟩:∃ x,x=a2.alloc D:=⟨_,rfl⟩
 rw [← e1,← e2,← e3] at h
 have s1:a1.heap.size=w.heap.size+1:=by rw [e1]; simp
 have s2:a2.heap.size=w.heap.size+1+1:=by rw [e2]; simp [s1]
 have s3:a3.heap.size=w.heap.size+1+1+1:=by rw [e3]; simp [s2]
 have g3:∀ k,k < a3.heap.size->w1.heap[k]? = a3.heap[k]?:=fun k hk=>h.block k hk
 have g2:∀ k,k < a2.heap.size->w1.heap[k]? = a2.heap[k]?:=fun k hk=>(g3 k (by omega)).trans (by rw [e3]; exact Below.heap_alloc _ _ _ hk)
 have g1:∀ k,k < a1.heap.size->w1.heap[k]? = a1.heap[k]?:=fun k hk=>(g2 k (by omega)).trans (by rw [e2]; exact Below.heap_alloc _ _ _ hk)
 have g0:∀ k,k < w.heap.size->w1.heap[k]? = w.heap[k]?:=fun k hk=>(g1 k (by omega)).trans (by rw [e1]; exact Below.heap_alloc _ _ _ hk)
 refine ⟨(g1 _ (by omega)).trans (by rw [e1]; exact World.alloc_heap_new _ _),(g2 _ (by omega)).trans (by rw [e2,← s1]; exact World.alloc_heap_new _ _),(g3 _ (by omega)).trans (by rw [e3,← s2]; exact World.alloc_heap_new _ _),⟨?_,?_,?_,by have:=h.size; omega,g0⟩,by have:=h.size; omega⟩
 ·rw [h.os,e3,e2,e1]; rfl
 ·rw [h.tape,e3,e2,e1]; rfl
 ·rw [h.output,e3,e2,e1]; rfl
theorem below3 {w w1:World}(h:Below w.heap.size w w1)(A C D:Obj):Below w.heap.size w (((w1.alloc A).alloc C).alloc D):=((h.alloc h.size A).alloc (by have:=h.size; simp; omega) C).alloc (by have:=h.size; simp; omega) D
theorem cell3 {w1:World}{k:Nat}(hk:k < w1.heap.size)(A C D:Obj)(i:Nat):(((w1.alloc A).alloc C).alloc D).cell? ⟨k,i,none⟩=w1.cell? ⟨k,i,none⟩:=by
 refine World.cell?_of_block ?_
 have h:Below w1.heap.size w1 (((w1.alloc A).alloc C).alloc D):=(((Below.refl _ w1).alloc (zha _) A).alloc (by simp) C).alloc (by simp; omega) D
 exact h.block k hk
theorem mk2 (W:World):(Instr.makeSlice 65 (.int .i64 2) (.int .i64 2)).run Tryz.prog W=.ok (.slice (some ⟨W.heap.size,0,none⟩) 2 2) (W.alloc (.cells #[.int .i64 0,.int .i64 0] 3)):=by
 unfold Instr.makeSlice
 have e:IntKind.i64.wrap 2=2:=by decide
 have e2:Tryz.t3.bytes=8:=rfl
 go_simp
theorem ywz {α:Type}{P:Program}{n:Nat}{g:Operand}{p d:Tmp}{body:Code}{Q:Exit->Act->World->Prop}{a:Act}{w w0:World}{gf:Nat}{lb:Array Value}{v:α->Value}{E:Nat->α->World->Prop}{B:Nat->Prop}{M:Nat}{S Sp:List α->Prop}{id:Nat}{o:Oper}
  (hg:a.eval g=.func (.func gf) #[] lb) (eg:∀ args w,(callFunc gf args).run P w=.ok (.enter gf args) w) (hseq:SeqE P gf lb (fun x=>#[v x]) E B M S Sp w0) (hb0:Ev B w0 w) (hBw:∀ k,B k->k < w.heap.size) (hE:∀ m x W W',E m x W->Ev (fun k=>w.heap.size<=k/\k < m) W W'->E m x W')
  (ho:o.op=.assign (.tmp p)) (hd:o.dst=some d) (hgd:o.guard=none) (hp:p < a.tmps.size)
  (I:List α->World->Prop) (Ix:Code->List α->World->Prop) (hI:Stb w.heap.size I) (hIx:∀ c,Stb w.heap.size (Ix c)) (hM:∀ pre W,I pre W->pre.length<=M) (h0:I [] w)
  (hbody:∀ (l:Nat) (pre:List α) (x:α) (m:Nat) (W:World),w.heap.size<=l->l < m->(∃ r,W.heap[l]? = some (.loop r))->I pre W->E m x W->body.wpIn (Fence.wide.inRound l) n P (postE B w.heap.size I Ix (pre ++ [x]) W) { tmps:=(a.tmps.setIfInBounds p (v x)).setIfInBounds d (v x),defers:=[] } W)
  (hdone:∀ (D:Nat) (xs:List α) (W:World),w.heap.size<=D->S xs->I xs W->W.heap[D]? = some (.deferred (some []))->Q .normal { a with defers:={ target:=.collected D,args:=#[] } :: a.defers } W)
  (hstop:∀ (D:Nat) (c:Code) (pre:List α) (W:World),w.heap.size<=D->Sp pre->Ix c pre W->W.heap[D]? = some (.deferred (some []))->c.wpIn Fence.wide n P Q { a with defers:={ target:=.collected D,args:=#[] } :: a.defers } W):
  (Code.rangeFunc g #[p] (.region id #[o] false) body).wpIn Fence.wide n P Q a w:=
 yua hg eg hseq hb0 (fun x=>rfl) hBw hE I Ix hI hIx hM h0 (fun x a' _=>a'={ tmps:=(a.tmps.setIfInBounds p (v x)).setIfInBounds d (v x),defers:=[] }) (fun a' x A A' h _=>h)
  (fun l pre x W m K _ _ hK=>by
   rw [show ((#[p].zip #[v x]).foldl (fun t (y:Tmp × Value)=>t.setIfInBounds y.1 y.2) a.tmps)=a.tmps.setIfInBounds p (v x) from zip1]
   refine wpIn_region (ydy (o:=o) rfl (ydg hgd) (yvb (.inr ⟨l,rfl⟩) (fun c e=>by rw [ho] at e; cases e) (v:=v x) ?_ ?_))
   ·have:(execOp (Act.eval { tmps:=a.tmps.setIfInBounds p (v x),defers:=[] }) { o with op:=.assign (.tmp p) }).run P W=.ok (.value (Act.eval { tmps:=a.tmps.setIfInBounds p (v x),defers:=[] } (.tmp p))) W:=by
     unfold execOp
     simp [go_sem]
    rw [← ho] at this
    rw [show Act.eval { tmps:=a.tmps.setIfInBounds p (v x),defers:=[] } (.tmp p)=v x by simp [Act.eval,hp]] at this
    exact this
   ·refine thenN (hK _ _ (Below.refl _ _) ?_)
    rw [hd]
    rfl)
  (fun l pre x m a' W h1 h2 h3 h4 h5 h6=>by subst h6; exact hbody l pre x m W h1 h2 h3 h4 h5) hdone hstop
theorem yi0 {S:Nat->Prop}{W:World}{b i:Nat}{v:Value}(h:S b):Ev S W (W.setCell ⟨b,i,none⟩ v):=
 ⟨rfl,rfl,rfl,by show W.heap.size<=(W.heap.modify _ _).size; rw [Array.size_modify]; exact zha _,fun k hk hn=>Below.heap_setCell W ⟨b,i,none⟩ v k (fun e=>hn (by rw [e]; exact h))⟩
theorem yi6 {W:World}{b i:Nat}{v:Value}{cs:Array Value}{T:TypeId}(h:W.heap[b]? = some (.cells cs T (0,0))):(W.setCell ⟨b,i,none⟩ v).heap[b]? = some (.cells (cs.setIfInBounds i v) T (0,0)):=by
 obtain ⟨hl,he⟩:=zhf.1 h
 show (W.heap.modify b _)[b]? = _
 rw [zh4 (by rw [Array.size_modify]; exact hl),Array.getElem_modify_self,he]
 rfl
theorem yco {W:World}{b c i:Nat}{v:Value}{o:Obj}(h:W.heap[c]? = some o)(hn:c≠b):(W.setCell ⟨b,i,none⟩ v).heap[c]? = some o:=(Below.heap_setCell W ⟨b,i,none⟩ v c hn).trans h
theorem yhb {W:World}{D b i:Nat}{o:Obj}(h:D≠b):(W.putObj D o).cell? ⟨b,i,none⟩=W.cell? ⟨b,i,none⟩:=World.cell?_of_block (World.putObj_heap_other (Ne.symm h))
theorem yhe {W:World}{b i:Nat}{cs:Array Value}{T:TypeId}(h:W.heap[b]? = some (.cells cs T (0,0))):W.frozen? ⟨b,i,none⟩=false:=by simp [World.frozen?,h]
set_option maxRecDepth 100000 in
theorem count2 (MM mo:Nat)(hmo:mo<=65536)(hMM:mo+1<=MM)(nodes:List (List Int))(hno:nodes.length<=mo)(dv lv tv y0 y1 y2 y3:Value)(pl:Option Addr)(cl:Nat)(E:Nat->NEl->World->Prop)(n:Nat)(hn:n=2)(hE:∀ m x w,E m x w->1<=x.l.length/\x.l.length<=n)(hEe:∀ lo m x W W',E m x W->Ev (fun k=>lo<=k/\k < m) W W'->E m x W')(w:World)
  (hd:dv.oneCell'=true) (ht:tv.oneCell'=true) (hy0:y0.oneCell'=true) (hy1:y1.oneCell'=true) (hy2:y2.oneCell'=true) (hy3:y3.oneCell'=true)
  (hR:∀ W,Below w.heap.size w W->Calls Tryz.prog 60 #[.agg #[dv,.slice pl 2 cl,tv,y0,y1,y2,y3],.slice none 0 0,.int .i64 ((mo:Nat):Int)] W fun e W'=>e=.returned (.int .i64 0)/\Below W.heap.size W W')
  (hN:∀ W,Below w.heap.size w W->Calls Tryz.prog 61 #[.agg #[dv,.slice pl 2 cl,tv,y0,y1,y2,y3]] W fun e W'=>∃ p q t,e=.returned (.func (.func 113) #[] #[p,q,t])/\Below W.heap.size W W'/\∀ (B:Nat->Prop) (M:Nat),M<=MM->(∀ k,B k->k < W.heap.size/\w.heap.size<=k)->SeqE Tryz.prog 113 #[p,q,t] (fun x:NEl=>#[x.v]) E B M (fun xs=>xs.map NEl.l=nodes) (fun xs=>xs.map NEl.l <+: nodes) W'):
  Calls Tryz.prog 30 #[.agg #[dv,.slice pl 2 cl,tv,y0,y1,y2,y3],.int .i64 ((mo:Nat):Int)] w fun e w'=>∃ g,e=.returned (.tuple #[.slice (some ⟨g,0,none⟩) 2 2,.bool true,.int .i64 0])/\w.heap.size<=g/\Below w.heap.size w w'/\w'.cell? ⟨g,0,none⟩=some (.int .i64 ((cntL 1 nodes:Nat):Int))/\w'.cell? ⟨g,1,none⟩=some (.int .i64 ((cntL 2 nodes:Nat):Int)):=by
 refine (callsIn_wide (n:=8)).1 (callsIn_of_wp_marks Tryz.func30 rfl trivial ?_ rfl)
 simp only [Tryz.ntmps30,zjv,zie,zjw,Nat.reduceAdd,Nat.reduceSub,Array.replicate_succ,Array.replicate_zero,List.push_toArray,List.append_toArray,zh8,zjy]
 have hmk:=mk2
 gi_wp2_with (refine ⟨trivial,?_⟩; gi_at_call 60; refine (callsIn_wide.2 (hR _ ((((((Below.refl _ w).alloc (zha _) _).alloc (by simp) _).alloc (by simp; omega) _).alloc (by simp; omega) _).alloc (by simp; omega) _))).mono ?_; rintro e w1 ⟨rfl,hb1⟩; obtain ⟨f0,f1,f2,f3,f4,hb,hz1⟩:=after5 hb1; have c0:w1.cell? ⟨w.heap.size,0,none⟩=some dv:=ybl f0; have c1:w1.cell? ⟨w.heap.size,1,none⟩=some (.slice pl 2 cl):=ybl f0; have c2:w1.cell? ⟨w.heap.size,2,none⟩=some tv:=ybl f0; have c3:w1.cell? ⟨w.heap.size,3,none⟩=some y0:=ybl f0; have c4:w1.cell? ⟨w.heap.size,4,none⟩=some y1:=ybl f0; have c5:w1.cell? ⟨w.heap.size,5,none⟩=some y2:=ybl f0; have c6:w1.cell? ⟨w.heap.size,6,none⟩=some y3:=ybl f0; have hc3:=@cell3 w1 w.heap.size (by omega))
 gi_wp2_with (refine ⟨trivial,?_⟩; gi_at_call 61; refine (callsIn_wide.2 (hN _ (below3 hb _ _ _))).mono ?_; rintro e w2 ⟨p,q,t,rfl,hb2,hseq⟩; obtain ⟨h0,h1,h2,hb3,hz2⟩:=after3 hb2)
 obtain ⟨B,hB⟩:∃ B:Nat->Prop,B=fun k=>k=w1.heap.size\/k=w1.heap.size+1+1\/k=w.heap.size+1+1\/k=w.heap.size+1+1+1\/k=w.heap.size+1+1+1+1:=⟨_,rfl⟩
 have hBw:∀ k,B k->k < w2.heap.size/\w.heap.size<=k:=fun k h=>by rw [hB] at h; have:=hb3.size; omega
 have hBc:∀ k,B k->k < w1.heap.size+1+1+1:=fun k h=>by rw [hB] at h; omega
 have k1:w2.heap[w.heap.size+1]? = some (.cells #[.int .i64 ((mo:Nat):Int)] 3 (0,0)):=(hb3.block _ (by omega)).trans f1
 have k2:w2.heap[w.heap.size+1+1]? = some (.cells #[.slice none 0 0] 65 (0,0)):=(hb3.block _ (by omega)).trans f2
 have k3:w2.heap[w.heap.size+1+1+1]? = some (.cells #[.bool false] 4 (0,0)):=(hb3.block _ (by omega)).trans f3
 have k4:w2.heap[w.heap.size+1+1+1+1]? = some (.cells #[.int .i64 0] 27 (0,0)):=(hb3.block _ (by omega)).trans f4
 refine ywz (n:=8) (w0:=w2) (B:=B) (M:=mo) rfl (enters_of Tryz.func113 (by kernel_rfl) rfl) (hseq B mo (by omega) (fun k h=>⟨by have:=hBc k h; simp; omega,(hBw k h).2⟩)) (Ev.refl _ _) (fun k h=>(hBw k h).1) (hEe w2.heap.size) rfl rfl rfl (by simp)
  (fun pre W=>(Below w.heap.size w W/\pre.length<=mo)/\W.heap[w.heap.size+1]? = some (.cells #[.int .i64 ((mo:Nat):Int)] 3 (0,0))/\W.heap[w.heap.size+1+1]? = some (.cells #[.slice none 0 0] 65 (0,0))/\W.heap[w.heap.size+1+1+1]? = some (.cells #[.bool false] 4 (0,0))/\W.heap[w.heap.size+1+1+1+1]? = some (.cells #[.int .i64 0] 27 (0,0))/\W.heap[w1.heap.size]? = some (.cells #[.int .i64 ((cntL 1 (pre.map NEl.l):Nat):Int),.int .i64 ((cntL 2 (pre.map NEl.l):Nat):Int)] 3 (0,0))/\W.heap[w1.heap.size+1]? = some (.cells #[.slice (some ⟨w1.heap.size,0,none⟩) 2 2] 65 (0,0))/\W.heap[w1.heap.size+1+1]? = some (.cells #[.int .i64 ((pre.length:Nat):Int)] 3 (0,0)))
  (fun c pre W=>c=.ret/\mo < pre.length) ?hI (fun c s A A' h _=>h) (fun pre W h=>h.1.2) ?h0 ?body ?done ?stop
 case hI =>
  intro s A A' ⟨⟨a1,a2⟩,a3,a4,a5,a6,a7,a8,a9⟩ hn
  have c:∀ {k:Nat} {cs:Array Value} {T:TypeId},A.heap[k]? = some (.cells cs T (0,0))->A'.heap[k]? = some (.cells cs T (0,0)):=fun h=>(hn.block _ (zhf.1 h).1 (Or.inr ⟨_,h,rfl⟩)).trans h
  refine ⟨⟨⟨hn.os.trans a1.os,hn.tape.trans a1.tape,hn.output.trans a1.output,zhb a1.size hn.size,fun k hk=>(hn.block k (zhe hk a1.size) (Or.inl (by have:=hb3.size; omega))).trans (a1.block k hk)⟩,a2⟩,c a3,c a4,c a5,c a6,c a7,c a8,c a9⟩
 case h0=>exact ⟨⟨hb.trans (hb3.mono hb.size),by simp⟩,k1,k2,k3,k4,h0,h1,h2⟩
 case body =>
  rintro l pre x m W hl hlm ⟨r0,hr0⟩ ⟨⟨a1,a2⟩,a3,a4,a5,a6,a7,a8,a9⟩ hex
  obtain ⟨hx1,hx2⟩:=hE m x W hex
  have hlen:x.l.length=1\/x.l.length=2:=by omega
  have m3:W.cell? ⟨w.heap.size+1,0,none⟩=some (.int .i64 ((mo:Nat):Int)):=ybl a3
  have m4:W.cell? ⟨w.heap.size+1+1,0,none⟩=some (.slice none 0 0):=ybl a4
  have m5:W.cell? ⟨w.heap.size+1+1+1,0,none⟩=some (.bool false):=ybl a5
  have m6:W.cell? ⟨w.heap.size+1+1+1+1,0,none⟩=some (.int .i64 0):=ybl a6
  have m7:W.cell? ⟨w1.heap.size,0,none⟩=some (.int .i64 ((cntL 1 (pre.map NEl.l):Nat):Int)):=ybl a7
  have m7':W.cell? ⟨w1.heap.size,1,none⟩=some (.int .i64 ((cntL 2 (pre.map NEl.l):Nat):Int)):=ybl a7
  have m8:W.cell? ⟨w1.heap.size+1,0,none⟩=some (.slice (some ⟨w1.heap.size,0,none⟩) 2 2):=ybl a8
  have m9:W.cell? ⟨w1.heap.size+1+1,0,none⟩=some (.int .i64 ((pre.length:Nat):Int)):=ybl a9
  have z4:=yhe (i:=0) a4
  have z5:=yhe (i:=0) a5
  have z6:=yhe (i:=0) a6
  have z7:=yhe (i:=0) a7
  have z7':=yhe (i:=1) a7
  have z9:=yhe (i:=0) a9
  simp only [NEl.v]
  by_cases hfull:pre.length=mo
  ·gi_wp2
   exact ⟨yb4 (yb4 (yi0 (by omega)) (yi0 (by omega))) (yi0 (by omega)),rfl,by simp; omega⟩
  ·have hne:¬ ((pre.length:Int)=(mo:Int)):=by omega
   have b7:B w1.heap.size:=by rw [hB]; exact Or.inl rfl
   have b9:B (w1.heap.size+1+1):=by rw [hB]; exact Or.inr (Or.inl rfl)
   have hz:=hb.size
   have d1:=yxy (j:=1) (xs:=pre.map NEl.l)
   have d2:=yxy (j:=2) (xs:=pre.map NEl.l)
   rw [zks] at d1 d2
   rcases hlen with hl1 | hl1
   ·rw [hl1]
    gi_wp2
    refine ⟨yb4 (yi0 b7) (yi0 b9),⟨⟨a1.trans ?_,by simp; omega⟩,yco (yco a3 (by omega)) (by omega),yco (yco a4 (by omega)) (by omega),yco (yco a5 (by omega)) (by omega),yco (yco a6 (by omega)) (by omega),?_,yco (yco a8 (by omega)) (by omega),?_⟩⟩
    ·exact ((Below.refl _ _).setCell (p:=⟨w1.heap.size,_,none⟩) hz _).setCell (p:=⟨w1.heap.size+1+1,_,none⟩) (show w.heap.size<=w1.heap.size+1+1 by omega) _
    ·refine yco ((yi6 a7).trans ?_) (by omega)
     simp [yo6,hl1]
    ·refine (yi6 (yco a9 (by omega))).trans ?_
     simp
   ·rw [hl1]
    gi_wp2
    refine ⟨yb4 (yi0 b7) (yi0 b9),⟨⟨a1.trans ?_,by simp; omega⟩,yco (yco a3 (by omega)) (by omega),yco (yco a4 (by omega)) (by omega),yco (yco a5 (by omega)) (by omega),yco (yco a6 (by omega)) (by omega),?_,yco (yco a8 (by omega)) (by omega),?_⟩⟩
    ·exact ((Below.refl _ _).setCell (p:=⟨w1.heap.size,_,none⟩) hz _).setCell (p:=⟨w1.heap.size+1+1,_,none⟩) (show w.heap.size<=w1.heap.size+1+1 by omega) _
    ·refine yco ((yi6 a7).trans ?_) (by omega)
     simp [yo6,hl1]
    ·refine (yi6 (yco a9 (by omega))).trans ?_
     simp
 case done =>
  rintro D xs W hD hS ⟨⟨a1,a2⟩,a3,a4,a5,a6,a7,a8,a9⟩ hK
  have m4:W.cell? ⟨w.heap.size+1+1,0,none⟩=some (.slice none 0 0):=ybl a4
  have m5:W.cell? ⟨w.heap.size+1+1+1,0,none⟩=some (.bool false):=ybl a5
  have m6:W.cell? ⟨w.heap.size+1+1+1+1,0,none⟩=some (.int .i64 0):=ybl a6
  have m7:W.cell? ⟨w1.heap.size,0,none⟩=some (.int .i64 ((cntL 1 (xs.map NEl.l):Nat):Int)):=ybl a7
  have m7':W.cell? ⟨w1.heap.size,1,none⟩=some (.int .i64 ((cntL 2 (xs.map NEl.l):Nat):Int)):=ybl a7
  have m8:W.cell? ⟨w1.heap.size+1,0,none⟩=some (.slice (some ⟨w1.heap.size,0,none⟩) 2 2):=ybl a8
  have z4:=yhe (i:=0) a4
  have z5:=yhe (i:=0) a5
  have z6:=yhe (i:=0) a6
  gi_wp2
  have hK2:=yco (b:=w.heap.size+1+1+1+1) (i:=0) (v:=.int .i64 0) (yco (b:=w.heap.size+1+1+1) (i:=0) (v:=.bool true) (yco (b:=w.heap.size+1+1) (i:=0) (v:=.slice (some ⟨w1.heap.size,0,none⟩) 2 2) hK (by omega)) (by omega)) (by omega)
  refine ⟨by simp,.inl ⟨_,_,rfl,run_takeDeferred hK2,?_⟩⟩
  have e4:=yco (b:=w.heap.size+1+1+1+1) (i:=0) (v:=.int .i64 0) (yco (b:=w.heap.size+1+1+1) (i:=0) (v:=.bool true) (yi6 (i:=0) (v:=.slice (some ⟨w1.heap.size,0,none⟩) 2 2) a4) (by omega)) (by omega)
  have e5:=yco (b:=w.heap.size+1+1+1+1) (i:=0) (v:=.int .i64 0) (yi6 (i:=0) (v:=.bool true) (yco (b:=w.heap.size+1+1) (i:=0) (v:=.slice (some ⟨w1.heap.size,0,none⟩) 2 2) a5 (by omega))) (by omega)
  have e6:=yi6 (i:=0) (v:=.int .i64 0) (yco (b:=w.heap.size+1+1+1) (i:=0) (v:=.bool true) (yco (b:=w.heap.size+1+1) (i:=0) (v:=.slice (some ⟨w1.heap.size,0,none⟩) 2 2) a6 (by omega)) (by omega))
  have e7:=yco (b:=w.heap.size+1+1+1+1) (i:=0) (v:=.int .i64 0) (yco (b:=w.heap.size+1+1+1) (i:=0) (v:=.bool true) (yco (b:=w.heap.size+1+1) (i:=0) (v:=.slice (some ⟨w1.heap.size,0,none⟩) 2 2) a7 (by omega)) (by omega)) (by omega)
  have b4:Below w.heap.size W (((W.setCell ⟨w.heap.size+1+1,0,none⟩ (.slice (some ⟨w1.heap.size,0,none⟩) 2 2)).setCell ⟨w.heap.size+1+1+1,0,none⟩ (.bool true)).setCell ⟨w.heap.size+1+1+1+1,0,none⟩ (.int .i64 0)):=(((Below.refl _ _).setCell (p:=⟨w.heap.size+1+1,0,none⟩) (show w.heap.size<=w.heap.size+1+1 by omega) _).setCell (p:=⟨w.heap.size+1+1+1,0,none⟩) (show w.heap.size<=w.heap.size+1+1+1 by omega) _).setCell (p:=⟨w.heap.size+1+1+1+1,0,none⟩) (show w.heap.size<=w.heap.size+1+1+1+1 by omega) _
  clear m4 m5 m6 m7 m7' m8 z4 z5 z6
  revert hK2 e4 e5 e6 e7 b4
  generalize (((W.setCell ⟨w.heap.size+1+1,0,none⟩ (.slice (some ⟨w1.heap.size,0,none⟩) 2 2)).setCell ⟨w.heap.size+1+1+1,0,none⟩ (.bool true)).setCell ⟨w.heap.size+1+1+1+1,0,none⟩ (.int .i64 0))=W3
  intro hK2 e4 e5 e6 e7 b4
  have hz:=hb.size
  have hz3:=hb3.size
  have r4:(W3.putObj D (.deferred none)).cell? ⟨w.heap.size+1+1,0,none⟩=some (.slice (some ⟨w1.heap.size,0,none⟩) 2 2):=(yhb (by omega)).trans (ybl e4)
  have r5:(W3.putObj D (.deferred none)).cell? ⟨w.heap.size+1+1+1,0,none⟩=some (.bool true):=(yhb (by omega)).trans (ybl e5)
  have r6:(W3.putObj D (.deferred none)).cell? ⟨w.heap.size+1+1+1+1,0,none⟩=some (.int .i64 0):=(yhb (by omega)).trans (ybl e6)
  rw [show xs.map NEl.l=nodes from hS] at e7
  refine ⟨_,?_,w1.heap.size,rfl,hz,a1.trans (b4.trans ?_),(yhb (by omega)).trans (ybl e7),(yhb (by omega)).trans (ybl e7)⟩
  ·simp [results,go_sem,r4,r5,r6]
  ·exact belowK_b (w:=w) (zha _) W3 D _ _ (by omega) hK2 rfl rfl
 case stop =>
  rintro D c pre W hD hSp ⟨rfl,h⟩ hK
  have:=List.IsPrefix.length_le hSp
  simp at this
  omega
end Go.Proofs.YtdnindaohpdblaaGreat

namespace Go.Proofs.YtdnindaohpdblaaGreat
open Go Go.RowKit Nt
set_option maxRecDepth 20000
set_option maxHeartbeats 16000000
theorem zek:rt 1=1:=za6 (by unfold IsRoot; decide)
theorem zej:rt 0=0:=za6 (by unfold IsRoot; decide)
def sqs (s:List Int):Int:=sumZ (s.map (fun z=>z*z))
def kdS (s:List Int):List Int:=if s=[]\/s=[0] then [0,1,-1] else if s=[1]\/s=[-1] then [0] else []
def GdS:List (List Int):=[[],[0],[1],[-1],[0,0],[0,1],[0,-1],[1,0],[-1,0]]
abbrev SA:Pr:=APx 3 2 2 4194305 TnD TnL [0,0] 1
def phiS (lo:Nat)(s:List Int):Pr:=fun v w=>(s ∈ GdS/\lo<=w.heap.size)/\SP SA (VN s.length s lo) (ZN 0 lo) (ZN (sqs s) lo) (ZN 1 lo) v w
theorem yt1 {lo:Nat}(s:List Int):Shp 8 (phiS lo s):=fun u w h=>yby u w h.2
theorem yms:∀ s ∈ GdS,s.length<=2/\(∀ z ∈ s,z.natAbs<=1)/\(sqs s=0\/sqs s=1):=by decide
theorem yff {z:Int}(h:z.natAbs < 4294967296):(digs z.natAbs).length<=1:=ya1 (by rw [Nat.pow_one]; exact h)
theorem zc6 {s:List Int}(h:s ∈ GdS):Dl s 1:=fun i z hz=>yff (by have:=(yms s h).2.1 z (zhl hz); omega)
theorem zev {s:List Int}(h:s ∈ GdS):(digs (sqs s).natAbs).length<=1:=yff (by rcases (yms s h).2.2 with e | e <;> rw [e] <;> decide)
theorem yll {lo:Nat}{s:List Int}{B:Nat->Prop}{w:World}{u:Value}(h:Has B w (phiS lo s) u):s ∈ GdS/\∃ pa,Has B w (SP (AP pa 3 2 2 4194305 TnD TnL [0,0] 1) (Vv s.length s 1) (Zv 0 1) (Zv (sqs s) 1) (Zv 1 1)) u:=by
 have hg:=h.now.1.1
 obtain ⟨pa,hp⟩:=zeu (fun v w h=>h) (show Has B w (SP SA (VN s.length s lo) (ZN 0 lo) (ZN (sqs s) lo) (ZN 1 lo)) u from fun w' e=>(h w' e).2)
 exact ⟨hg,pa,hp.imp (fun w h=>yg1 (fun v w h=>h) (yrr (zc6 hg)) (ybf (yff (by decide))) (ybf (zev hg)) (ybf (yff (by decide))) _ w h)⟩
theorem yoa {f:FuncId}{args:Array Value}{w:World}{ψ:Nat->Pr}{χ:Pr}{B:Nat->Prop}(h:CG f args w ψ)(hf:Fresh ψ)(hB:∀ k,B k->k < w.heap.size)(hi:∀ v w',ψ w.heap.size v w'->χ v w'):
  Calls Tryz.prog f args w fun e w'=>∃ r,e=.returned r/\Below w.heap.size w w'/\Has B w' χ r:=
 h.mono (fun e w' ⟨v,e1,hb,hp⟩=>⟨v,e1,hb,(hf.has hB hp).imp (fun w h=>hi v w h)⟩)
theorem zbf (lo:Nat)(s:List Int)(hs:s.length<=2)(w:World)(u:Value)(h:Hs w (phiS lo s) u):CG 96 #[u] w (IS (.int .i64 ((2-s.length:Nat):Int))):=by
 obtain ⟨hg,pa,hp⟩:=yll h
 exact yw7 w pa 3 2 2 4194305 TnD TnL [0,0] 1 (by omega) (by omega) (by omega) (by omega) rfl rfl rfl u s.length 1 1 1 1 s 0 (sqs s) 1 hp hs rfl
theorem yor:∀ s ∈ GdS,s.length < 2->∀ z ∈ kdS s,s ++ [z] ∈ GdS/\fB (s ++ [z]) TnL 2 (s.length+1)=0/\nx (sqs s*1+1*((z*1+0)*(z*1+0))) 1 1=(sqs (s ++ [z]),1)/\z.natAbs<=1:=by decide
theorem yoq:∀ k,k < 2->TnD.getD (2-1-k) 0=1/\TnD.getD (2-1-k+1) 0=1/\([0,0]:List Int).getD (2-1-k) 0=0:=by decide
theorem zbd (lo:Nat)(s:List Int)(z:Int)(hs:s.length < 2)(hz:z ∈ kdS s)(B:Nat->Prop)(w:World)(u v:Value)(hB:∀ k,B k->k < w.heap.size)(hu:Has B w (phiS lo s) u)(hv:Has B w (Zv z 1) v):
  Calls Tryz.prog 94 #[u,v] w fun e w'=>∃ r,e=.returned r/\Below w.heap.size w w'/\Has B w' (phiS lo (s ++ [z])) r:=by
 obtain ⟨hg,hlo⟩:=hu.now.1
 obtain ⟨g1,g2,g3,g4⟩:=yor s hg hs z hz
 obtain ⟨d1,d2,d3⟩:=yoq s.length hs
 have h':Has B w (SP SA (VN s.length s lo) (ZN 0 lo) (ZN (sqs s) lo) (ZN 1 lo)) u:=fun w' e=>(hu w' e).2
 refine (yr8 (φa:=SA) (fun v w h=>h) (by omega) (by omega) (by omega) (by omega) rfl rfl rfl (lo:=lo) (Kx:=1) (Ks:=1) (X:=z) (Z:=z) (D0:=1) (D1:=1) (W:=z*1+0) (M:=sqs s*1+1*((z*1+0)*(z*1+0))) hs rfl rfl rfl (by decide) (by decide) (zc6 hg) (by omega) (by have:=yff (z:=0) (by decide); omega) (by have:=zev hg; omega) (by have:=yff (z:=1) (by decide); omega) (by omega) (by rw [d3]; omega) d1 d2 rfl rfl B w u v hlo hB h' hv).mono ?_
 rintro e w' ⟨r,e1,hb,h⟩
 rw [g2,g3] at h
 exact ⟨r,e1,hb,fun w2 e2=>⟨⟨g1,zhb hlo (zhb hb.size e2.size)⟩,by have:=h w2 e2; rw [show s.length+1=(s ++ [z]).length by simp] at this; exact this⟩⟩
theorem yw9:∀ s ∈ GdS,s.length < 2->fl (0+(1-sqs s)) 1=1-sqs s/\fl ((1-sqs s)-0) 1=1-sqs s/\fl ((1-sqs s)*1) (1*1)=1-sqs s/\0<=1-sqs s/\-(1-sqs s)<=1-sqs s:=by decide
theorem yxa {s:List Int}(h:s ∈ GdS):((rt (1-sqs s).natAbs:Nat):Int)=1-sqs s:=by
 rcases (yms s h).2.2 with e | e <;> rw [e]
 ·exact congrArg Int.ofNat zek
 ·exact congrArg Int.ofNat zej
theorem zbg (lo:Nat)(s:List Int)(hs:s.length < 2)(lo2:Nat)(B:Nat->Prop)(w:World)(u v:Value)(hl:lo2<=w.heap.size)(hB:∀ k,B k->k < w.heap.size)(hu:Has B w (phiS lo s) u)(hv:Has B w (PR (Zv 1 1) (Zv 1 1)) v):
  Calls Tryz.prog 125 #[u,v] w fun e w'=>∃ r,e=.returned r/\Below w.heap.size w w'/\Has B w' (THREE (ZN (-(1-sqs s))) (ZN (1-sqs s)) (IS (.bool true)) lo2) r:=by
 obtain ⟨hg,pa,hp⟩:=yll (Has.mono' hu (B':=fun _=>False) (fun k h=>h.elim))
 have hv':Hs w (PR (Zv 1 1) (Zv 1 1)) v:=Has.mono' hv (fun k h=>h.elim)
 obtain ⟨d1,d2,d3⟩:=yoq s.length hs
 obtain ⟨f1,f2,f3,f4,f5⟩:=yw9 s hg hs
 have dr:(digs (1-sqs s).natAbs).length<=1:=yff (by rcases (yms s hg).2.2 with e | e <;> rw [e] <;> decide)
 have hf:Fresh (THREE (ZN (-(1-sqs s))) (ZN (1-sqs s)) (IS (.bool true))):=ydc (yah _) (yah _) (yab _)
 refine yoa (zg5 w pa 3 2 2 4194305 TnD TnL [0,0] 1 (by omega) (by omega) (by omega) (by omega) rfl rfl rfl u s.length 1 1 1 1 s 0 (sqs s) 1 hp hs rfl rfl rfl v 1 1 0 1 0 1 1 hv' (by omega) d3 d2 (by decide) (by decide) (1-sqs s) (1-sqs s) (1-sqs s) (by omega) (by decide) f1 f2 (fun w u r h1 h2=>zgk w pa 3 2 2 4194305 TnD TnL [0,0] 1 (by omega) (by omega) (by omega) (by omega) rfl rfl rfl u s.length 1 1 1 1 s 0 (sqs s) 1 h1 hs rfl rfl rfl r 1 1 1 1 (1-sqs s) 1 h2 (by omega) (by omega) (by omega) d1 d2 (by omega) (1-sqs s) (1-sqs s) _ (Or.inr ⟨f4,by decide,f3,f4,yxa hg,rfl⟩)) _ (Or.inr ⟨f5,rfl⟩)) hf hB (fun v w' h=>hf.mono _ _ _ _ hl h)
theorem yw8 (lo:Nat)(s:List Int)(hs:s.length < 2)(B:Nat->Prop)(w:World)(u:Value)(hB:∀ k,B k->k < w.heap.size)(hu:Has B w (phiS lo s) u):
  Calls Tryz.prog 39 #[u] w fun e w'=>∃ r,e=.returned r/\Below w.heap.size w w'/\Has B w' (PR (Zv 0 1) (Zv ((1:Nat):Int) 1)) r:=by
 obtain ⟨hg,pa,hp⟩:=yll (Has.mono' hu (B':=fun _=>False) (fun k h=>h.elim))
 obtain ⟨d1,d2,d3⟩:=yoq s.length hs
 exact yoa (za7 w pa 3 2 2 4194305 TnD TnL [0,0] 1 (by omega) (by omega) (by omega) (by omega) rfl rfl rfl u s.length 1 1 1 1 s 0 (sqs s) 1 hp hs rfl rfl rfl 0 1 d3 d2 (by omega)) (yfc (yah _) (yah _)) hB (yic (ybf (yff (by decide))) (ybf (yff (by decide))))
theorem zbh (lo2:Nat)(B:Nat->Prop)(w:World)(u:Value)(hl:lo2<=w.heap.size)(hB:∀ k,B k->k < w.heap.size)(hu:Has B w (PR (Zv 0 1) (Zv ((1:Nat):Int) 1)) u):
  Calls Tryz.prog 27 #[u] w fun e w'=>∃ r,e=.returned r/\Below w.heap.size w w'/\Has B w' (ZGN (ZN 0) (IS (.bool true)) lo2) r:=by
 have hf:Fresh (ZGN (ZN 0) (IS (.bool true))):=yik (yah _) (yab _)
 exact yoa (zg8 w u 0 0 1 1 1 (Has.mono' hu (fun k h=>h.elim)) (by omega) (by omega) (by decide) (by decide) (by have:=yff (z:=0) (by decide); omega) (by decide)) hf hB (fun v w' h=>hf.mono _ _ _ _ hl h)
theorem zg7 {k M:Nat}(h:k<=M)(hM:M<=1073741822):(digs (zgN 0 true k).natAbs).length<=1:=yff (by
 unfold zgN
 split <;> omega)
theorem zfc:zgN 0 true 0=0/\zgN 0 true 1=1/\zgN 0 true 2=-1/\zgN 0 true 3=2:=by decide
theorem ysv:∀ s ∈ GdS,s.length < 2->(sqs s=0/\kdS s=[0,1,-1])\/(sqs s=1/\kdS s=[0]):=by decide
theorem zbe (lo:Nat)(s:List Int)(hs:s.length < 2)(M:Nat)(B:Nat->Prop)(w0:World)(pa pr:Value)(hM:M<=1073741822)(hB:∀ k,B k->k < w0.heap.size)(h1:Has B w0 (AtE 8 (phiS lo s)) pa)(h2:Has B w0 (AtE 4 (PR (Zv 1 1) (Zv 1 1))) pr):
  SeqE Tryz.prog 124 #[pa,pr] (fun x:KEl=>#[x.v]) (fun m x w=>Has (fun k=>k < m) w (Zv x.z 1) x.v/\x.z ∈ kdS s) B M (fun xs=>xs.map KEl.z=kdS s) (fun xs=>xs.map KEl.z <+: kdS s) w0:=by
 obtain ⟨_,_,_,_,_,_,⟨hg,_⟩,_⟩:=h1.now
 obtain ⟨t0,t1,t2,t3⟩:=zfc
 have dr:(digs (1-sqs s).natAbs).length<=1:=yff (by rcases (yms s hg).2.2 with e | e <;> rw [e] <;> decide)
 refine (zaa (phiS lo s) (PR (Zv 1 1) (Zv 1 1)) (PR (Zv 0 1) (Zv ((1:Nat):Int) 1)) (-(1-sqs s)) (1-sqs s) 0 1 M true (yt1 s) (ybm yan yan) B w0 hB pa pr h1 h2 (fun lo2 B w u v hl hB hu hv=>zbg lo s hs lo2 B w u v hl hB hu hv) (fun B w u hB hu=>yw8 lo s hs B w u hB hu) (fun lo2 B w u hl hB hu=>zbh lo2 B w u hl hB hu) (by rw [Int.natAbs_neg]; exact dr) dr (yff (by decide)) (fun k hk=>zg7 hk hM) (by omega) hM).imp ?_ ?_ ?_
 ·rintro m x W ⟨h,ha,hb⟩
  refine ⟨h,?_⟩
  rcases ysv s hg hs with ⟨e1,e2⟩ | ⟨e1,e2⟩ <;> rw [e2] <;> rw [e1] at ha hb <;> simp <;> omega
 ·rintro xs ⟨e,hin,hout⟩
  rcases ysv s hg hs with ⟨e1,e2⟩ | ⟨e1,e2⟩ <;> rw [e2] <;> rw [e1] at hin hout
  ·have hl:xs.length=3:=by
    by_cases c0:xs.length=0
    ·rw [c0,t0] at hout; omega
    ·by_cases c1:xs.length=1
     ·rw [c1,t1] at hout; omega
     ·by_cases c2:xs.length=2
      ·rw [c2,t2] at hout; omega
      ·by_cases c3:xs.length=3
       ·exact c3
       ·have:=hin 3 (by omega); rw [t3] at this; omega
   rw [e,hl]
   decide
  ·have hl:xs.length=1:=by
    by_cases c0:xs.length=0
    ·rw [c0,t0] at hout; omega
    ·by_cases c1:xs.length=1
     ·exact c1
     ·have:=hin 1 (by omega); rw [t1] at this; omega
   rw [e,hl]
   decide
 ·rintro xs ⟨e,hin⟩
  rcases ysv s hg hs with ⟨e1,e2⟩ | ⟨e1,e2⟩ <;> rw [e2] <;> rw [e1] at hin
  ·have hl:xs.length<=3:=by
    by_cases c:3 < xs.length
    ·have:=hin 3 c; rw [t3] at this; omega
    ·omega
   rw [e,show ([0,1,-1]:List Int)=(List.range 3).map (zgN 0 true) by decide]
   exact List.IsPrefix.map _ (by rw [zjh,zjh]; exact ⟨List.range' xs.length (3-xs.length),by have:=@List.range'_append 0 xs.length (3-xs.length) 1; simp at this; rw [this]; congr 1; omega⟩)
  ·have hl:xs.length<=1:=by
    by_cases c:1 < xs.length
    ·have:=hin 1 c; rw [t1] at this; omega
    ·omega
   rw [e,show ([0]:List Int)=(List.range 1).map (zgN 0 true) by decide]
   exact List.IsPrefix.map _ (by rw [zjh,zjh]; exact ⟨List.range' xs.length (1-xs.length),by have:=@List.range'_append 0 xs.length (1-xs.length) 1; simp at this; rw [this]; congr 1; omega⟩)
abbrev TRS:Pr:=TR (Vv 3 TnD 1) (Mv 2 TnL 1) (QV 0 [] 1) (PR (Zv 1 1) (Zv 1 1))
theorem zc9 {w W:World}{φ:Pr}{v:Value}(h:Hs w φ v)(hb:Below w.heap.size w W)(B:Nat->Prop)(hB:∀ k,B k->w.heap.size<=k):Has B W φ v:=fun w' e =>
 h w' ⟨e.os.trans hb.os,e.tape.trans hb.tape,e.output.trans hb.output,zhb hb.size e.size,fun k hk _=>(e.block k (zhe hk hb.size) (fun h=>by have:=hB k h; omega)).trans (hb.block k hk)⟩
theorem yot (w W:World)(u:Value)(h:Hs w TRS u)(hb:Below w.heap.size w W):
  Calls Tryz.prog 61 #[u] W fun e W'=>∃ p q t,e=.returned (.func (.func 113) #[] #[p,q,t])/\Below W.heap.size W W'/\∀ (B:Nat->Prop) (M:Nat),M<=1073741822->(∀ k,B k->k < W.heap.size/\w.heap.size<=k)->SeqE Tryz.prog 113 #[p,q,t] (fun x:NEl=>#[x.v]) (fun _ x _=>1<=x.l.length/\x.l.length<=2) B M (fun xs=>xs.map NEl.l=nds kdS 2 []) (fun xs=>xs.map NEl.l <+: nds kdS 2 []) W':=by
 obtain ⟨U,hU⟩:∃ U:Nat->Prop,U=fun k=>w.heap.size<=k/\k < W.heap.size:=⟨_,rfl⟩
 have hU1:∀ k,U k->k < W.heap.size:=fun k h=>by rw [hU] at h; exact h.2
 have hU2:∀ k,U k->w.heap.size<=k:=fun k h=>by rw [hU] at h; exact h.1
 have ht:=zc9 h hb U hU2
 refine (zga U W.heap.size W u 3 2 0 1 4194305 TnD TnL [] 1 1 hU1 (zha _) (Has.mono' (yrp ht) (fun k h=>h.elim)) (by omega) (by omega) (by omega) (by omega) rfl rfl rfl (fun i hi=>nomatch hi) (by decide) (Or.inl rfl) (by omega) (by omega) (by omega) rfl (by decide) (by decide)).mono ?_
 rintro e W' ⟨r,rfl,hbW,hr⟩
 obtain ⟨p,q,t,rfl,h1,h2,h3⟩:=yxx hr
 refine ⟨p,q,t,rfl,hbW,fun B M hM hB=>?_⟩
 have k1:Has U W' (AtE 8 (phiS W.heap.size [])) p:=fun w1 e1=>by
  obtain ⟨b,o,v,e,a1,a2,a3⟩:=h1 w1 e1
  exact ⟨b,o,v,e,a1,a2,⟨by decide,zhb hbW.size e1.size⟩,a3⟩
 exact (below1 2 1 1073741822 kdS (fun s z=>z ∈ kdS s) (phiS W.heap.size) (PR (Zv 1 1) (Zv 1 1)) yt1 (ybm yan yan) (by omega) (fun s hs M B w0 pa pr hM hB h1 h2=>zbe _ s hs M B w0 pa pr hM hB h1 h2) (fun s hs w u h=>zbf _ s hs w u h) (fun s z hs hz B w u v hB hu hv=>zbd _ s z hs hz B w u v hB hu hv) 2 [] rfl (by omega) B U W' p q t M hM (fun k h=>by rw [hU]; exact ⟨(hB k h).2,(hB k h).1⟩) (fun k h=>zhe (hU1 k h) hbW.size) k1 h2 h3).imp (fun m x W h=>h.2) (fun xs h=>h) (fun xs h=>h)
theorem yrn:(nds kdS 2 []).length=8/\cntL 1 (nds kdS 2 [])=3/\cntL 2 (nds kdS 2 [])=5:=by decide
theorem yos (w:World)(u:Value)(h:Hs w TRS u):CG 30 #[u,.int .i64 100] w (THREE (LF 1 2 [IS (.int .i64 3),IS (.int .i64 5)]) (IS (.bool true)) (IS (.int .i64 0))):=by
 obtain ⟨x,y,t,a,b,c,d,rfl,ho,_,hy,_,_⟩:=id h.now
 obtain ⟨pl,cl,rfl⟩:=yh7 _ _ hy
 simp at ho
 obtain ⟨l1,l2,l3⟩:=yrn
 refine (count2 1073741822 100 (by omega) (by omega) (nds kdS 2 []) (by omega) x x t a b c d pl cl (fun _ x _=>1<=x.l.length/\x.l.length<=2) 2 rfl (fun m x w h=>h) (fun lo m x W W' h _=>h) w ho.1 ho.2.2.1 ho.2.2.2.1 ho.2.2.2.2.1 ho.2.2.2.2.2.1 ho.2.2.2.2.2.2 (fun W hW=>?_) (fun W hW=>yot w W _ h hW)).mono ?_
 ·refine (zgl W _ 3 2 0 1 TnD TnL [] 1 1 (zc9 h hW _ (fun k h=>h.elim)) (by omega) (by omega) (by omega) (by omega) rfl rfl rfl zbo 100 (by omega) (by omega)).mono ?_
  rintro e W' ⟨v,rfl,hb,rfl⟩
  exact ⟨rfl,hb⟩
 ·rintro e w' ⟨g,rfl,hg,hb,c1,c2⟩
  rw [l2] at c1
  rw [l3] at c2
  refine ⟨_,rfl,hb,_,_,_,rfl,⟨⟨some ⟨g,0,none⟩,2,rfl,rfl,⟨zha _,by unfold maxLen; omega,fun e=>nomatch e⟩,fun i φ hφ=>?_⟩,?_⟩,rfl,rfl⟩
  ·match i,hφ with
   | 0,hφ =>
    simp at hφ
    subst hφ
    exact ⟨g,0,.int .i64 3,rfl,fun j x hx=>by
     match j,hx with
     | 0,hx=>cases hx; exact c1
     | j+1,hx=>simp [Value.cells] at hx,rfl,rfl⟩
   | 1,hφ =>
    simp at hφ
    subst hφ
    exact ⟨g,0,.int .i64 5,rfl,fun j x hx=>by
     match j,hx with
     | 0,hx=>cases hx; exact c2
     | j+1,hx=>simp [Value.cells] at hx,rfl,rfl⟩
   | i+2,hφ=>simp at hφ
  ·intro b o n c e
   cases e
   exact hg
end Go.Proofs.YtdnindaohpdblaaGreat
