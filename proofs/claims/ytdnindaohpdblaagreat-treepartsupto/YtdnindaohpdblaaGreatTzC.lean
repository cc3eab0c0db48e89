import Derived.Test.YtdnindaohpdblaaGreatTzA
import Derived.Test.YtdnindaohpdblaaGreatTzB
import Derived.Test.YtdnindaohpdblaaGreatAmE
set_option linter.all false
namespace Go.Proofs.YtdnindaohpdblaaGreat
open Go Go.RowKit Nt
set_option maxRecDepth 20000
set_option maxHeartbeats 16000000
structure KEl where
 z:Int
 s:Bool
 p:Option Addr
 n:Nat
 c:Nat
def KEl.v (x:KEl):Value:=.agg #[.bool x.s,.slice x.p x.n x.c]
theorem zda {z:Int}{lo:Nat}{v:Value}{w:World}(h:ZN z lo v w):∃ x:KEl,x.z=z/\x.v=v:=by
 obtain ⟨r,c,rfl,_⟩:=h
 exact ⟨⟨z,_,_,_,_⟩,rfl,rfl⟩
def FB (T:TypeId)(ψ:Nat->Pr)(lo:Nat):Pr:=fun v w=>∃ b u,v=.pointer (some ⟨b,0,none⟩)/\lo<=b/\w.heap[b]? = some (.cells u.cells T (0,0))/\ψ lo u w
theorem ydb {T:TypeId}{ψ:Nat->Pr}(h:Fresh ψ):Fresh (FB T ψ):=
  ⟨fun lo lo' v w hl ⟨b,u,e,hb,hc,hp⟩=>⟨b,u,e,zhb hl hb,hc,h.mono _ _ _ _ hl hp⟩,
   fun lo v w w' B hB ⟨b,u,e,hb,hc,hp⟩ ev=>⟨b,u,e,hb,(ev.block b (zhf.1 hc).1 (fun k=>by have:=hB b k; omega)).trans hc,h.ev _ _ _ _ B hB hp ev⟩⟩
theorem yq6 {T:TypeId}{ψ:Nat->Pr}{lo sz:Nat}{φ:Pr}(hi:∀ v w,ψ lo v w->φ v w)(hs:Shp sz φ):∀ v w,FB T ψ lo v w->AtE sz φ v w:=fun v w ⟨b,u,e,_,hc,hp⟩=>by
 obtain ⟨cs,e2,h1,_⟩:=hs _ _ (hi _ _ hp)
 refine ⟨b,0,u,e,fun j x hx=>?_,by rw [e2]; exact h1,hi _ _ hp⟩
 rw [zig,ybl hc]
 exact hx
theorem yqf {w W:World}{n:Nat}{bx:Bxs}{sl:List (Tmp × Pr)}{B:Nat->Prop}{a:Act}(S:Sta w n bx sl B a W){t:Tmp}{T:TypeId}{ψ:Nat->Pr}(k:Nat)(hk:bx[k]? = some (t,.box T (ψ w.heap.size))):FB T ψ w.heap.size (a.eval (.tmp t)) W:=by
 obtain ⟨b,u,e,hB,h,hφ⟩:=S.box _ (zhl hk)
 exact ⟨b,u,e,(S.bnd b hB).1,h,hφ.now⟩
theorem Fresh.has {ψ:Nat->Pr}(h:Fresh ψ){lo:Nat}{B:Nat->Prop}(hB:∀ k,B k->k < lo){v:Value}{w:World}(hp:ψ lo v w):Has B w (ψ lo) v:=fun w' e=>h.ev _ _ _ _ B hB hp e
theorem ya4 {w W:World}{n:Nat}{bx:Bxs}{sl:List (Tmp × Pr)}{B:Nat->Prop}{a:Act}(S:Sta w n bx sl B a W){t:Tmp}{φ:Pr}(k:Nat)(hk:sl[k]? = some (t,φ)):φ (a.eval (.tmp t)) W:=(S.slt _ (zhl hk)).now
theorem ycw {a:Act}{d t:Tmp}{v:Value}(h:d≠t):(a.put (some d) v).eval (.tmp t)=a.eval (.tmp t):=Act.eval_put (fun d' hd=>by cases hd; intro e; cases e; exact h rfl)
theorem yce {a:Act}{d:Tmp}{v:Value}(h:d < a.tmps.size):(a.put (some d) v).eval (.tmp d)=v:=by simp [Act.eval,Act.put,h]
theorem ydy {F:Fence}{k:Nat}{P:Program}{ops:Array Oper}{Q:Exit->Act->World->Prop}{i:Nat}{rest:List Nat}{a:Act}{w:World}{o:Oper}(ho:ops[i]? = some o)(hw:Region.wanted o (yielded ops a.tmps)=true)(h:o.wpIn F k P a w (wpOpsIn F k P ops Q rest) Q):wpOpsIn F k P ops Q (i :: rest) a w:=by
 simp only [wpOpsIn,ho,if_pos hw]
 exact h
theorem ydg {o:Oper}{y:Nat->Option Bool}(h:o.guard=none):Region.wanted o y=true:=by unfold Region.wanted; rw [h]
theorem yjw {o:Oper}{ops:Array Oper}{a:Act}{j:Nat}{b:Bool}{d:Tmp}(h:o.guard=some (j,b))(hd:(ops[j]?).bind (·.dst)=some d)(hs:d < a.tmps.size)(he:a.eval (.tmp d)=.bool b):Region.wanted o (yielded ops a.tmps)=true:=by
 have e:a.tmps[d]? = some (.bool b):=by
  have:=he
  simp only [Act.eval,zkr] at this
  rw [zh4 hs] at this ⊢
  simpa using this
 unfold Region.wanted
 rw [h]
 show (yielded ops a.tmps j == some b)=true
 unfold yielded
 rw [hd]
 simp [e]
theorem yvb {F:Fence}(hF:Open F){P:Program}{k:Nat}{o:Oper}{a:Act}{w:World}{next:Act->World->Prop}{Q:Exit->Act->World->Prop}{v:Value}(hd:∀ c,o.op ≠ .defer c)(hr:(execOp a.eval o).run P w=.ok (.value v) w)(h:next (a.put o.dst v) w):o.wpIn F k P a w next Q:=by
 refine yyl hF hd ?_
 unfold Oper.wp
 rw [hr]
 exact h
theorem yw3 {P:Program}(ρ:Operand->Value)(o:Oper)(c x y:Operand)(w:World)(b:Bool)(h:ρ c=.bool b):(execOp ρ { o with op:=.pick c x y }).run P w=.ok (.value (if b then ρ x else ρ y)) w:=by
 unfold execOp
 cases b <;> simp [go_sem,h]
theorem ykh {F:Fence}(hF:Open F){k:Nat}{o:Oper}{a:Act}{w:World}{next:Act->World->Prop}{Q:Exit->Act->World->Prop}{x:Operand}{b:Bool}(hop:o.op=.unOp .not 4 x)(hb:a.eval x=.bool b)(h:next (a.put o.dst (.bool !b)) w):o.wpIn F k Tryz.prog a w next Q:=
 yvb hF (fun c e=>by rw [hop] at e; cases e) (by
  have:=yuv a.eval o x w b hb
  rw [← hop] at this
  exact this) h
theorem yt2 {F:Fence}(hF:Open F){k:Nat}{o:Oper}{a:Act}{w:World}{next:Act->World->Prop}{Q:Exit->Act->World->Prop}{c x y:Operand}{b:Bool}(hop:o.op=.pick c x y)(hb:a.eval c=.bool b)(h:next (a.put o.dst (if b then a.eval x else a.eval y)) w):o.wpIn F k Tryz.prog a w next Q:=
 yvb hF (fun c e=>by rw [hop] at e; cases e) (by
  have:=yw3 (P:=Tryz.prog) a.eval o c x y w b hb
  rw [← hop] at this
  exact this) h
theorem ydz {B:Nat->Prop}{w:World}{u v:Value}(h:v=u):Has B w (Is u) v:=fun _ _=>h
theorem yho {w:World}{a:Act}:∀ x ∈ ([]:List (Tmp × Pr)),Has (fun _=>False) w x.2 (a.eval (.tmp x.1)):=fun _ h=>nomatch h
theorem ybh {w:World}{a:Act}{t:Tmp}{φ:Pr}{sl:List (Tmp × Pr)}(h:Has (fun _=>False) w φ (a.eval (.tmp t)))(r:∀ x ∈ sl,Has (fun _=>False) w x.2 (a.eval (.tmp x.1))):∀ x ∈ ((t,φ) :: sl),Has (fun _=>False) w x.2 (a.eval (.tmp x.1)):=fun x hx=>by
 rcases zj3.1 hx with rfl | hx
 ·exact h
 ·exact r x hx
theorem fresh_zn' {z:Int}:Fresh (ZN z):=yah _
theorem zfd {N:Int}{K lo:Nat}{up:Bool}(d:(digs N.natAbs).length<=K):∀ v w,ZGN (ZN N) (IS (.bool up)) lo v w->ZG (Zv N K) (Is (.bool up)) v w:=yy2 fun k p' hk=>by
 match k,hk with
 | 0,hk=>simp at hk; subst hk; exact ⟨_,rfl,ybf d⟩
 | 1,hk=>simp at hk; subst hk; exact ⟨_,rfl,fun _ _ h=>h⟩
theorem zat (w:World)(u v:Value)(N:Int)(K:Nat)(up:Bool)(k:Nat)(h:Hs w (ZG (Zv N K) (Is (.bool up))) u)(hv:Hs w (iV ((k:Nat):Int)) v)(hK:K<=536870912)(hk:k<=1073741824):CG 28 #[u,v] w (ZN (zgN N up k)):=by
 obtain rfl:v=_:=hv.now
 rcases Nat.mod_two_eq_zero_or_one k with ho | ho <;> cases up
 ·rw [show zgN N false k=N+((k / 2+k % 2:Nat):Int) by simp [zgN,ho]]
  exact ze9 w u N K false k h hK hk ho rfl
 ·rw [show zgN N true k=N-((k / 2+k % 2:Nat):Int) by simp [zgN,ho]]
  exact ze8 w u N K true k h hK hk ho rfl
 ·rw [show zgN N false k=N-((k / 2+k % 2:Nat):Int) by simp [zgN,ho]]
  exact zfa w u N K false k h hK hk ho rfl
 ·rw [show zgN N true k=N+((k / 2+k % 2:Nat):Int) by simp [zgN,ho]]
  exact zfb w u N K true k h hK hk ho rfl
theorem keep3 {a:Act}{d1 d2 d3:Tmp}{v1 v2 v3:Value}{P:Act->Prop}(h:∀ a9:Act,a9.tmps.size=a.tmps.size->a9.defers=a.defers->(∀ t,t≠d1->t≠d2->t≠d3->a9.eval (.tmp t)=a.eval (.tmp t))->P a9):P (((a.put (some d1) v1).put (some d2) v2).put (some d3) v3):=
 h _ (by simp [yc7]) (by simp [yg6]) (fun t h1 h2 h3=>by rw [ycw (Ne.symm h3),ycw (Ne.symm h2),ycw (Ne.symm h1)])
theorem keep2 {a:Act}{d1 d2:Tmp}{v1 v2:Value}{P:Act->Prop}(h:∀ a9:Act,a9.tmps.size=a.tmps.size->a9.defers=a.defers->(∀ t,t≠d1->t≠d2->a9.eval (.tmp t)=a.eval (.tmp t))->P a9):P ((a.put (some d1) v1).put (some d2) v2):=
 h _ (by simp [yc7]) (by simp [yg6]) (fun t h1 h2=>by rw [ycw (Ne.symm h2),ycw (Ne.symm h1)])
theorem ypk {N:Int}{up:Bool}{pre:List KEl}{x:KEl}(h:pre.map KEl.z=(List.range pre.length).map (zgN N up))(hx:x.z=zgN N up pre.length):(pre ++ [x]).map KEl.z=(List.range (pre ++ [x]).length).map (zgN N up):=by
 rw [zhx,zj6,List.range_succ,ziy,ziy,h]
 simp [hx]
theorem yyc {N a b:Int}{up:Bool}{pre:List KEl}{x:KEl}(h:∀ j,j < pre.length->(a<=zgN N up j/\zgN N up j<=b))(hx:a<=zgN N up pre.length/\zgN N up pre.length<=b):∀ j,j < (pre ++ [x]).length->(a<=zgN N up j/\zgN N up j<=b):=fun j hj=>by
 rw [zhx,zj6] at hj
 by_cases e:j=pre.length
 ·subst e; exact hx
 ·exact h j (by omega)
theorem zaa (φ ψ χ:Pr)(a b N:Int)(K M:Nat)(up:Bool)(hφ:Shp 8 φ)(hψ:Shp 4 ψ)(Bc:Nat->Prop)(w0:World)(hBc:∀ k,Bc k->k < w0.heap.size)(pa pr:Value)(h1:Has Bc w0 (AtE 8 φ) pa)(h2:Has Bc w0 (AtE 4 ψ) pr)
  (cW:∀ (lo:Nat) (B:Nat->Prop) (w:World) (u v:Value),lo<=w.heap.size->(∀ k,B k->k < w.heap.size)->Has B w φ u->Has B w ψ v->Calls Tryz.prog 125 #[u,v] w fun e w'=>∃ r,e=.returned r/\Below w.heap.size w w'/\Has B w' ((THREE (ZN (a)) (ZN (b)) (IS (.bool true))) lo) r)
  (cC:∀ (B:Nat->Prop) (w:World) (u:Value),(∀ k,B k->k < w.heap.size)->Has B w φ u->Calls Tryz.prog 39 #[u] w fun e w'=>∃ r,e=.returned r/\Below w.heap.size w w'/\Has B w' χ r)
  (cZ:∀ (lo:Nat) (B:Nat->Prop) (w:World) (u:Value),lo<=w.heap.size->(∀ k,B k->k < w.heap.size)->Has B w χ u->Calls Tryz.prog 27 #[u] w fun e w'=>∃ r,e=.returned r/\Below w.heap.size w w'/\Has B w' (ZGN (ZN N) (IS (.bool up)) lo) r)
  (da:(digs a.natAbs).length<=K) (db:(digs b.natAbs).length<=K) (dN:(digs N.natAbs).length<=K) (dx:∀ k,k<=M->(digs (zgN N up k).natAbs).length<=K) (hK:K<=536870912) (hM':M<=1073741822):
  SeqE Tryz.prog 124 #[pa,pr] (fun x:KEl=>#[x.v]) (fun m x w=>Has (fun k=>k < m) w (Zv x.z K) x.v/\a<=x.z/\x.z<=b) Bc M (fun xs=>xs.map KEl.z=(List.range xs.length).map (zgN N up)/\(∀ j,j < xs.length->(a<=zgN N up j/\zgN N up j<=b))/\¬ (a<=zgN N up xs.length/\zgN N up xs.length<=b)) (fun xs=>xs.map KEl.z=(List.range xs.length).map (zgN N up)/\(∀ j,j < xs.length->(a<=zgN N up j/\zgN N up j<=b))) w0:=by
 intro l J Jx w hw hJ hJx hM hY h0
 have hlo:w0.heap.size<=w.heap.size:=hw.size
 have hBw:∀ k,Bc k->k < w.heap.size:=fun k h=>zhe (hBc k h) hlo
 have g1:Has (fun _=>False) w (AtE 8 φ) pa:=Has.mono' (h1.go hw (fun k _ h=>h)) (fun k h=>h.elim)
 have g2:Has (fun _=>False) w (AtE 4 ψ) pr:=Has.mono' (h2.go hw (fun k _ h=>h)) (fun k h=>h.elim)
 refine yak (sl:=[(0,Is (.func (.yield l) #[] #[])),(1,AtE 8 φ),(2,AtE 4 ψ)]) Tryz.func124 rfl Tryz.ntmps124 (by simp) (yae rfl (ycy _) (yae rfl g1 (yae rfl g2 yao))) ?_
 intro a0 S0
 refine wq [.val φ,.val ψ,Fw (THREE (ZN (a)) (ZN (b)) (IS (.bool true))) w,Fw (THREE (ZN (a)) (ZN (b)) (IS (.bool true))) w,Fw (ZN (a)) w,Fw (ZN (b)) w,kT,.new (.box 24 zI),.new (.box 24 zI),.put (.inr 7) (.box 24 ((ZN (a)) w.heap.size)),.put (.inr 8) (.box 24 ((ZN (b)) w.heap.size)),kT] [.inl 7,.inl 8] (.inl 11 :: ur2) S0 ?_ ?_
 ·exact ⟨⟨⟨⟨jj8 (alC wA yfd hφ (oS 1 1)) (alC wA yc6 hψ (oS 2 2)) (yda rfl wA rfl (oO 0 11) (oO 1 12) rfl (fun args w=>by go_simp) (fun B w2 u v hlo hB hu hv=>cW _ B w2 u v hlo hB hu hv)) (mO 2 13) (e30 wA (oO 3 10)) (e31 wA (oO 3 10)) (e32 wA (oO 3 10)) (nwA wA yar),nwA wA yar⟩,puA 7 wA (oO 4 14) yad ya9 yai⟩,puA 8 wA (oO 5 15) yad ya9 yai⟩,mO 6 16⟩
 intro B1 a1 W1 (S1:Zt [_,_] [_,_,_])
 refine wp_seq ?_
 refine wq [kT,kF] ur2 [.inl 1,.inr 1,.inr 2] S1 ?_ ?_
 ·exact jj2 (mS 0 6) (ycc wA (oO 0 17))
 intro B2 a2 W2 (S2:Zt [_,_] [_,_,_])
 refine wp_cond_false (S2.bool 0 18 rfl) (wp_skip (thenN ?_))
 refine wq [.val φ,.val χ,V (ZG ((ZN (N)) w.heap.size) (Is (.bool up))),.new (.box 60 (Is (.agg #[.bool false,.slice none 0 0,.bool false]))),.put (.inr 3) (.box 60 (ZG ((ZN (N)) w.heap.size) (Is (.bool up))))] [.inr 0,.inr 1,.inl 3] ur3 S2 ?_ ?_
 ·exact jj5 (alC wA yfd hφ (oS 2 1)) (yfg rfl wA rfl (oO 0 19) rfl (fun args w=>by go_simp) (fun B w2 u _ hB hu=>cC B w2 u hB hu)) (yfg rfl wA rfl (oO 1 20) rfl (fun args w=>by go_simp) (fun B w2 u hlo hB hu=>cZ _ B w2 u hlo hB hu)) (nwA wA yoz) (puA 3 wA (oO 2 21) yir yuw yby)
 intro _ a3 _ (S3:Zt [_,_,_] [_,_,_])
 refine wq [V (iV 0)] ur3 (.inl 0 :: ur3) S3 ?_ ?_
 ·exact jj1 mC
 intro _ a4 _ (S4:Zt [_,_,_] [_,_,_,_])
 have f4:=yqf (ψ:=ZN a) S4 0 rfl; have f5:=yqf (ψ:=ZN b) S4 1 rfl; have f7:=yqf (ψ:=ZGN (ZN N) (IS (.bool up))) S4 2 rfl
 have f0:=ya4 S4 2 rfl; have f8:=ya4 S4 0 rfl
 refine wp_block ?_
 refine ybi (fun (pre:List KEl) (a1:Act) (W:World)=>(a1.tmps.size=43/\a1.defers=[]/\a1.eval (.tmp 0)=.func (.yield l) #[] #[]/\a1.eval (.tmp 8)=.int .i64 ((pre.length:Nat):Int))/\(FB 24 (ZN a) w.heap.size (a1.eval (.tmp 4)) W/\FB 24 (ZN b) w.heap.size (a1.eval (.tmp 5)) W/\FB 60 (ZGN (ZN N) (IS (.bool up))) w.heap.size (a1.eval (.tmp 7)) W)/\w.heap.size<=W.heap.size/\J pre W/\pre.map KEl.z=(List.range pre.length).map (zgN N up)/\∀ j,j < pre.length->(a<=zgN N up j/\zgN N up j<=b)) (fun pre=>M+1-pre.length) ?_ [] ⟨⟨S4.siz,S4.dfr,f0,f8⟩,⟨f4,f5,f7⟩,S4.ent.size,hJ _ _ _ h0 (Nw.of_below S4.ent),rfl,fun j hj=>nomatch hj⟩
 clear f4 f5 f7 f0 f8
 rintro pre a1 W0 ⟨⟨z1,z2,z3,z4⟩,⟨f4,f5,f7⟩,hl0,hj0,hmap,hin⟩
 have hpl:=hM _ _ hj0
 have dX:=dx pre.length hpl
 have S0:Sta W0 43 [] [(0,(Is (.func (.yield l) #[] #[]))),(4,(FB 24 (ZN a) w.heap.size)),(5,(FB 24 (ZN b) w.heap.size)),(7,(FB 60 (ZGN (ZN N) (IS (.bool up))) w.heap.size)),(8,(iV ((pre.length:Nat):Int)))] (fun _=>False) a1 W0:=ydr z1 z2 (ybh (ydz z3) (ybh ((ydb fresh_zn').has (fun k (h:False)=>h.elim) f4) (ybh ((ydb fresh_zn').has (fun k (h:False)=>h.elim) f5) (ybh ((ydb (yik fresh_zn' (yab _))).has (fun k (h:False)=>h.elim) f7) (ybh (ydz z4) yho)))))
 obtain ⟨a0,ea⟩:∃ x,x=a1:=⟨_,rfl⟩
 rw [← ea] at S0 ⊢
 refine wp_seq (wp_block ?_)
 refine wq [V (ZG (Zv N K) (Is (.bool up))),V (iV ((pre.length:Nat):Int)),V ((ZN (zgN N up pre.length)) W0.heap.size),.new (.box 24 zI),.put (.inr 3) (.box 24 ((ZN (zgN N up pre.length)) W0.heap.size))] [.inl 3] ur5 S0 ?_ ?_
 ·exact jj5 (alC wA zab yby ((oS 3 7).imp (yq6 (zfd dN) yby))) (mS 4 8) (ch2 wA (qO 0 24 rfl) (qO 1 25 rfl) (yah _) (fun w u v h1 h2=>zat w u v N K up pre.length h1 h2 hK (by omega))) (nwA wA yar) (puA 3 wA (oO 2 26) yad ya9 yai)
 intro B1 a1 W1 (S1:Sta W0 43 [(9,(.box 24 ((ZN (zgN N up pre.length)) W0.heap.size)))] [(0,(Is (.func (.yield l) #[] #[]))),(4,(FB 24 (ZN a) w.heap.size)),(5,(FB 24 (ZN b) w.heap.size)),(7,(FB 60 (ZGN (ZN N) (IS (.bool up))) w.heap.size)),(8,(iV ((pre.length:Nat):Int)))] _ _ _)
 by_cases hA:zgN N up pre.length < a
 ·refine yg7 [.val ((ZN (zgN N up pre.length)) W0.heap.size),
   .val (Zv a K),
   .val (iV (((zgN N up pre.length)-a).sign)),
   kT,
   kT,
   .off,
   .off,
   .off,
   .off,
   kT,
   kT,
   .off,
   .off,
   .off,
   .off,
   kT] [.inr 0] [.inl 15,.inr 1,.inr 2,.inr 3,.inr 4] follows S1 rfl (by kernel_rfl) ?_ ?_
  ·exact ⟨⟨⟨⟨⟨⟨⟨⟨jj8 (loA 0 wA yad yai) (alC wA yba yan ((oS 1 4).imp (yq6 (ybf da) yan))) (cc2 wA (qO 0 27 rfl) (qO 1 28 rfl) (yab _) (fun w u v h1 h2=>yhh (by omega) (by omega) w u v ((ybf dX) _ _ h1) ((fun _ _ h=>h) _ _ h2))) (ya8 wA (oO 2 29) (yaa _) (h:=by rw [zii (by omega)]; decide)) (mO 3 30) (oF 4 31) (oF 4 31) (oF 4 31),oF 4 31⟩,pT wA (oO 4 31) (yaa _)⟩,mO 9 36⟩,oF 10 37⟩,oF 10 37⟩,oF 10 37⟩,oF 10 37⟩,pT wA (oO 10 37) (yaa _)⟩
  intro B2 a2 W2 (S2:Sta W0 43 [(9,(.box 24 ((ZN (zgN N up pre.length)) W0.heap.size)))] [(42,bT),(4,(FB 24 (ZN a) w.heap.size)),(5,(FB 24 (ZN b) w.heap.size)),(7,(FB 60 (ZGN (ZN N) (IS (.bool up))) w.heap.size)),(8,(iV ((pre.length:Nat):Int)))] _ _ _)
  refine wp_cond_true (S2.bool 0 42 rfl) (wp_ret ?_)
  refine inBlkR (thenR (thenR (inBlkR ?_)))
  refine bodyPost_ret (results_none rfl _ _ _) S2.dfr ⟨⟨_,rfl⟩,.inl ⟨pre,⟨hmap,hin,fun h=>by omega⟩,hJ _ _ _ hj0 (Nw.of_below S2.ent |>.mono hl0)⟩⟩
 by_cases hB:b < zgN N up pre.length
 ·refine yg7 [.val ((ZN (zgN N up pre.length)) W0.heap.size),
   .val (Zv a K),
   .val (iV (((zgN N up pre.length)-a).sign)),
   kF,
   kF,
   .val ((ZN (zgN N up pre.length)) W0.heap.size),
   .val (Zv b K),
   .val (iV (((zgN N up pre.length)-b).sign)),
   kT,
   kT,
   kT,
   .off,
   .off,
   .off,
   .off,
   kT] [.inr 0] [.inl 15,.inr 1,.inr 2,.inr 3,.inr 4] follows S1 rfl (by kernel_rfl) ?_ ?_
  ·exact ⟨⟨⟨⟨⟨⟨⟨⟨jj8 (loA 0 wA yad yai) (alC wA yba yan ((oS 1 4).imp (yq6 (ybf da) yan))) (cc2 wA (qO 0 27 rfl) (qO 1 28 rfl) (yab _) (fun w u v h1 h2=>yhh (by omega) (by omega) w u v ((ybf dX) _ _ h1) ((fun _ _ h=>h) _ _ h2))) (ybc wA (oO 2 29) (yaa _) (h:=yjs (by omega))) (mO 3 30) (loA 0 (wI 4 31) yad yai) (alC (wI 4 31) yba yan ((oS 2 5).imp (yq6 (ybf db) yan))) (cc2 (wI 4 31) (qO 5 32 rfl) (qO 6 33 rfl) (yab _) (fun w u v h1 h2=>yhh (by omega) (by omega) w u v ((ybf dX) _ _ h1) ((fun _ _ h=>h) _ _ h2))),yd3 (wI 4 31) (oO 7 34) (yaa _) (h:=by rw [zh7 (by omega)]; decide)⟩,pF wA (oO 4 31) (oO 8 35)⟩,mO 9 36⟩,oF 10 37⟩,oF 10 37⟩,oF 10 37⟩,oF 10 37⟩,pT wA (oO 10 37) (yaa _)⟩
  intro B2 a2 W2 (S2:Sta W0 43 [(9,(.box 24 ((ZN (zgN N up pre.length)) W0.heap.size)))] [(42,bT),(4,(FB 24 (ZN a) w.heap.size)),(5,(FB 24 (ZN b) w.heap.size)),(7,(FB 60 (ZGN (ZN N) (IS (.bool up))) w.heap.size)),(8,(iV ((pre.length:Nat):Int)))] _ _ _)
  refine wp_cond_true (S2.bool 0 42 rfl) (wp_ret ?_)
  refine inBlkR (thenR (thenR (inBlkR ?_)))
  refine bodyPost_ret (results_none rfl _ _ _) S2.dfr ⟨⟨_,rfl⟩,.inl ⟨pre,⟨hmap,hin,fun h=>by omega⟩,hJ _ _ _ hj0 (Nw.of_below S2.ent |>.mono hl0)⟩⟩
 refine wp_seq ((wpIn_wide (n:=0)).1 ?_)
 refine yvf (.inl rfl) (l1:=[_,_,_,_,_,_,_,_,_,_,_,_,_]) (l2:=[_,_,_]) [.val ((ZN (zgN N up pre.length)) W0.heap.size),
   .val (Zv a K),
   .val (iV (((zgN N up pre.length)-a).sign)),
   kF,
   kF,
   .val ((ZN (zgN N up pre.length)) W0.heap.size),
   .val (Zv b K),
   .val (iV (((zgN N up pre.length)-b).sign)),
   kF,
   kF,
   kF,
   .val (Is (.func (.yield l) #[] #[])),
   .val ((ZN (zgN N up pre.length)) W0.heap.size)] [.inr 0] [.inl 10,.inl 11,.inl 12,.inr 0,.inr 1,.inr 2,.inr 3,.inr 4] S1 rfl (by kernel_rfl) (by kernel_rfl) (fun _ _ h=>by obtain ⟨⟨_,e⟩,_⟩:=h; cases e) ?_ ?_
 ·exact ⟨⟨⟨⟨⟨jj8 (loA 0 wA yad yai) (alC wA yba yan ((oS 1 4).imp (yq6 (ybf da) yan))) (cc2 wA (qO 0 27 rfl) (qO 1 28 rfl) (yab _) (fun w u v h1 h2=>yhh (by omega) (by omega) w u v ((ybf dX) _ _ h1) ((fun _ _ h=>h) _ _ h2))) (ybc wA (oO 2 29) (yaa _) (h:=yjs (by omega))) (mO 3 30) (loA 0 (wI 4 31) yad yai) (alC (wI 4 31) yba yan ((oS 2 5).imp (yq6 (ybf db) yan))) (cc2 (wI 4 31) (qO 5 32 rfl) (qO 6 33 rfl) (yab _) (fun w u v h1 h2=>yhh (by omega) (by omega) w u v ((ybf dX) _ _ h1) ((fun _ _ h=>h) _ _ h2))),ybv (wI 4 31) (oO 7 34) (yaa _) (h:=yel (by omega))⟩,pF wA (oO 4 31) (oO 8 35)⟩,mO 9 36⟩,mW (wI 10 37) (oS 0 0)⟩,loA 0 (wI 10 37) yad yai⟩
 intro B2 a2 W2 (S2:Sta W0 43 [(9,(.box 24 ((ZN (zgN N up pre.length)) W0.heap.size)))] [(37,bF),(38,(Is (.func (.yield l) #[] #[]))),(39,((ZN (zgN N up pre.length)) W0.heap.size)),(0,(Is (.func (.yield l) #[] #[]))),(4,(FB 24 (ZN a) w.heap.size)),(5,(FB 24 (ZN b) w.heap.size)),(7,(FB 60 (ZGN (ZN N) (IS (.bool up))) w.heap.size)),(8,(iV ((pre.length:Nat):Int)))] _ _ _)
 have y0:=ya4 S2 3 rfl; have y4:=ya4 S2 4 rfl; have y5:=ya4 S2 5 rfl; have y7:=ya4 S2 6 rfl; have y8:=ya4 S2 7 rfl; have y37:=ya4 S2 0 rfl; have y38:=ya4 S2 1 rfl; have y39:=ya4 S2 2 rfl
 have hz:=S2.siz; have hd:=S2.dfr; have hen:=S2.ent
 obtain ⟨x,ex,ev⟩:=zda y39
 have hjw:=hJ _ _ _ hj0 (Nw.of_below hen |>.mono hl0)
 have hE:Has (fun k=>k < w.heap.size) W2 (Zv x.z K) x.v/\a<=x.z/\x.z<=b:=by
  rw [ex,ev]
  exact ⟨(fresh_zn'.has (fun k h=>zhe h hl0) y39).imp (fun w h=>ybf dX _ w h),by omega,by omega⟩
 refine ydy rfl (yjw rfl rfl (d:=37) (by rw [hz]; decide) y37) ?_
 refine ymb (.inl rfl) rfl y38 (by simp [ev]) (hY pre x _ hjw hE) ?_
 rintro e W8 (⟨rfl,hj8,hk8⟩ | ⟨rfl,hx8,_⟩)
 ·refine ⟨_,rfl,?_⟩
  change wpOpsIn _ _ _ _ _ _ (a2.put (some 40) _) W8
  refine ydy rfl (yjw rfl rfl (d:=37) (by rw [yc7,hz]; decide) (by rw [ycw (by decide)]; exact y37)) ?_
  refine ykh (.inl rfl) rfl (b:=true) (yce (by rw [hz]; decide)) ?_
  change wpOpsIn _ _ _ _ _ _ ((a2.put (some 40) _).put (some 41) _) W8
  refine ydy rfl (ydg rfl) ?_
  refine yt2 (.inl rfl) rfl (b:=false) (by rw [ycw (by decide),ycw (by decide)]; exact y37) ?_
  refine thenN ?_
  change Code.wp _ _ _ (((a2.put (some 40) _).put (some 41) _).put (some 42) _) W8
  refine wp_cond_false (by rw [if_neg (by decide)]; exact (yce (by rw [yc7,yc7,hz]; decide)).trans (yce (by rw [yc7,hz]; decide))) ?_
  refine wp_skip (inBlkN (thenN ?_))
  refine keep3 (P:=fun x=>Code.wp _ _ _ x W8) (fun a9 k1 k2 k3=>?_)
  have q0:=(k3 0 (by decide) (by decide) (by decide)).trans y0; have q8:=(k3 8 (by decide) (by decide) (by decide)).trans y8
  have x4:=(ydb fresh_zn').ev _ _ _ _ Bc hBw y4 hk8; have x5:=(ydb fresh_zn').ev _ _ _ _ Bc hBw y5 hk8; have x7:=(ydb (yik fresh_zn' (yab _))).ev _ _ _ _ Bc hBw y7 hk8
  rw [← k3 4 (by decide) (by decide) (by decide)] at x4; rw [← k3 5 (by decide) (by decide) (by decide)] at x5; rw [← k3 7 (by decide) (by decide) (by decide)] at x7
  clear S2 y0 y4 y5 y7 y8 y37 y38 y39
  have S9:Sta W8 43 [] [(0,(Is (.func (.yield l) #[] #[]))),(4,(FB 24 (ZN a) w.heap.size)),(5,(FB 24 (ZN b) w.heap.size)),(7,(FB 60 (ZGN (ZN N) (IS (.bool up))) w.heap.size)),(8,(iV ((pre.length:Nat):Int)))] (fun _=>False) a9 W8:=ydr (k1.trans hz) (k2.trans hd) (ybh (ydz q0) (ybh ((ydb fresh_zn').has (fun k (h:False)=>h.elim) x4) (ybh ((ydb fresh_zn').has (fun k (h:False)=>h.elim) x5) (ybh ((ydb (yik fresh_zn' (yab _))).has (fun k (h:False)=>h.elim) x7) (ybh (ydz q8) yho)))))
  refine wr [V (iV ((pre.length:Nat):Int)),V (iV ((pre.length+1:Nat):Int)),V (iV ((pre.length+1:Nat):Int))] [] (.inl 2 :: ur4) S9 ?_ ?_
  ·exact jj3 (mS 4 8) (ya7 wA (oO 0 22) (yaa _)) (mO 1 23)
  intro _ a10 _ (S10:Sta W8 43 [] [(8,(iV ((pre.length+1:Nat):Int))),(0,(Is (.func (.yield l) #[] #[]))),(4,(FB 24 (ZN a) w.heap.size)),(5,(FB 24 (ZN b) w.heap.size)),(7,(FB 60 (ZGN (ZN N) (IS (.bool up))) w.heap.size))] _ _ _)
  refine thenN ?_
  exact ⟨pre ++ [x],⟨⟨S10.siz,S10.dfr,ya4 S10 1 rfl,by rw [zhx]; exact ya4 S10 0 rfl⟩,⟨ya4 S10 2 rfl,ya4 S10 3 rfl,ya4 S10 4 rfl⟩,zhb hl0 (zhb hen.size (zhb hk8.size S10.ent.size)),hJ _ _ _ hj8 (Nw.of_below S10.ent),ypk hmap ex,yyc hin (by omega)⟩,by simp; have:=hM _ _ hj8; simp at this; omega⟩
 ·refine ⟨_,rfl,?_⟩
  change wpOpsIn _ _ _ _ _ _ (a2.put (some 40) _) W8
  refine ydy rfl (yjw rfl rfl (d:=37) (by rw [yc7,hz]; decide) (by rw [ycw (by decide)]; exact y37)) ?_
  refine ykh (.inl rfl) rfl (b:=false) (yce (by rw [hz]; decide)) ?_
  change wpOpsIn _ _ _ _ _ _ ((a2.put (some 40) _).put (some 41) _) W8
  refine ydy rfl (ydg rfl) ?_
  refine yt2 (.inl rfl) rfl (b:=false) (by rw [ycw (by decide),ycw (by decide)]; exact y37) ?_
  refine thenN ?_
  change Code.wp _ _ _ (((a2.put (some 40) _).put (some 41) _).put (some 42) _) W8
  refine wp_cond_true (by rw [if_neg (by decide)]; exact (yce (by rw [yc7,yc7,hz]; decide)).trans (yce (by rw [yc7,hz]; decide))) ?_
  refine wp_ret ?_
  refine inBlkR (thenR (thenR (inBlkR ?_)))
  refine keep3 (P:=fun x=>bodyPost _ _ _ .ret x W8) (fun a9 k1 k2 k3=>?_)
  exact bodyPost_ret (results_none rfl _ _ _) (k2.trans hd) ⟨⟨_,rfl⟩,.inr ⟨pre ++ [x],⟨ypk hmap ex,yyc hin (by omega)⟩,hx8⟩⟩
end Go.Proofs.YtdnindaohpdblaaGreat
