import Derived.Test.YtdnindaohpdblaaGreatAmA
import Derived.Test.YtdnindaohpdblaaGreatJaB
set_option linter.all false
namespace Go.Proofs.YtdnindaohpdblaaGreat
open Go Go.RowKit Nt
set_option maxRecDepth 20000
set_option maxHeartbeats 16000000
theorem yir:Strct 60 3:=⟨⟨_,Tryz.underlying60,rfl⟩,by kernel_rfl⟩
theorem yuw:Shp 3 (Is (.agg #[.bool false,.slice none 0 0,.bool false])):=fun u w h=>⟨_,h,rfl,by simp [Value.oneCell']⟩
theorem yoz (ρ:Operand->Value)(o:Oper)(w:World):(execOp ρ { o with op:=.alloc 60 }).run Tryz.prog w=.ok (.value (.pointer (some ⟨w.heap.size,0,none⟩))) (w.alloc (.cells (Value.agg #[.bool false,.slice none 0 0,.bool false]).cells 60 (0,0))):=by
 unfold execOp
 go_simp
theorem yo2 {φ:Pr}(h:Shp 3 φ)(ρ:Operand->Value)(o:Oper)(x:Operand)(w:World)(hφ:φ (ρ x) w):(execOp ρ { o with op:=.box 60 x }).run Tryz.prog w=.ok (.value (.pointer (some ⟨w.heap.size,0,none⟩))) (w.alloc (.cells (ρ x).cells 60 (0,0))):=by
 obtain ⟨cs,e,h1,h2⟩:=h _ _ hφ
 unfold execOp
 rw [e]
 go_simp
theorem yip (ρ:Operand->Value)(o:Oper)(x:Operand)(w:World)(b f:Nat)(h:ρ x=.pointer (some ⟨b,f,none⟩)):(execOp ρ { o with op:=.fieldAddr 60 x 0 }).run Tryz.prog w=.ok (.value (.pointer (some ⟨b,f,none⟩))) w:=by
 unfold execOp
 go_simp
theorem yiq (ρ:Operand->Value)(o:Oper)(x:Operand)(w:World)(b f:Nat)(h:ρ x=.pointer (some ⟨b,f,none⟩)):(execOp ρ { o with op:=.fieldAddr 60 x 1 }).run Tryz.prog w=.ok (.value (.pointer (some ⟨b,f+2,none⟩))) w:=by
 unfold execOp
 go_simp
theorem ypl:Ldr 4 1:=fun ρ o x w b k u hu hc hx=>by
 obtain ⟨e,h1⟩:=celv1 hu
 have h2:w.cell? ⟨b,k,none⟩=some u:=hc 0 u (by rw [e]; rfl)
 clear hc hu e
 unfold execOp
 go_simp
theorem yfd:Ldr 75 8:=yhi (by decide) ybd
theorem zab:Ldr 60 3:=yhi (by decide) yir
abbrev ZG (pn pu:Pr):Pr:=ST 3 [(0,2,pn),(2,1,pu)]
abbrev ZGN (pn pu:Nat->Pr):Nat->Pr:=STN 3 [(0,2,pn),(2,1,pu)]
theorem yik {pn pu:Nat->Pr}(h1:Fresh pn)(h2:Fresh pu):Fresh (ZGN pn pu):=ypf fun q hq=>by
 simp only [zj3,List.not_mem_nil,or_false] at hq
 rcases hq with rfl | rfl
 ·exact h1
 ·exact h2
theorem all3 {a b c:Value}(h0:a.oneCell'=true)(h1:b.oneCell'=true)(h2:c.oneCell'=true):(#[a,b,c]:Array Value).all (·.oneCell')=true:=by
 simp [h0,h1,h2]
section
variable {ops:Array Oper} {l:List Kd} {bx:Bxs} {sl:List (Tmp × Pr)} {i:Nat} {o:Oper} {Q:Exit->Act->World->Prop} {a0:Act} {n:Nat} {w0:World}
theorem ym4 {x y:Operand}{φ:Pr}{b:Bool}(ho:ops[i]? = some o)(hw:Wants ops l bx sl i o)(hop:o.op=.build 60 #[(0,x),(1,y)])(hx:Opnd ops l bx sl i x φ)(hS:Shp 2 φ)(hy:Opnd ops l bx sl i y (Is (.bool b)))(hk:kdAt l i=.val (ZG φ (Is (.bool b)))):Owed Tryz.prog ops Q l bx sl a0 n w0 i:=
 ycs ho hw hk fun vs B a w c=>by
  have h1:=hx a0 n w0 vs B a w c
  have h2:=hy a0 n w0 vs B a w c
  have e1:a.eval y=.bool b:=h2.now
  obtain ⟨ds,e2,d1,d2⟩:=hS _ _ h1.now
  match ds,d1,e2,d2 with
  | ⟨[z0,z1]⟩,_,e2,d2 =>
   have d3:z0.oneCell'=true/\z1.oneCell'=true:=by simpa using d2
   refine ⟨.agg #[z0,z1,.bool b],?_,fun w' e'=>⟨_,rfl,rfl,all3 d3.1 d3.2 rfl,fun k p hk=>?_⟩⟩
   ·unfold execOp
    rw [hop]
    clear h1 h2 hx hy d2 c
    generalize a.eval=ρ at e1 e2
    obtain ⟨d4,d5⟩:=d3
    go_simp
   ·match k,hk with
    | 0,hk =>
     simp at hk
     subst hk
     have h3:=h1 w' e'
     rw [e2] at h3
     exact h3
    | 1,hk=>simp at hk; subst hk; rfl
end
def zgN (C:Int)(up:Bool)(k:Nat):Int:=if (k % 2 == 1)=up then C+((k / 2+k % 2:Nat):Int) else C-((k / 2+k % 2:Nat):Int)
theorem ytp:(digs 1).length<=1:=ya1 (by decide)
theorem zfb (w:World)(u:Value)(C:Int)(K:Nat)(up:Bool)(k:Nat)(h:Hs w (ZG (Zv C K) (Is (.bool up))) u)(hK:K<=536870912)(hk:k<=1073741824)(ho:k % 2=1)(hu:up=true):
  CG 28 #[u,.int .i64 ((k:Nat):Int)] w (ZN (C+((k / 2+k % 2:Nat):Int))):=by
 have dN:(digs (((k / 2+k % 2:Nat):Int)).natAbs).length<=1:=by
  rw [zhy]
  exact ya1 (by rw [Nat.pow_one]; omega)
 refine yak (sl:=[(0,(ZG (Zv C K) (Is (.bool up)))),(1,(iV ((k:Nat):Int)))]) Tryz.func28 rfl Tryz.ntmps28 (by simp) (yae rfl (h) (yae rfl (ycy _) yao)) ?_
 intro a0 S0
 refine wq [.new (.box 60 (ZG (Zv C K) (Is (.bool up)))),.new (.box 24 zI)] [.inl 0,.inl 1] [.inr 1] S0 ?_ ?_
 ·exact jj2 (bxA wA (oS 0 0) (yo2 yby)) (nwA wA yar)
 intro _ a1 _ (S1:Zt [_,_] [_])
 refine wq [V (iV ((k:Nat):Int)),V (iV ((k / 2:Nat):Int)),V (iV ((k:Nat):Int)),V (iV ((k % 2:Nat):Int)),V (iV ((k / 2+k % 2:Nat):Int)),Fw (ZN (((k / 2+k % 2:Nat):Int))) w,.new (.box 24 zI),.put (.inr 6) (.box 24 ((ZN (((k / 2+k % 2:Nat):Int))) w.heap.size))] [.inr 0,.inr 1,.inl 6] [.inr 0] S1 ?_ ?_
 ·repeat' refine And.intro ?_ ?_
  ·trivial
  ·exact mS 0 1
  ·exact ybt rfl wA rfl (oO 0 7) (yaa _) rfl (fun ρ w h1 h2=>by exact yfx ρ _ _ _ w _ _ _ ⟨by omega,by omega,by omega,by omega⟩ h1 h2)
  ·exact mS 0 1
  ·exact ybt rfl wA rfl (oO 2 9) (yaa _) rfl (fun ρ w h1 h2=>by exact ydp ρ _ _ _ w _ _ _ ⟨by omega,by omega,by omega,by omega⟩ h1 h2)
  ·exact ya7 wA (oO 1 8) (oO 3 10)
  ·exact cc1 wA (qO 4 11 rfl) (yah _) (fun w u h1=>yjz ((k / 2+k % 2:Nat):Int) (by omega) (by omega) w u h1)
  ·exact nwA wA yar
  ·exact puA 6 wA (oO 5 12) yad ya9 yai
 intro _ a2 _ (S2:Zt [_,_,_] [_])
 refine wp_seq ?_
 refine wq [V (iV ((k:Nat):Int)),V (iV ((k % 2:Nat):Int)),kT,kT] ur3 [.inl 3] S2 ?_ ?_
 ·exact jj4 (mS 0 1) (ybt rfl wA rfl (oO 0 13) (yaa _) rfl (fun ρ w h1 h2=>by exact ydp ρ _ _ _ w _ _ _ ⟨by omega,by omega,by omega,by omega⟩ h1 h2)) (ycl wA (oO 1 14) (yaa _)) (mO 2 15)
 intro _ a3 _ (S3:Zt [_,_,_] [_])
 refine wq [kT,V (Part a3 2 2),V (Is (.bool up)),kT] ur3 [.inl 3] S3 ?_ ?_
 ·exact jj4 (mS 0 6) (ptA wA 0 yiq) (plA wA (oO 1 17) 0 rfl rfl (ybg ypl (k:=1) rfl (by decide) (by decide))) (ybt rfl wA rfl (oO 0 16) (oO 2 18) rfl (fun ρ w h1 h2=>by exact (ye1 ρ _ _ _ w true up h1 h2).trans (by rw [hu]; rfl)))
 intro _ a4 _ (S4:Zt [_,_,_] [_])
 refine wp_cond_true (S4.bool 0 19 rfl) ?_
 refine wq [V (Part a4 2 0),V (Zv C K),Fw (ZN (((k / 2+k % 2:Nat):Int))) w,Fw (ZN (C+(((k / 2+k % 2:Nat):Int)))) w,.put (.inl 4) (.box 24 ((ZN (C+(((k / 2+k % 2:Nat):Int)))) w.heap.size))] ur2 [] S4 ?_ ?_
 ·exact jj5 (ptZ wA 0 yip) (plA wA (oO 0 20) 0 rfl rfl (ybg yba (k:=0) rfl (by decide) (by decide))) (loA 2 wA yad yai) (cc2 wA (qO 1 21 rfl) (qO 2 22 rfl) (yah _) (fun w u v h1 h2=>ykb (by omega) (by omega) w u v ((fun _ _ h=>h) _ _ h1) ((ybf dN) _ _ h2))) (seA 1 wA (oO 3 23) yad ya9 yai)
 intro _ a5 _ (S5:Zt [_,_] [])
 refine wp_ret (thenR ?_)
 exact yav S5 rfl (ybb S5 1 4 rfl yad yai)
theorem zfa (w:World)(u:Value)(C:Int)(K:Nat)(up:Bool)(k:Nat)(h:Hs w (ZG (Zv C K) (Is (.bool up))) u)(hK:K<=536870912)(hk:k<=1073741824)(ho:k % 2=1)(hu:up=false):
  CG 28 #[u,.int .i64 ((k:Nat):Int)] w (ZN (C-((k / 2+k % 2:Nat):Int))):=by
 have dN:(digs (((k / 2+k % 2:Nat):Int)).natAbs).length<=1:=by
  rw [zhy]
  exact ya1 (by rw [Nat.pow_one]; omega)
 refine yak (sl:=[(0,(ZG (Zv C K) (Is (.bool up)))),(1,(iV ((k:Nat):Int)))]) Tryz.func28 rfl Tryz.ntmps28 (by simp) (yae rfl (h) (yae rfl (ycy _) yao)) ?_
 intro a0 S0
 refine wq [.new (.box 60 (ZG (Zv C K) (Is (.bool up)))),.new (.box 24 zI)] [.inl 0,.inl 1] [.inr 1] S0 ?_ ?_
 ·exact jj2 (bxA wA (oS 0 0) (yo2 yby)) (nwA wA yar)
 intro _ a1 _ (S1:Zt [_,_] [_])
 refine wq [V (iV ((k:Nat):Int)),V (iV ((k / 2:Nat):Int)),V (iV ((k:Nat):Int)),V (iV ((k % 2:Nat):Int)),V (iV ((k / 2+k % 2:Nat):Int)),Fw (ZN (((k / 2+k % 2:Nat):Int))) w,.new (.box 24 zI),.put (.inr 6) (.box 24 ((ZN (((k / 2+k % 2:Nat):Int))) w.heap.size))] [.inr 0,.inr 1,.inl 6] [.inr 0] S1 ?_ ?_
 ·repeat' refine And.intro ?_ ?_
  ·trivial
  ·exact mS 0 1
  ·exact ybt rfl wA rfl (oO 0 7) (yaa _) rfl (fun ρ w h1 h2=>by exact yfx ρ _ _ _ w _ _ _ ⟨by omega,by omega,by omega,by omega⟩ h1 h2)
  ·exact mS 0 1
  ·exact ybt rfl wA rfl (oO 2 9) (yaa _) rfl (fun ρ w h1 h2=>by exact ydp ρ _ _ _ w _ _ _ ⟨by omega,by omega,by omega,by omega⟩ h1 h2)
  ·exact ya7 wA (oO 1 8) (oO 3 10)
  ·exact cc1 wA (qO 4 11 rfl) (yah _) (fun w u h1=>yjz ((k / 2+k % 2:Nat):Int) (by omega) (by omega) w u h1)
  ·exact nwA wA yar
  ·exact puA 6 wA (oO 5 12) yad ya9 yai
 intro _ a2 _ (S2:Zt [_,_,_] [_])
 refine wp_seq ?_
 refine wq [V (iV ((k:Nat):Int)),V (iV ((k % 2:Nat):Int)),kT,kT] ur3 [.inl 3] S2 ?_ ?_
 ·exact jj4 (mS 0 1) (ybt rfl wA rfl (oO 0 13) (yaa _) rfl (fun ρ w h1 h2=>by exact ydp ρ _ _ _ w _ _ _ ⟨by omega,by omega,by omega,by omega⟩ h1 h2)) (ycl wA (oO 1 14) (yaa _)) (mO 2 15)
 intro _ a3 _ (S3:Zt [_,_,_] [_])
 refine wq [kT,V (Part a3 2 2),V (Is (.bool up)),kF] ur3 [.inl 3] S3 ?_ ?_
 ·exact jj4 (mS 0 6) (ptA wA 0 yiq) (plA wA (oO 1 17) 0 rfl rfl (ybg ypl (k:=1) rfl (by decide) (by decide))) (ybt rfl wA rfl (oO 0 16) (oO 2 18) rfl (fun ρ w h1 h2=>by exact (ye1 ρ _ _ _ w true up h1 h2).trans (by rw [hu]; rfl)))
 intro _ a4 _ (S4:Zt [_,_,_] [_])
 refine wp_cond_false (S4.bool 0 19 rfl) (wp_skip (thenN ?_))
 refine wq [V (Part a4 2 0),V (Zv C K),Fw (ZN (((k / 2+k % 2:Nat):Int))) w,Fw (ZN (C-(((k / 2+k % 2:Nat):Int)))) w,.put (.inl 4) (.box 24 ((ZN (C-(((k / 2+k % 2:Nat):Int)))) w.heap.size))] ur2 [] S4 ?_ ?_
 ·exact jj5 (ptZ wA 0 yip) (plA wA (oO 0 24) 0 rfl rfl (ybg yba (k:=0) rfl (by decide) (by decide))) (loA 2 wA yad yai) (cc2 wA (qO 1 25 rfl) (qO 2 26 rfl) (yah _) (fun w u v h1 h2=>ykc (by omega) (by omega) w u v ((fun _ _ h=>h) _ _ h1) ((ybf dN) _ _ h2))) (seA 1 wA (oO 3 27) yad ya9 yai)
 intro _ a5 _ (S5:Zt [_,_] [])
 refine wp_ret ?_
 exact yav S5 rfl (ybb S5 1 4 rfl yad yai)
theorem ze9 (w:World)(u:Value)(C:Int)(K:Nat)(up:Bool)(k:Nat)(h:Hs w (ZG (Zv C K) (Is (.bool up))) u)(hK:K<=536870912)(hk:k<=1073741824)(ho:k % 2=0)(hu:up=false):
  CG 28 #[u,.int .i64 ((k:Nat):Int)] w (ZN (C+((k / 2+k % 2:Nat):Int))):=by
 have dN:(digs (((k / 2+k % 2:Nat):Int)).natAbs).length<=1:=by
  rw [zhy]
  exact ya1 (by rw [Nat.pow_one]; omega)
 refine yak (sl:=[(0,(ZG (Zv C K) (Is (.bool up)))),(1,(iV ((k:Nat):Int)))]) Tryz.func28 rfl Tryz.ntmps28 (by simp) (yae rfl (h) (yae rfl (ycy _) yao)) ?_
 intro a0 S0
 refine wq [.new (.box 60 (ZG (Zv C K) (Is (.bool up)))),.new (.box 24 zI)] [.inl 0,.inl 1] [.inr 1] S0 ?_ ?_
 ·exact jj2 (bxA wA (oS 0 0) (yo2 yby)) (nwA wA yar)
 intro _ a1 _ (S1:Zt [_,_] [_])
 refine wq [V (iV ((k:Nat):Int)),V (iV ((k / 2:Nat):Int)),V (iV ((k:Nat):Int)),V (iV ((k % 2:Nat):Int)),V (iV ((k / 2+k % 2:Nat):Int)),Fw (ZN (((k / 2+k % 2:Nat):Int))) w,.new (.box 24 zI),.put (.inr 6) (.box 24 ((ZN (((k / 2+k % 2:Nat):Int))) w.heap.size))] [.inr 0,.inr 1,.inl 6] [.inr 0] S1 ?_ ?_
 ·repeat' refine And.intro ?_ ?_
  ·trivial
  ·exact mS 0 1
  ·exact ybt rfl wA rfl (oO 0 7) (yaa _) rfl (fun ρ w h1 h2=>by exact yfx ρ _ _ _ w _ _ _ ⟨by omega,by omega,by omega,by omega⟩ h1 h2)
  ·exact mS 0 1
  ·exact ybt rfl wA rfl (oO 2 9) (yaa _) rfl (fun ρ w h1 h2=>by exact ydp ρ _ _ _ w _ _ _ ⟨by omega,by omega,by omega,by omega⟩ h1 h2)
  ·exact ya7 wA (oO 1 8) (oO 3 10)
  ·exact cc1 wA (qO 4 11 rfl) (yah _) (fun w u h1=>yjz ((k / 2+k % 2:Nat):Int) (by omega) (by omega) w u h1)
  ·exact nwA wA yar
  ·exact puA 6 wA (oO 5 12) yad ya9 yai
 intro _ a2 _ (S2:Zt [_,_,_] [_])
 refine wp_seq ?_
 refine wq [V (iV ((k:Nat):Int)),V (iV ((k % 2:Nat):Int)),kF,kF] ur3 [.inl 3] S2 ?_ ?_
 ·exact jj4 (mS 0 1) (ybt rfl wA rfl (oO 0 13) (yaa _) rfl (fun ρ w h1 h2=>by exact ydp ρ _ _ _ w _ _ _ ⟨by omega,by omega,by omega,by omega⟩ h1 h2)) (ycd wA (oO 1 14) (yaa _)) (mO 2 15)
 intro _ a3 _ (S3:Zt [_,_,_] [_])
 refine wq [kF,V (Part a3 2 2),V (Is (.bool up)),kT] ur3 [.inl 3] S3 ?_ ?_
 ·exact jj4 (mS 0 6) (ptA wA 0 yiq) (plA wA (oO 1 17) 0 rfl rfl (ybg ypl (k:=1) rfl (by decide) (by decide))) (ybt rfl wA rfl (oO 0 16) (oO 2 18) rfl (fun ρ w h1 h2=>by exact (ye1 ρ _ _ _ w false up h1 h2).trans (by rw [hu]; rfl)))
 intro _ a4 _ (S4:Zt [_,_,_] [_])
 refine wp_cond_true (S4.bool 0 19 rfl) ?_
 refine wq [V (Part a4 2 0),V (Zv C K),Fw (ZN (((k / 2+k % 2:Nat):Int))) w,Fw (ZN (C+(((k / 2+k % 2:Nat):Int)))) w,.put (.inl 4) (.box 24 ((ZN (C+(((k / 2+k % 2:Nat):Int)))) w.heap.size))] ur2 [] S4 ?_ ?_
 ·exact jj5 (ptZ wA 0 yip) (plA wA (oO 0 20) 0 rfl rfl (ybg yba (k:=0) rfl (by decide) (by decide))) (loA 2 wA yad yai) (cc2 wA (qO 1 21 rfl) (qO 2 22 rfl) (yah _) (fun w u v h1 h2=>ykb (by omega) (by omega) w u v ((fun _ _ h=>h) _ _ h1) ((ybf dN) _ _ h2))) (seA 1 wA (oO 3 23) yad ya9 yai)
 intro _ a5 _ (S5:Zt [_,_] [])
 refine wp_ret (thenR ?_)
 exact yav S5 rfl (ybb S5 1 4 rfl yad yai)
theorem ze8 (w:World)(u:Value)(C:Int)(K:Nat)(up:Bool)(k:Nat)(h:Hs w (ZG (Zv C K) (Is (.bool up))) u)(hK:K<=536870912)(hk:k<=1073741824)(ho:k % 2=0)(hu:up=true):
  CG 28 #[u,.int .i64 ((k:Nat):Int)] w (ZN (C-((k / 2+k % 2:Nat):Int))):=by
 have dN:(digs (((k / 2+k % 2:Nat):Int)).natAbs).length<=1:=by
  rw [zhy]
  exact ya1 (by rw [Nat.pow_one]; omega)
 refine yak (sl:=[(0,(ZG (Zv C K) (Is (.bool up)))),(1,(iV ((k:Nat):Int)))]) Tryz.func28 rfl Tryz.ntmps28 (by simp) (yae rfl (h) (yae rfl (ycy _) yao)) ?_
 intro a0 S0
 refine wq [.new (.box 60 (ZG (Zv C K) (Is (.bool up)))),.new (.box 24 zI)] [.inl 0,.inl 1] [.inr 1] S0 ?_ ?_
 ·exact jj2 (bxA wA (oS 0 0) (yo2 yby)) (nwA wA yar)
 intro _ a1 _ (S1:Zt [_,_] [_])
 refine wq [V (iV ((k:Nat):Int)),V (iV ((k / 2:Nat):Int)),V (iV ((k:Nat):Int)),V (iV ((k % 2:Nat):Int)),V (iV ((k / 2+k % 2:Nat):Int)),Fw (ZN (((k / 2+k % 2:Nat):Int))) w,.new (.box 24 zI),.put (.inr 6) (.box 24 ((ZN (((k / 2+k % 2:Nat):Int))) w.heap.size))] [.inr 0,.inr 1,.inl 6] [.inr 0] S1 ?_ ?_
 ·repeat' refine And.intro ?_ ?_
  ·trivial
  ·exact mS 0 1
  ·exact ybt rfl wA rfl (oO 0 7) (yaa _) rfl (fun ρ w h1 h2=>by exact yfx ρ _ _ _ w _ _ _ ⟨by omega,by omega,by omega,by omega⟩ h1 h2)
  ·exact mS 0 1
  ·exact ybt rfl wA rfl (oO 2 9) (yaa _) rfl (fun ρ w h1 h2=>by exact ydp ρ _ _ _ w _ _ _ ⟨by omega,by omega,by omega,by omega⟩ h1 h2)
  ·exact ya7 wA (oO 1 8) (oO 3 10)
  ·exact cc1 wA (qO 4 11 rfl) (yah _) (fun w u h1=>yjz ((k / 2+k % 2:Nat):Int) (by omega) (by omega) w u h1)
  ·exact nwA wA yar
  ·exact puA 6 wA (oO 5 12) yad ya9 yai
 intro _ a2 _ (S2:Zt [_,_,_] [_])
 refine wp_seq ?_
 refine wq [V (iV ((k:Nat):Int)),V (iV ((k % 2:Nat):Int)),kF,kF] ur3 [.inl 3] S2 ?_ ?_
 ·exact jj4 (mS 0 1) (ybt rfl wA rfl (oO 0 13) (yaa _) rfl (fun ρ w h1 h2=>by exact ydp ρ _ _ _ w _ _ _ ⟨by omega,by omega,by omega,by omega⟩ h1 h2)) (ycd wA (oO 1 14) (yaa _)) (mO 2 15)
 intro _ a3 _ (S3:Zt [_,_,_] [_])
 refine wq [kF,V (Part a3 2 2),V (Is (.bool up)),kF] ur3 [.inl 3] S3 ?_ ?_
 ·exact jj4 (mS 0 6) (ptA wA 0 yiq) (plA wA (oO 1 17) 0 rfl rfl (ybg ypl (k:=1) rfl (by decide) (by decide))) (ybt rfl wA rfl (oO 0 16) (oO 2 18) rfl (fun ρ w h1 h2=>by exact (ye1 ρ _ _ _ w false up h1 h2).trans (by rw [hu]; rfl)))
 intro _ a4 _ (S4:Zt [_,_,_] [_])
 refine wp_cond_false (S4.bool 0 19 rfl) (wp_skip (thenN ?_))
 refine wq [V (Part a4 2 0),V (Zv C K),Fw (ZN (((k / 2+k % 2:Nat):Int))) w,Fw (ZN (C-(((k / 2+k % 2:Nat):Int)))) w,.put (.inl 4) (.box 24 ((ZN (C-(((k / 2+k % 2:Nat):Int)))) w.heap.size))] ur2 [] S4 ?_ ?_
 ·exact jj5 (ptZ wA 0 yip) (plA wA (oO 0 24) 0 rfl rfl (ybg yba (k:=0) rfl (by decide) (by decide))) (loA 2 wA yad yai) (cc2 wA (qO 1 25 rfl) (qO 2 26 rfl) (yah _) (fun w u v h1 h2=>ykc (by omega) (by omega) w u v ((fun _ _ h=>h) _ _ h1) ((ybf dN) _ _ h2))) (seA 1 wA (oO 3 27) yad ya9 yai)
 intro _ a5 _ (S5:Zt [_,_] [])
 refine wp_ret ?_
 exact yav S5 rfl (ybb S5 1 4 rfl yad yai)
theorem zg8 (w:World)(u:Value)(A N:Int)(D k1 k2:Nat)(h:Hs w (Rv A (D:Int) k1 k2) u)(hk1:k1<=8388608)(hk2:k2<=8388608)(hD:D≠0)(eN:nr A (D:Int)=N)(hN:(digs N.natAbs).length<=8388608)(hu:N*(D:Int)<=A):
  CG 27 #[u] w (ZGN (ZN (N)) (IS (.bool true))):=by
 have hs:0<=(A*((1:Nat):Int)-N*(D:Int)).sign:=yjs (by omega)
 refine yak (sl:=[(0,(PR (Zv A k1) (Zv ((D:Int)) k2)))]) Tryz.func27 rfl Tryz.ntmps27 (by simp) (yae rfl (h) yao) ?_
 intro a0 S0
 refine wq [.new (.box 26 (PR (Zv A k1) (Zv ((D:Int)) k2))),.new (.box 60 (Is (.agg #[.bool false,.slice none 0 0,.bool false])))] [.inl 0,.inl 1] [] S0 ?_ ?_
 ·exact jj2 (bxA wA (oS 0 0) (yfq (ybm yan yan))) (nwA wA yoz)
 intro _ a1 _ (S1:Zt [_,_] [])
 refine wq [V (PR (Zv A k1) (Zv ((D:Int)) k2)),Fw (TWO (ZN (N)) (IS (.int .i64 0))) w,Fw (TWO (ZN (N)) (IS (.int .i64 0))) w,Fw (ZN (N)) w,V (iV 0),.new (.box 24 zI),.put (.inr 5) (.box 24 ((ZN (N)) w.heap.size)),V (iV 0)] [.inr 0,.inr 1,.inl 5] [] S1 ?_ ?_
 ·repeat' refine And.intro ?_ ?_
  ·trivial
  ·exact loA 0 wA yaj (ybm yan yan)
  ·exact cc1 wA (qO 0 8 rfl) (ya5 (yah _) (yab _)) (fun w u h1=>Gives.cast (ψ:=(TWO (ZN (N)) (IS (.int .i64 0)))) (ysq hD hk1 hk2 w u h1) (by rw [eN]))
  ·exact mO 1 9
  ·exact e20 wA (oO 2 7)
  ·exact e21 wA (oO 2 7)
  ·exact nwA wA yar
  ·exact puA 5 wA (oO 3 10) yad ya9 yai
  ·exact mO 4 11
 intro _ a2 _ (S2:Zt [_,_,_] [])
 refine wq [V (PR (Zv A k1) (Zv ((D:Int)) k2)),Fw (ZN (N)) w,Fw (RN N 1) w,Fw (TWO (IS (.int .i64 (A*((1:Nat):Int)-N*(D:Int)).sign)) (IS (.int .i64 0))) w,Fw (TWO (IS (.int .i64 (A*((1:Nat):Int)-N*(D:Int)).sign)) (IS (.int .i64 0))) w,V (Is (.int .i64 (A*((1:Nat):Int)-N*(D:Int)).sign)),V (iV 0),V (Is (.int .i64 (A*((1:Nat):Int)-N*(D:Int)).sign)),V (iV 0)] [.inr 1,.inr 2] [.inl 7] S2 ?_ ?_
 ·exact ⟨jj8 (loA 0 wA yaj (ybm yan yan)) (loA 2 wA yad yai) (cc1 wA (qO 1 14 rfl) (ydx _ _) (fun w u h1=>ysr (k:=8388608) (by omega) w u (ybf hN _ _ h1))) (cc2 wA (qO 0 13 rfl) (qO 2 15 rfl) (ya5 (yab _) (yab _)) (fun w u v h1 h2=>yk8 (k3:=8388608) (k4:=1) hD (by decide) hk1 hk2 (by omega) (by omega) w u v h1 (zed hN ytp _ _ h2))) (mO 3 16) (e20 wA (oO 4 12)) (e21 wA (oO 4 12)) (mO 5 17),mO 6 18⟩
 intro _ a3 _ (S3:Zt [_,_] [_])
 refine wq [Fw (ZN (N)) w,V (Is (.int .i64 (A*((1:Nat):Int)-N*(D:Int)).sign)),kT,V (ZG ((ZN (N)) w.heap.size) bT),.put (.inl 2) (.box 60 (ZG ((ZN (N)) w.heap.size) bT))] [.inr 0] [] S3 ?_ ?_
 ·exact jj5 (loA 1 wA yad yai) (mS 0 5) (yfo wA (oO 1 20) (yaa _) (h:=hs)) (ym4 rfl wA rfl (oO 0 19) yai (oO 2 21) rfl) (seA 0 wA (oO 3 22) yir yuw yby)
 intro _ a4 _ (S4:Zt [_] [])
 refine wp_ret ?_
 exact yav S4 rfl (ybb S4 0 2 rfl yir yby)
end Go.Proofs.YtdnindaohpdblaaGreat
