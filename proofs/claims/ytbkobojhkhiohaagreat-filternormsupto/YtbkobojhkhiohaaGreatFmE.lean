import Derived.Test.YtbkobojhkhiohaaGreatFmF
import Derived.Test.YtbkobojhkhiohaaGreatFmC
set_option linter.all false
namespace Go.Proofs.YtbkobojhkhiohaaGreat
open Go Go.RowKit Nt
set_option maxRecDepth 20000
set_option maxHeartbeats 16000000
theorem yya (w : World) (u t v r : Value) (nD nL nT K Kt m Ks : Nat) (D : List Int) (L : List (List Int)) (ts : List (Int × Int)) (x : List Int) (h : Hs w (SF [Vv nD D K, Mv nL L K]) u) (ht : Hs w (QV nT ts Kt) t) (hv : Hs w (Vv m x Ks) v) (hD : nD ≤ 1048576) (hL : nL ≤ 1048576) (hT : nT ≤ 1048576) (hm0 : m ≤ 1048576) (hK : K ≤ 1048576) (hKt : Kt ≤ 1048576) (hKs : Ks ≤ 1048576) (lD : D.length = nD) (lL : L.length = nL) (lT : ts.length = nT) (lx : x.length = m) (Kr : Nat) (rn rd : Int) (hr : Hs w (PR (Zv rn Kr) (Zv rd Kr)) r) (hKr : Kr ≤ 8388608) (g : FGood D L ts [(rn, rd)] m) (K2 : Nat) (τ : List Int) (dn : Int) (hK2 : K2 ≤ 16777216) (lτ : τ.length = nL) (hof : ∀ (B : Nat → Prop) (w : World) (u v : Value), (∀ k, B k → k < w.heap.size) → Has B w (SF [Vv nD D K, Mv nL L K]) u → Has B w (QV nT ts Kt) v → Calls Tryz.prog 19 #[u, v] w fun e w' => ∃ r, e = .returned r ∧ Below w.heap.size w w' ∧ Has B w' (APx nD nL nL K2 D L τ dn) r) (hN : ∀ k, k ≤ m → (digs (fS D (shL x dn τ nL m) L nL k).1.natAbs).length ≤ 67108864) (hR : ∀ k, k ≤ m → (digs (fS D (shL x dn τ nL m) L nL k).2.natAbs).length ≤ 67108864) (Kz : Nat) (hsd : Dl (shL x dn τ nL m) Kz) (hbB : (digs (fB (shL x dn τ nL m) L nL m).natAbs).length ≤ 134217728) (hml : m < nL) (P1 P2 : Nat → Pr) (f1 : Fresh P1) (f2 : Fresh P2) (s1 : ∀ lo, Shp 2 (P1 lo)) (s2 : ∀ lo, Shp 2 (P2 lo)) (b : Bool) (hwt : ∀ (w : World) (pa u r : Value), Hs w (SP (AP pa nD nL nL K2 D L τ dn) (Vv m (shL x dn τ nL m) Kz) (Zv (fB (shL x dn τ nL m) L nL m) 134217728) (Zv (fS D (shL x dn τ nL m) L nL m).1 67108864) (Zv (fS D (shL x dn τ nL m) L nL m).2 67108864)) u → Hs w (PR (Zv rn Kr) (Zv rd Kr)) r → CG 34 #[u, r] w (THREE P1 P2 (IS (.bool b)))) :
  CG 14 #[u, t, v, r] w (FOUR P1 P2 (IS (.bool b)) (IS (.int .i64 0))) := by
 have hgl := g.g.len
 have hNb : (digs (fS D (shL x dn τ nL m) L nL m).1.natAbs).length ≤ 67108864 := hN m (ze5 _)
 have hRb : (digs (fS D (shL x dn τ nL m) L nL m).2.natAbs).length ≤ 67108864 := hR m (ze5 _)
 refine yan (sl := [(0, (SF [(Vv nD D K), (Mv nL L K)])), (1, (QV nT ts Kt)), (2, (Vv m x Ks)), (3, (PR (Zv rn Kr) (Zv rd Kr)))]) Tryz.func14 rfl Tryz.ntmps14 (by simp) (yad rfl (h) (yad rfl (ht) (yad rfl (hv) (yad rfl (hr) yar)))) ?_
 intro a0 S0
 refine wq [.new (.box 25 (SF [(Vv nD D K), (Mv nL L K)])), .new (.box 31 (PR (Zv rn Kr) (Zv rd Kr))), .new (.box 29 zI), .new (.box 29 zI), kF, V (iV 0)] [.inl 0, .inl 1, .inl 2, .inl 3] [.inr 1, .inr 2] S0 ?_ ?_
 ·exact jj6 (bxA wA (oS 0 0) (ybw yas)) (bxA wA (oS 3 3) (ycn (ya2 yak yak))) (nwA wA yal) (nwA wA yal) mC mC
 intro _ a1 _ (S1 : Zt [_,_,_,_] [_,_])
 refine wp_seq ?_
 refine wq [V (SF [(Vv nD D K), (Mv nL L K)]), V (QV nT ts Kt), V (Vv m x Ks), V (PR (Zv rn Kr) (Zv rd Kr)), V (Sng 31 4 (PR (Zv rn Kr) (Zv rd Kr)) w.heap.size), V (iV 0), V (iV 0)] ur4 (.inl 6 :: ur2) S1 ?_ ?_
 ·repeat' refine And.intro ?_ ?_
  ·trivial
  ·exact loA 0 wA yat yas
  ·exact mS 0 1
  ·exact mS 1 2
  ·exact loA 1 wA yaj (ya2 yak yak)
  ·exact yhi rfl wA rfl yhu (oO 3 19) (yc0 (by decide) (ya2 yak yak)) rfl
  ·exact ybj rfl wA rfl (oO 0 16) (oO 1 17) (oO 2 18) ((oO 4 20).imp yn7) (yaf _) rfl (fun args w => by go_simp) (fun w u0 u1 u2 u3 h0 h1 h2 h3 => ymo w u0 u1 u2 u3 nD nL nT K Kt m Ks D L ts x h0 h1 h2 hD hL hT hm0 hK hKt hKs lD lL lT lx 1 Kr [(rn, rd)] h3 (by omega) (by omega) rfl g)
  ·exact mO 5 21
 intro _ a2 _ (S2 : Zt [_,_,_,_] [_,_,_])
 refine wq [V (iV 0), kF] ur4 (.inl 1 :: ur3) S2 ?_ ?_
 ·exact jj2 (mS 0 12) (ycj wA (oO 0 22) (yab _) (h := rfl))
 intro _ a3 _ (S3 : Zt [_,_,_,_] [_,_,_,_])
 refine wp_cond_false (S3.bool 0 23 rfl) (wp_skip (thenN (wp_seq ?_)))
 refine wq [V (Vv m x Ks), V (iV (m : Nat)), V (Part a3 4 1), V (Mv nL L K), V (iV (nL : Nat)), kF] ur4 [.inl 5, .inr 2, .inr 3] S3 ?_ ?_
 ·exact jj6 (mS 3 2) (lnA wA (oO 0 27) Tryz.underlying22) (ptA wA 0 yaz) (plA wA (oO 2 29) 0 rfl rfl (ploadS rfl ya1)) (lnA wA (oO 3 30) Tryz.underlying23) (ybs wA (oO 1 28) (oO 4 31))
 intro _ a4 _ (S4 : Zt [_,_,_,_] [_,_,_])
 refine wp_cond_false (S4.bool 0 32 rfl) (wp_skip (thenN ?_))
 refine wq [V (SF [(Vv nD D K), (Mv nL L K)]), V (QV nT ts Kt), V (APx nD nL nL K2 D L τ dn), V (Vv m x Ks), V (SP (APx nD nL nL K2 D L τ dn) ((VN m (shL x dn τ nL m)) w.heap.size) ((ZN (fB (shL x dn τ nL m) L nL m)) w.heap.size) ((ZN ((fS D (shL x dn τ nL m) L nL m).1)) w.heap.size) ((ZN ((fS D (shL x dn τ nL m) L nL m).2)) w.heap.size)), V (PR (Zv rn Kr) (Zv rd Kr)), Fw (THREE P1 P2 (IS (.bool b))) w, Fw (THREE P1 P2 (IS (.bool b))) w, V (P1 w.heap.size), V (P2 w.heap.size), V (Is (.bool b)), .new (.box 29 zI), .new (.box 29 zI), .put (.inr 11) (.box 29 (P1 w.heap.size)), .put (.inr 12) (.box 29 (P2 w.heap.size)), V (Is (.bool b))] [.inr 0, .inr 2, .inr 3, .inl 11, .inl 12] [.inl 15] S4 ?_ ?_
 ·exact ⟨⟨⟨⟨⟨⟨⟨⟨jj8 (loA 0 wA yat yas) (mS 1 1) (ycb rfl wA rfl (oO 0 36) (oO 1 37) rfl (fun args w => by go_simp) (fun B w u v _ hB h1 h2 => hof B w u v hB h1 h2)) (mS 2 2) (ycb rfl wA rfl (oO 2 38) (oO 3 39) rfl (fun args w => by go_simp) (fun B w u v hlo hB h1 h2 => at_H (by omega) hL hL hK2 lD lL lτ lx (by omega) rfl (by omega) (fun j hj => g.g.row j (by omega)) (fun i hi => by have := g.g.pos i (by omega); omega) (by omega) (fun k hk => ze6 (hN k hk) (by omega)) (fun k hk => ze6 (hR k hk) (by omega)) B w u v hlo hB h1 h2)) (loA 1 wA yaj (ya2 yak yak)) (ch2 wA ((qO 4 40 rfl).imp (yga (fun v w h => h) (yvy hsd) (ya4 hbB) (ya4 hNb) (ya4 hRb))) (qO 5 41 rfl) (yck f1 f2 (yaf _)) (fun w u0 u1 h0 h1 => by obtain ⟨pa, h0⟩ := zc7 (fun v w h => h) h0; exact hwt w pa u0 u1 h0 h1)) (mO 6 42), e30 wA (oO 7 35)⟩, e31 wA (oO 7 35)⟩, e32 wA (oO 7 35)⟩, nwA wA yal⟩, nwA wA yal⟩, puA 11 wA (oO 8 43) yaa yao (s1 _)⟩, puA 12 wA (oO 9 44) yaa yao (s2 _)⟩, mO 10 45⟩
 intro _ a5 _ (S5 : Zt [_,_,_,_,_] [_])
 refine wq [V (P1 w.heap.size), V (P2 w.heap.size), V (Is (.bool b)), .put (.inl 8) (.box 29 (P1 w.heap.size)), .put (.inl 9) (.box 29 (P2 w.heap.size)), V (Is (.bool b)), V (iV 0)] ur3 [.inl 5, .inl 6] S5 ?_ ?_
 ·repeat' refine And.intro ?_ ?_
  ·trivial
  ·exact loA 3 wA yaa (s1 _)
  ·exact loA 4 wA yaa (s2 _)
  ·exact mS 0 15
  ·exact seA 1 wA (oO 0 46) yaa yao (s1 _)
  ·exact seA 2 wA (oO 1 47) yaa yao (s2 _)
  ·exact mO 2 48
  ·exact mC
 intro _ a6 _ (S6 : Zt [_,_,_] [_,_])
 refine wp_ret ?_
 exact ykf S6 rfl (yau S6 1 8 rfl yaa (s1 _)) (yau S6 2 9 rfl yaa (s2 _)) (yaw S6 0 10 rfl) (yaw S6 1 11 rfl)
theorem za6 {D : List Int} {L : List (List Int)} {ts : List (Int × Int)} {rn rd e0 : Int} {m : Nat} (g : FRef D L ts [] m e0) : FRef D L ts [(rn, rd)] m e0 := by
 rcases g with g | ⟨g, g1, g2⟩ | ⟨g, hl, g3⟩ | ⟨i0, g, g1, g2, g3, g4, g6, g7⟩ | ⟨i0, g, hl, g3, gt, g4, g6, g7⟩
 ·exact .g g
 ·exact .len g g1 g2
 ·exact .m g hl g3
 ·exact .t i0 g g1 g2 g3 g4 g6 g7
 ·exact absurd g4 (Nat.not_lt_zero _)
theorem yov {D : List Int} {L : List (List Int)} {ts : List (Int × Int)} {rn rd : Int} {m : Nat} (g : FGood D L ts [] m) (h : 0 < rd) : FGood D L ts [(rn, rd)] m := ⟨g.g, g.len, g.m, g.t, fun k hk => by
 obtain rfl : k = 0 := by simp at hk; omega
 exact h⟩
theorem ywh {D : List Int} {L : List (List Int)} {ts : List (Int × Int)} {rn rd : Int} {m : Nat} (g : FGood D L ts [] m) (h : rd ≤ 0) : FRef D L ts [(rn, rd)] m 30 := .r 0 g.g g.len g.m g.t (by simp) (fun j hj => by omega) h
theorem ysl (w : World) (u t v r : Value) (nD nL nT m : Nat) (es : List El) (ess : List (List El)) (rq : List Ra) (fs : List El) (rn rd : Int) (h : Hs w (SF [Vx nD es, Mx nL ess]) u) (ht : Hs w (Qx nT rq) t) (hv : Hs w (Vx m fs) v) (hr : Hs w (PR (Zv rn 1048576) (Zv rd 1048576)) r) (hD : nD ≤ 1048576) (hL : nL ≤ 1048576) (hT : nT ≤ 1048576) (hm0 : m ≤ 1048575) (lE : es.length = nD) (lL : ess.length = nL) (lQ : rq.length = nT) (le : fs.length = m)
  (hen : ∀ (i : Nat) e, es[i]? = some e → e.n ≤ 1048576) (hme : Me ess El.n 1048576) (hqn : ∀ (i : Nat) r, rq[i]? = some r → r.x.n ≤ 1048576 ∧ r.y.n ≤ 1048576) (hC : ∀ (i : Nat) e, es[i]? = some e → e.c ≤ 35184372087808) (hCC : ∀ (i : Nat) l, ess[i]? = some l → l.length ≤ 1048576 ∧ ∀ (j : Nat) e, l[j]? = some e → e.c ≤ 35184372087808) (hCQ : ∀ (i : Nat) r, rq[i]? = some r → r.x.c ≤ 35184372087808 ∧ r.y.c ≤ 35184372087808) (hCF : ∀ (i : Nat) e, fs[i]? = some e → e.c ≤ 35184372087808)
  (A S Kx Kd Kr : Nat) (J : Kx + m + (A + S) + Kd + Kr + 3 ≤ 1048577) (hfx : ∀ (i : Nat) e, fs[i]? = some e → e.n ≤ Kx) (brn : (digs rn.natAbs).length ≤ Kr) (dD : Dl (es.map El.z) Kd) (dL : Mdl (zz ess) Kd) (hnum : ∀ i, i < (qz rq).length → (digs ((qz rq).getD i (0, 0)).1.natAbs).length ≤ A) (hds : dsum (qz rq) (qz rq).length ≤ S) (hwt : wtD (es.map El.z) (nL + 1) ≤ Kd) :
  CG 3 #[u, t, v, r] w (IS (.bool true)) := by
 have hfn : ∀ (i : Nat) e, fs[i]? = some e → e.n ≤ 1048576 := fun i e he => ze6 (hfx i e he) (by omega)
 have dx : Dl (fs.map El.z) Kx := yhc (ygh hfx _ w hv.now)
 have lx : (fs.map El.z).length = m := by simpa using le
 have lD : (es.map El.z).length = nD := by simpa using lE
 have lLL : (zz ess).length = nL := by simpa [zz] using lL
 have lT : (qz rq).length = nT := by simpa using lQ
 have law_n := zef w u t v r nD nL nT m 1048576 es ess rq fs rn rd h ht hv hr hD hL hT (by omega) (by omega) hen hme hqn hfn hC hCC hCQ hCF lL
 have law_s := zeg w u t v r nD nL nT m 1048576 es ess rq fs rn rd h ht hv hr hD hL hT (by omega) (by omega) hen hme hqn hfn hC hCC hCQ hCF lL
 clear h ht hv hr hen hme hqn hfn hC hCC hCQ hCF hfx
 generalize es.map El.z = D at *
 generalize zz ess = L at *
 generalize qz rq = ts at *
 generalize fs.map El.z = x at *
 clear lE lL lQ le
 have c1 : (1048576 : Nat) ≤ 1048576 := ze5 _
 have c2 : (1048576 : Nat) ≤ 1048577 := by omega
 have c4 : (1048576 : Nat) ≤ 4194304 := by omega
 have hm1 : m ≤ 1048576 := by omega
 rcases yx8 D L ts [] m with g | ⟨e0, he, g⟩
 rotate_left
 ·exact law_n _ (yaf _) (fun _ => ybk) false false [] [] (fun _ => yv2) e0 e0 e0 (fun _ => ⟨rfl, rfl, rfl, rfl⟩) (Or.inl ⟨he, rfl⟩) (Or.inl ⟨he, rfl⟩) he he
   (fun w u t v h ht hv => zal w u t v nD nL nT 1048576 1048576 m 1048576 D L ts x h ht hv hD hL hT hm1 c1 c1 c1 lD lLL lT lx e0 (Or.inr g))
   (fun w u t v h ht hv => zd0 w u t v nD nL nT 1048576 1048576 m 1048576 D L ts x h ht hv hD hL hT hm1 c1 c1 c1 lD lLL lT lx e0 he g)
   (fun w u t v h ht hv => zdy w u t v nD nL nT 1048576 1048576 m 1048576 D L ts x h ht hv hD hL hT hm1 c1 c1 c1 lD lLL lT lx e0 he g)
   (fun w u t v r h ht hv hr => yx9 w u t v r nD nL nT 1048576 1048576 m 1048576 D L ts x h ht hv hD hL hT hm1 c1 c1 c1 lD lLL lT lx 1048576 rn rd hr (by omega) e0 he (za6 g)) (fun h => absurd h he)
 have hk := fun w u t v h ht hv => zal w u t v nD nL nT 1048576 1048576 m 1048576 D L ts x h ht hv hD hL hT hm1 c1 c1 c1 lD lLL lT lx 0 (Or.inl ⟨g, rfl⟩)
 have hgl := g.g.len
 have hgm := g.m
 have ok := g.t
 have hTL : nT = 0 ∨ nT = nL := by
  have hq := g.len
  omega
 have lτ : (tauL ts nL).length = nL := yzx (by rcases g.len with h | h <;> omega)
 have hof := of_H (nD := nD) (nL := nL) (K := 1048576) (Kt := 1048576) (K2 := 16777216) (D := D) (L := L) hL hT (by omega) lT ok (by rw [← lT]; omega) hTL (by omega) (by omega)
 have hdn0 : cmN ts nT ≠ 0 := zan ok nT (by omega)
 have hdl : (digs (cmN ts nT)).length ≤ S := by rw [← lT]; exact ze6 (yi9 ok _ (ze5 _)) hds
 have dτ : Dl (tauL ts nL) (A + S) := yxe ok hnum hds (ze5 _)
 have tok : TauOk ts (tauL ts nL) (cmN ts nT) := by rw [← lT]; exact zdc ok
 generalize cmN ts nT = d at hof hdl hdn0 tok
 generalize tauL ts nL = τ at hof lτ dτ tok
 have hdz : (digs ((d : Int)).natAbs).length ≤ S := by rw [zfn]; exact hdl
 have hdp : 0 < (d : Int) := by omega
 have hnL : nL = L.length := lLL.symm
 have hsx : ∀ M, Dl (shL x (d : Int) τ nL M) (Kx + (A + S) + 1) := fun M => yts dx dτ (by omega) M
 have hwt0 : wtD D nL ≤ wtD D (nL + 1) := by rw [yuc]; omega
 have hS := zax (m := m) (sh := shL x (d : Int) τ nL m) g.g hnL (by omega) dD dL (hsx m) (W := 1048576) (by omega)
 have hN : ∀ k, k ≤ m → (digs (fS D (shL x (d : Int) τ nL m) L nL k).1.natAbs).length ≤ 5242890 := fun k hk => by have := (hS k hk).2; omega
 have hR : ∀ k, k ≤ m → (digs (fS D (shL x (d : Int) τ nL m) L nL k).2.natAbs).length ≤ 1048577 := fun k hk => by have := (hS k hk).1; omega
 have pR := yl0 (sh := shL x (d : Int) τ nL m) g.g hnL m (by omega)
 have pN := zav (sh := shL x (d : Int) τ nL m) g.g hnL m (by omega)
 have pD : ∀ i, i ≤ nL → 0 < D.getD i 0 := fun i hi => g.g.d i (by omega)
 have hdd : 0 < (d : Int) * (d : Int) := ziq hdp hdp
 have bq0 : ∀ k, k ≤ m → (digs (qF D (shL x (d : Int) τ nL m) L nL d k)).length ≤ 8388608 := fun k hk => ze6 (zcf hdl (hR k hk) (zat dD k)) (by omega)
 have bW0 : ∀ k, k < m → (digs (fW D (shL x (d : Int) τ nL m) L nL k).natAbs).length ≤ 3145820 := fun k hk => ze6 (zay dD dL (hsx m)) (by omega)
 -- the norm of the numbers as they came
 obtain ⟨q0, z0, d0⟩ := yws (ziq hdd (ziq pR (pD (nL - m) (by omega)))) (k := 8388608) (ze6 (yco (yco hdz hdz) (yco (hR m (ze5 _)) (ybq dD _))) (by omega))
 have hn := fun w u t v h ht hv => zd1 w u t v nD nL nT 1048576 1048576 m 1048576 D L ts x h ht hv hD hL hT hm1 c1 c1 c1 lD lLL lT lx g 16777216 τ (d : Int) (by omega) lτ hof (fun k hk => ze6 (hN k hk) (by omega)) (fun k hk => ze6 (hR k hk) (by omega)) _ (hsx m) _ q0 z0 (by omega)
 have hmn : ∀ (w : World) (u t v : Value), Hs w (SF [Vv nD D 1048576, Mv nL L 1048576]) u → Hs w (QV nT ts 1048576) t → Hs w (Vv m x 1048576) v → CG 10 #[u, t, v] w (QQ (fS D (shL x (d : Int) τ nL m) L nL m).1 ((d : Int) * (d : Int) * ((fS D (shL x (d : Int) τ nL m) L nL m).2 * D.getD (nL - m) 0)).toNat) := fun w u t v h ht hv =>
  Gives.cast (zcp w u t v nD nL nT 1048576 1048576 m 1048576 D L ts x h ht hv hD hL hT (by omega) c1 c1 c4 lD lLL lT lx g τ d hdn0 (by omega) tok _ (by omega) (hsx m) bW0 (fun k hk => ze6 (hN k hk) (by omega)) bq0) (yy9 g.g hnL hdn0 (by omega) q0 z0)
 generalize hq0 : ((d : Int) * (d : Int) * ((fS D (shL x (d : Int) τ nL m) L nL m).2 * D.getD (nL - m) 0)).toNat = qn at q0 z0 d0 hn hmn
 rcases zge m nL with hml | hml
 rotate_left
 ·have hml' : m = nL := by omega
  have hc := fun w u t v h ht hv => zdx w u t v nD nL nT 1048576 1048576 m 1048576 D L ts x h ht hv hD hL hT hm1 c1 c1 c1 lD lLL lT lx g hml'
  rcases Int.lt_or_le 0 rd with hrd | hrd
  ·exact law_n _ (ybi _ _) (fun _ => ybp) _ _ _ _ (fun _ => yjy) 0 1 1 (fun h => absurd rfl h) (Or.inr ⟨rfl, hml', rfl⟩) (Or.inr (Or.inr ⟨rfl, hrd, rfl⟩)) (by decide) (by decide) hk hn hc (fun w u t v r h ht hv hr => zd2 w u t v r nD nL nT 1048576 1048576 m 1048576 D L ts x h ht hv hD hL hT hm1 c1 c1 c1 lD lLL lT lx 1048576 rn rd hr (by omega) (yov g hrd) hml') (fun _ => hmn)
  ·exact law_n _ (ybi _ _) (fun _ => ybp) _ _ _ _ (fun _ => yjy) 0 1 30 (fun h => absurd rfl h) (Or.inr ⟨rfl, hml', rfl⟩) (Or.inr (Or.inl ⟨rfl, hrd, rfl⟩)) (by decide) (by decide) hk hn hc (fun w u t v r h ht hv hr => yx9 w u t v r nD nL nT 1048576 1048576 m 1048576 D L ts x h ht hv hD hL hT hm1 c1 c1 c1 lD lLL lT lx 1048576 rn rd hr (by omega) 30 (by decide) (ywh g hrd)) (fun _ => hmn)
 obtain ⟨T0, eT⟩ : ∃ y, τ.getD (nL - 1 - m) 0 = y := ⟨_, rfl⟩
 obtain ⟨D0, eD0⟩ : ∃ y, D.getD (nL - 1 - m) 0 = y := ⟨_, rfl⟩
 obtain ⟨D1, eD1⟩ : ∃ y, D.getD (nL - 1 - m + 1) 0 = y := ⟨_, rfl⟩
 obtain ⟨cn, ecn⟩ : ∃ y, T0 * D1 - fB (shL x (d : Int) τ nL m) L nL m = y := ⟨_, rfl⟩
 obtain ⟨cd, ecd⟩ : ∃ y, (d : Int) * D1 = y := ⟨_, rfl⟩
 have p0 : 0 < D0 := eD0 ▸ pD _ (by omega)
 have p1 : 0 < D1 := eD1 ▸ pD _ (by omega)
 have bD0 : (digs D0.natAbs).length ≤ Kd := eD0 ▸ ybq dD _
 have bD1 : (digs D1.natAbs).length ≤ Kd := eD1 ▸ ybq dD _
 have bT0 : (digs T0.natAbs).length ≤ A + S := eT ▸ ybq dτ _
 have bB : (digs (fB (shL x (d : Int) τ nL m) L nL m).natAbs).length ≤ Kx + (A + S) + 1 + Kd + m := yx5 (hsx m) dL
 have bcn : (digs cn.natAbs).length ≤ 1048576 := by rw [← ecn]; exact ze6 (yjb (k := Kx + (A + S) + 1 + Kd + m) (ze6 (yco bT0 bD1) (by omega)) bB) (by omega)
 have pcd : 0 < cd := by rw [← ecd]; exact ziq hdp p1
 have bcd : (digs cd.natAbs).length ≤ S + Kd := by rw [← ecd]; exact yco hdz bD1
 obtain ⟨qc, zc, dc⟩ := yws pcd (k := 1048576) (by omega)
 have hc := fun w u t v h ht hv => zdz w u t v nD nL nT 1048576 1048576 m 1048576 D L ts x h ht hv hD hL hT hm1 c1 c1 c1 lD lLL lT lx g 16777216 τ (d : Int) (by omega) lτ hof (fun k hk => ze6 (hN k hk) (by omega)) (fun k hk => ze6 (hR k hk) (by omega)) hml T0 D1 cn cd eT eD1 ecn ecd _ (hsx m) (by omega) _ qc zc (by omega) (by omega)
 have hdc : ∀ (w : World) (u t v : Value), Hs w (SF [Vv nD D 1048576, Mv nL L 1048576]) u → Hs w (QV nT ts 1048576) t → Hs w (Vv m x 1048576) v → CG 12 #[u, t, v] w (QQ cn cd.toNat) := fun w u t v h ht hv =>
  Gives.cast (yzf w u t v nD nL nT 1048576 1048576 m 1048576 D L ts x h ht hv hD hL hT (by omega) c1 c1 c4 lD lLL lT lx g τ d hdn0 (by omega) tok _ (by omega) (hsx m) hml) (by
   obtain ⟨e1, e2⟩ := ynj g.g (i := nL - 1 - m + 1) (by omega)
   rw [eT, eD1, ecn]
   congr 1
   have e3 : ((d * dN D (nL - 1 - m + 1) : Nat) : Int) = cd := by rw [zfh, ← e1, eD1, ecd]
   omega)
 generalize hqc : cd.toNat = qcn at qc zc dc hc hdc
 have law_s' := fun N0 q0 d2 hd => law_s N0 cn q0 qcn (IS (.agg #[.bool false, .slice none 0 0])) (IS (.agg #[.bool false, .slice none 0 0])) (yaf _) (yaf _) (fun _ => yao) (fun _ => yao) false false false [] [] (fun _ => yhq) (fun _ => yhq) d2 hml hd (fun _ => ⟨rfl, rfl, rfl, rfl, rfl⟩)
 rcases Int.lt_or_le 0 rd with hrd | hrd
 rotate_left
 ·exact law_s' _ _ 30 (Or.inl ⟨hrd, rfl⟩) hk hn hc (fun w u t v r h ht hv hr => yx9 w u t v r nD nL nT 1048576 1048576 m 1048576 D L ts x h ht hv hD hL hT hm1 c1 c1 c1 lD lLL lT lx 1048576 rn rd hr (by omega) 30 (by decide) (ywh g hrd)) hmn hdc (fun h => by cases h)
 have g2 : FGood D L ts [(rn, rd)] m := yov g hrd
 have hcl : dR cn qcn ≠ 0 := yeh zc
 -- the nearest
 have hnear0 := ysg (A := nR cn qcn) (B := ((dR cn qcn : Nat) : Int)) (by omega)
 have hnear1 := zbi zc hcl (ygo cn qcn) hnear0
 have bz : (digs (nr (nR cn qcn) ((dR cn qcn : Nat) : Int)).natAbs).length ≤ 1048576 := yyw zc hnear1 bcn
 have hle : ∀ a : Int, (nr (nR cn qcn) ((dR cn qcn : Nat) : Int) * cd - cn) * (nr (nR cn qcn) ((dR cn qcn : Nat) : Int) * cd - cn) ≤ (a * cd - cn) * (a * cd - cn) := fun a => by rw [qc]; exact zbj hnear1
 generalize hzz : nr (nR cn qcn) ((dR cn qcn : Nat) : Int) = z at bz hle
 have em : nL - (m + 1) = nL - 1 - m := by omega
 obtain ⟨lf, elf⟩ : ∃ y, rn * ((d : Int) * (d : Int)) * (D1 * (fS D (shL x (d : Int) τ nL m) L nL m).2) - (fS D (shL x (d : Int) τ nL m) L nL m).1 * rd = y := ⟨_, rfl⟩
 have g1 : FGood D L ts [] (m + 1) := ⟨g.g, g.len, by omega, g.t, g.r⟩
 have pRD := ziq pR p1
 obtain ⟨rdn, rfl⟩ : ∃ n : Nat, rd = (n : Int) := ⟨rd.toNat, by omega⟩
 -- which numbers stay within
 have iff_a : ∀ a : Int, (digs a.natAbs).length ≤ 2097170 → ((fS D (shL (x ++ [a]) (d : Int) τ nL (m + 1)) L nL (m + 1)).1 * (rdn : Int) ≤ rn * ((qF D (shL (x ++ [a]) (d : Int) τ nL (m + 1)) L nL d (m + 1) : Nat) : Int) ↔ (a * cd - cn) * (a * cd - cn) * ((rdn : Int) * (fS D (shL x (d : Int) τ nL m) L nL m).2) ≤ lf * D0) := fun a ha => by
  obtain ⟨e1, e2, _, _⟩ := ywk (a := a) g.g hnL lx hml eT eD0 eD1 ecn ecd (by omega) (by omega) (hN m (ze5 _)) (hR m (ze5 _)) (ze6 (yjb (k := 3145750) (ze6 (yco ha bcd) (by omega)) (by omega)) (by omega))
  rw [(ynw (sh := shL (x ++ [a]) (d : Int) τ nL (m + 1)) g.g hnL hdn0 (k := m + 1) (by omega)).2, show fD D nL (m + 1) = D0 from eD0, ← elf]
  exact zbh e1 pRD e2
 have wi : ∀ a : Int, ∀ (w : World) (u t v r : Value), Hs w (SF [Vv nD D 1048576, Mv nL L 1048576]) u → Hs w (QV nT ts 1048576) t → Hs w (Vv (m + 1) (x ++ [a]) 2097170) v → Hs w (PR (Zv rn 1048576) (Zv (rdn : Int) 1048576)) r →
   ((a * cd - cn) * (a * cd - cn) * ((rdn : Int) * (fS D (shL x (d : Int) τ nL m) L nL m).2) ≤ lf * D0 → CG 36 #[u, t, v, r] w (IS (.bool true))) ∧ (lf * D0 < (a * cd - cn) * (a * cd - cn) * ((rdn : Int) * (fS D (shL x (d : Int) τ nL m) L nL m).2) → CG 36 #[u, t, v, r] w (IS (.bool false))) := fun a w u t v r h ht hv hr => by
  have ha : (digs a.natAbs).length ≤ 2097170 := by have q := ybq (yhc hv.now) m; rw [ykk lx] at q; exact q
  have hW : (digs (a * cd - cn).natAbs).length ≤ 3145820 := ze6 (yjb (k := 3145750) (ze6 (yco ha bcd) (by omega)) (by omega)) (by omega)
  obtain ⟨e1, e2, e3, e4⟩ := ywk (a := a) g.g hnL lx hml eT eD0 eD1 ecn ecd (by omega) (by omega) (hN m (ze5 _)) (hR m (ze5 _)) hW
  have bN1 : ∀ k, k ≤ m + 1 → (digs (fS D (shL (x ++ [a]) (d : Int) τ nL (m + 1)) L nL k).1.natAbs).length ≤ 8388608 := fun k hk => by
   rcases zge m k with hh | hh
   ·obtain rfl : k = m + 1 := by omega
    exact e3
   ·rw [yrs lx hh]
    exact ze6 (hN k hh) (by omega)
  have bR1 : ∀ k, k ≤ m + 1 → (digs (fS D (shL (x ++ [a]) (d : Int) τ nL (m + 1)) L nL k).2.natAbs).length ≤ 2097154 := fun k hk => by
   rcases zge m k with hh | hh
   ·obtain rfl : k = m + 1 := by omega
    exact e4
   ·rw [yrs lx hh]
    exact ze6 (hR k hh) (by omega)
  have bq1 : ∀ k, k ≤ m + 1 → (digs (qF D (shL (x ++ [a]) (d : Int) τ nL (m + 1)) L nL d k)).length ≤ 8388608 := fun k hk => ze6 (zcf hdl (bR1 k hk) (zat dD k)) (by omega)
  have bW1 : ∀ k, k < m + 1 → (digs (fW D (shL (x ++ [a]) (d : Int) τ nL (m + 1)) L nL k).natAbs).length ≤ 3145820 := fun k hk => by
   rcases zge k m with hh | hh
   ·rw [zaz lx hh]
    exact bW0 k hh
   ·obtain rfl : k = m := by omega
    rw [za0 lx hml eT eD1 ecn ecd rfl]
    exact hW
  have hno := fun w u t v h ht hv => zcp w u t v nD nL nT 1048576 1048576 (m + 1) 2097170 D L ts (x ++ [a]) h ht hv hD hL hT (by omega) c1 c1 (by omega) lD lLL lT (by simp [lx]) g1 τ d hdn0 (by omega) tok (2097170 + (A + S) + 1) (by omega) (yts (zaq (fun i z hz => ze6 (dx i z hz) (show Kx ≤ 2097170 by omega)) ha) dτ (by omega) (m + 1)) bW1 bN1 bq1
  have hq := (ynw (sh := shL (x ++ [a]) (d : Int) τ nL (m + 1)) g.g hnL hdn0 (k := m + 1) (by omega)).1
  refine ⟨fun hx => ?_, fun hx => ?_⟩
  ·exact zez w u t v r nD nL nT 1048576 1048576 (m + 1) 2097170 1048576 D L ts (x ++ [a]) rn rdn h ht hv hr (by omega) (by omega) _ _ hq e3 (bq1 _ (ze5 _)) hno ((iff_a a ha).2 hx)
  ·exact zey w u t v r nD nL nT 1048576 1048576 (m + 1) 2097170 1048576 D L ts (x ++ [a]) rn rdn h ht hv hr (by omega) (by omega) _ _ hq e3 (bq1 _ (ze5 _)) hno (Int.not_le.1 (fun hh => absurd ((iff_a a ha).1 hh) (Int.not_le.2 hx)))
 have hrR : 0 < (rdn : Int) * (fS D (shL x (d : Int) τ nL m) L nL m).2 := ziq hrd pR
 have emp : ∀ (lo hi : Int), hi < lo → (∀ a : Int, lf * D0 < (a * cd - cn) * (a * cd - cn) * ((rdn : Int) * (fS D (shL x (d : Int) τ nL m) L nL m).2)) → ∀ (w : World) (u t v r : Value), Hs w (SF [Vv nD D 1048576, Mv nL L 1048576]) u → Hs w (QV nT ts 1048576) t → Hs w (Vv m x 1048576) v → Hs w (PR (Zv rn 1048576) (Zv (rdn : Int) 1048576)) r → CG 16 #[u, t, v, r] w (THREE (IS (.agg #[.bool false, .slice none 0 0])) (IS (.agg #[.bool false, .slice none 0 0])) (IS (.bool false))) := fun lo hi hlh hno w u t v r h ht hv hr =>
  zen w u t v r nD nL nT 1048576 1048576 m 1048576 2097170 1048576 D L ts x rn (rdn : Int) z lo hi cn qcn h ht hv hr hm1 (by omega) (by omega) zc (by omega) (by omega) hzz (by omega) hdc (fun a _ _ w u t v r h ht hv hr => (wi a w u t v r h ht hv hr).2 (hno a)) (by omega)
 rcases Int.lt_or_le lf 0 with hl | hl
 ·exact law_s' _ _ 0 (Or.inr ⟨hrd, rfl⟩) hk hn hc
   (fun w u t v r h ht hv hr => yya w u t v r nD nL nT 1048576 1048576 m 1048576 D L ts x h ht hv hD hL hT hm1 c1 c1 c1 lD lLL lT lx 1048576 rn (rdn : Int) hr (by omega) g2 16777216 τ (d : Int) (by omega) lτ hof (fun k hk => ze6 (hN k hk) (by omega)) (fun k hk => ze6 (hR k hk) (by omega)) _ (hsx m) (by omega) hml _ _ (yaf _) (yaf _) (fun _ => yao) (fun _ => yao) _ (fun w pa u r h0 h1 => ze0 w pa nD nL nL 16777216 D L τ (d : Int) (by omega) hL hL (ze5 _) lD lLL lτ u m _ _ _ _ _ _ _ _ h0 hml (ydx _ _ _ _ _) rfl (by omega) r rn (rdn : Int) T0 D1 cn cd 1048576 h1 (ze5 _) eT eD1 ecn ecd (fun w u r h1 h2 => yzg w pa nD nL nL 16777216 D L τ (d : Int) (by omega) hL hL (ze5 _) lD lLL lτ u m _ _ _ _ _ _ _ _ h1 hml (ydx _ _ _ _ _) rfl (by omega) r rn (rdn : Int) D0 D1 lf 1048576 h2 (by omega) (by omega) (by omega) eD0 eD1 elf 0 0 _ (Or.inl ⟨hl, rfl⟩))))
   hmn hdc (fun _ => emp 1 0 (by omega) (fun a => Int.lt_of_lt_of_le (Int.mul_neg_of_neg_of_pos hl p0) (zg2 (zc8 _) (zhe hrR))))
 obtain ⟨sq, eS⟩ : ∃ y, fl (lf * D0) ((rdn : Int) * (fS D (shL x (d : Int) τ nL m) L nL m).2) = y := ⟨_, rfl⟩
 have hs0 : 0 ≤ sq := by rw [← eS]; exact za4 (zg2 hl (zhe p0)) hrR
 have hsq : sq * ((rdn : Int) * (fS D (shL x (d : Int) τ nL m) L nL m).2) ≤ lf * D0 := (yl4 hrR).1 (by rw [eS]; exact zi3 _)
 have bsq : (digs sq.natAbs).length ≤ 2097152 := by
  have q := zes elf pN hrd pR p0 hs0 hsq
  refine ze6 (yae (m := (rn * ((d : Int) * (d : Int)) * D1 * D0).natAbs) (by omega)) (ze6 (yco (yco (yco brn (yco hdz hdz)) bD1) bD0) (by omega))
 obtain ⟨hr1, hr2⟩ := ypo sq.natAbs
 have bρ : (digs (((rt sq.natAbs : Nat) : Int)).natAbs).length ≤ 2097152 := by rw [zfn]; exact ze6 (yae (zcw _)) bsq
 have key : ∀ a : Int, (a * cd - cn) * (a * cd - cn) * ((rdn : Int) * (fS D (shL x (d : Int) τ nL m) L nL m).2) ≤ lf * D0 ↔ -fl (((rt sq.natAbs : Nat) : Int) - cn) cd ≤ a ∧ a ≤ fl (cn + ((rt sq.natAbs : Nat) : Int)) cd := fun a => by
  rw [← yl4 hrR, eS]
  exact zcn pcd rfl hr1 hr2 hs0
 obtain ⟨hi, eH⟩ : ∃ y, fl (cn + ((rt sq.natAbs : Nat) : Int)) cd = y := ⟨_, rfl⟩
 obtain ⟨tn, eL⟩ : ∃ y, fl (((rt sq.natAbs : Nat) : Int) - cn) cd = y := ⟨_, rfl⟩
 rw [eH, eL] at key
 have bhi : (digs hi.natAbs).length ≤ 2097154 := by rw [← eH]; exact yhf (by omega) (yf5 (k := 2097152) (by omega) bρ)
 have btn : (digs tn.natAbs).length ≤ 2097154 := by rw [← eL]; exact yhf (by omega) (yjb (k := 2097152) bρ (by omega))
 rcases Int.lt_or_le hi (-tn) with hx | hx
 ·exact law_s' _ _ 0 (Or.inr ⟨hrd, rfl⟩) hk hn hc
   (fun w u t v r h ht hv hr => yya w u t v r nD nL nT 1048576 1048576 m 1048576 D L ts x h ht hv hD hL hT hm1 c1 c1 c1 lD lLL lT lx 1048576 rn (rdn : Int) hr (by omega) g2 16777216 τ (d : Int) (by omega) lτ hof (fun k hk => ze6 (hN k hk) (by omega)) (fun k hk => ze6 (hR k hk) (by omega)) _ (hsx m) (by omega) hml _ _ (yaf _) (yaf _) (fun _ => yao) (fun _ => yao) _ (fun w pa u r h0 h1 => zdi w pa nD nL nL 16777216 D L τ (d : Int) (by omega) hL hL (ze5 _) lD lLL lτ u m _ _ _ _ _ _ _ _ h0 hml (ydx _ _ _ _ _) rfl (by omega) r rn (rdn : Int) T0 D1 cn cd 1048576 h1 (ze5 _) eT eD1 ecn ecd _ hi tn (by omega) (by omega) eH eL (fun w u r h1 h2 => yzg w pa nD nL nL 16777216 D L τ (d : Int) (by omega) hL hL (ze5 _) lD lLL lτ u m _ _ _ _ _ _ _ _ h1 hml (ydx _ _ _ _ _) rfl (by omega) r rn (rdn : Int) D0 D1 lf 1048576 h2 (by omega) (by omega) (by omega) eD0 eD1 elf sq _ _ (Or.inr ⟨hl, Int.ne_of_gt hrR, eS, hs0, rfl, rfl⟩)) _ (Or.inl ⟨hx, rfl⟩)))
   hmn hdc (fun _ => emp (-tn) hi hx (fun a => Int.not_le.1 (fun hh => by have := (key a).1 hh; omega)))
 have hz : -tn ≤ z ∧ z ≤ hi := (key z).1 (Int.le_trans (Int.mul_le_mul_of_nonneg_right (hle hi) (zhe hrR)) ((key hi).2 ⟨hx, zi3 _⟩))
 obtain ⟨hz1, hz2⟩ := hz
 have b4 : (digs 4).length ≤ 1 := dl1 (z := 4) (by decide)
 have b2 : (digs 2).length ≤ 1 := dl1 (z := 2) (by decide)
 have bnd : ∀ T : Nat, (digs T).length ≤ 2097160 → (digs (4 * T + 2)).length ≤ 2097162 := fun T hT => yb5 (k := 2097161) (ze6 (yam b4 hT) (by omega)) (by omega)
 have bT : ∀ (T : Nat) (σ : Int), σ = 1 ∨ σ = -1 → (digs T).length ≤ 2097160 → ∀ s : Nat, s ≤ 3 * T + 2 → (digs (z + σ * ((s : Nat) : Int)).natAbs).length ≤ 2097170 := fun T σ hσ hT s hs => by
  refine ze6 (yae (m := z.natAbs + (4 * T + 2)) ?_) (ze6 (yb5 (k := 2097162) (by omega) (bnd T hT)) (by omega))
  rcases hσ with rfl | rfl <;> omega
 have bTl : (digs (z + tn).toNat).length ≤ 2097160 := ze6 (yae (m := (z + tn).natAbs) (by omega)) (ze6 (yf5 (k := 2097154) (by omega) btn) (by omega))
 have bTh : (digs (hi - z).toNat).length ≤ 2097160 := ze6 (yae (m := (hi - z).natAbs) (by omega)) (ze6 (yjb (k := 2097154) bhi (by omega)) (by omega))
 have el : z + (-1) * (((z + tn).toNat : Nat) : Int) = -tn := by omega
 have eh : z + 1 * (((hi - z).toNat : Nat) : Int) = hi := by omega
 have hb : ∀ (w : World) (u t v r : Value), Hs w (SF [Vv nD D 1048576, Mv nL L 1048576]) u → Hs w (QV nT ts 1048576) t → Hs w (Vv m x 1048576) v → Hs w (PR (Zv rn 1048576) (Zv (rdn : Int) 1048576)) r → CG 16 #[u, t, v, r] w (THREE (ZN (-tn)) (ZN hi) (IS (.bool true))) := fun w u t v r h ht hv hr => by
  have q := zeo w u t v r nD nL nT 1048576 1048576 m 1048576 2097170 1048576 D L ts x rn (rdn : Int) z (-tn) hi cn qcn h ht hv hr hm1 (by omega) (by omega) zc (by omega) (by omega) hzz (by omega) hdc
   (fun a h1 h2 w u t v r h ht hv hr => (wi a w u t v r h ht hv hr).1 ((key a).2 ⟨h1, h2⟩))
   (fun a h1 _ w u t v r h ht hv hr => (wi a w u t v r h ht hv hr).2 (Int.not_le.1 (fun hh => by have := (key a).1 hh; omega)))
   hz1 hz2 _ _ el eh (ze6 (bnd _ bTl) (by omega)) (bT _ _ (Or.inr rfl) bTl) (ze6 (bnd _ bTh) (by omega)) (bT _ _ (Or.inl rfl) bTh)
  rw [el, eh] at q
  exact q
 exact law_s _ _ _ _ (ZN (-tn)) (ZN hi) (yai _) (yai _) (fun _ => yah) (fun _ => yah) _ _ true _ _ (fun _ => yp1) (fun _ => yp1) 0 hml (Or.inr ⟨hrd, rfl⟩) (fun h => absurd rfl h) hk hn hc
  (fun w u t v r h ht hv hr => yya w u t v r nD nL nT 1048576 1048576 m 1048576 D L ts x h ht hv hD hL hT hm1 c1 c1 c1 lD lLL lT lx 1048576 rn (rdn : Int) hr (by omega) g2 16777216 τ (d : Int) (by omega) lτ hof (fun k hk => ze6 (hN k hk) (by omega)) (fun k hk => ze6 (hR k hk) (by omega)) _ (hsx m) (by omega) hml (ZN (-tn)) (ZN hi) (yai _) (yai _) (fun _ => yah) (fun _ => yah) true (fun w pa u r h0 h1 => zdi w pa nD nL nL 16777216 D L τ (d : Int) (by omega) hL hL (ze5 _) lD lLL lτ u m _ _ _ _ _ _ _ _ h0 hml (ydx _ _ _ _ _) rfl (by omega) r rn (rdn : Int) T0 D1 cn cd 1048576 h1 (ze5 _) eT eD1 ecn ecd _ hi tn (by omega) (by omega) eH eL (fun w u r h1 h2 => yzg w pa nD nL nL 16777216 D L τ (d : Int) (by omega) hL hL (ze5 _) lD lLL lτ u m _ _ _ _ _ _ _ _ h1 hml (ydx _ _ _ _ _) rfl (by omega) r rn (rdn : Int) D0 D1 lf 1048576 h2 (by omega) (by omega) (by omega) eD0 eD1 elf sq _ _ (Or.inr ⟨hl, Int.ne_of_gt hrR, eS, hs0, rfl, rfl⟩)) _ (Or.inr ⟨hx, rfl⟩)))
  hmn hdc (fun _ => hb)
theorem yyj {W : World} {a b : Option Addr} {n c m e : Nat} {es : List El} {rs : List Rw} (s1 : Ls W a n c es) (s2 : Ms W b m e rs) : Hs W (SF [Vx n es, Mx m (rs.map Rw.es)]) (.agg #[.slice a n c, .slice b m e]) := fun w' ev => by
 refine ⟨_, rfl, rfl, by simp [Value.oneCell'], fun f p hf => ?_⟩
 match f, hf with
 | 0, hf =>
  obtain rfl := Option.some.inj hf
  exact ⟨_, rfl, yyu s1 w' ev⟩
 | 1, hf =>
  obtain rfl := Option.some.inj hf
  exact ⟨_, rfl, zbx s2 w' ev⟩
theorem zch {w : World} {p : Option Addr} {n c : Nat} {rs : List Ra} (h0 : Qs w p n c rs) : Hs w (Qx n rs) (.slice p n c) := fun w' e => by
 have h := zek h0 e
 refine ⟨p, c, rfl, by simp [h.len], ⟨h.cap, h.max, h.nil⟩, fun i φ hφ => ?_⟩
 obtain ⟨r, hr, rfl⟩ := ya3 hφ
 obtain ⟨b, o, e1, ⟨h1, h2, h3, h4⟩, h5, h6⟩ := h.lie i r hr
 refine ⟨b, o, .agg #[.bool r.x.s, .slice r.x.p r.x.n r.x.c, .bool r.y.s, .slice r.y.p r.y.n r.y.c], e1, fun j x hx => ?_, rfl, ?_⟩
 ·match j, hx with
  | 0, hx => simp [Value.cells] at hx; subst hx; exact h1
  | 1, hx => simp [Value.cells] at hx; subst hx; exact h2
  | 2, hx => simp [Value.cells] at hx; subst hx; exact h3
  | 3, hx => simp [Value.cells] at hx; subst hx; exact h4
  | j + 4, hx => simp [Value.cells] at hx
 ·exact ⟨_, _, _, _, rfl, ⟨rfl, h5⟩, ⟨rfl, h6⟩⟩
theorem yhr (w : World) (a : Option Addr) (n c : Nat) (es : List El) (b : Option Addr) (m d : Nat) (rs : List Rw) (a1 : Option Addr) (n1 c1 : Nat) (rq : List Ra) (a2 : Option Addr) (n2 c2 : Nat) (fs : List El) (s : Bool) (a3 : Option Addr) (n3 c3 : Nat) (xs : List Nat) (t : Bool) (b3 : Option Addr) (m3 d3 : Nat) (ys : List Nat) (s0 : Ls w a n c es) (z0 : Ms w b m d rs) (s1 : Qs w a1 n1 c1 rq) (s2 : Ls w a2 n2 c2 fs) (s3 : Sl w a3 n3 c3 xs) (z3 : Sl w b3 m3 d3 ys) (B0 B1 B2 B3 B4 B5 : Nat) (t0 : (es.map (fun e => e.c + 1)).sum ≤ B0) (y0 : d ≤ B1) (yy0 : ∀ (i : Nat) (r : Rw), rs[i]? = some r → r.c ≤ B1 ∧ ∀ (j : Nat) (e : El), r.es[j]? = some e → e.c ≤ B1) (t1 : (rq.map (fun r => r.x.c + r.y.c + 1)).sum ≤ B2) (t2 : (fs.map (fun e => e.c + 1)).sum ≤ B3) (u3 : c3 ≤ B4) (v3 : d3 ≤ B5) (hB : B0 + B1 + B2 + B3 + B4 + B5 + 3 ≤ 1048576) :
  Calls Tryz.prog 3 #[.agg #[.slice a n c, .slice b m d], .slice a1 n1 c1, .slice a2 n2 c2, .agg #[.bool s, .slice a3 n3 c3, .bool t, .slice b3 m3 d3]] w fun e w' => e = .returned (.bool true) ∧ Below w.heap.size w w' := by
 have l0 := s0.len
 have l2 := s2.len
 have q0 := yr9 es
 have q2 := yr9 fs
 have q3 := z0.cap
 have q4 := z0.len
 have q5 := s3.cap
 have q6 := z3.cap
 have hl1 := s1.len
 have h1 := yzw rq
 obtain ⟨m1, _, _, _⟩ := zao s1 (by omega)
 have h2 := yic s1 n1 (ze5 _)
 rw [ze9 (by omega)] at h2
 have hr : Hs w (PR (Zv (sg s (val xs)) 1048576) (Zv (sg t (val ys)) 1048576)) (.agg #[.bool s, .slice a3 n3 c3, .bool t, .slice b3 m3 d3]) := fun w' ev => ⟨_, _, _, _, rfl, ⟨_, _, _, _, _, rfl, yi3 s3 (fun b o e2 _ hb => hb) ev, rfl, by omega⟩, ⟨_, _, _, _, _, rfl, yi3 z3 (fun b o e2 _ hb => hb) ev, rfl, by omega⟩⟩
 have ecap : ∀ (i : Nat) (e : El), es[i]? = some e → e.n ≤ e.c ∧ e.c ≤ B0 := fun i e he => by
  obtain ⟨_, _, _, _, _, hs⟩ := s0.lie i e he
  have := hs.cap
  have := ysm he
  omega
 have fcap : ∀ (i : Nat) (e : El), fs[i]? = some e → e.n ≤ e.c ∧ e.c + n2 ≤ B3 := fun i e he => by
  obtain ⟨_, _, _, _, _, hs⟩ := s2.lie i e he
  have := hs.cap
  have := ysm he
  omega
 have qcap : ∀ (i : Nat) (r : Ra), rq[i]? = some r → (r.x.n ≤ r.x.c ∧ r.x.c ≤ (rq.map (fun r => r.x.c)).sum) ∧ r.y.n ≤ r.y.c ∧ r.y.c ≤ (rq.map (fun r => r.y.c)).sum := fun i r hr => by
  obtain ⟨b, o, _, _, h5, h6⟩ := s1.lie i r hr
  have h3 : r.x.c ≤ (rq.map (fun r => r.x.c)).sum := yg3 (fun r : Ra => r.x.c) hr
  have h4 : r.y.c ≤ (rq.map (fun r => r.y.c)).sum := yg3 (fun r : Ra => r.y.c) hr
  exact ⟨⟨h5.cap, h3⟩, h6.cap, h4⟩
 obtain ⟨e1, e2, e3⟩ := ms_n z0 (k := B1) yy0
 have dD : Dl (es.map El.z) (B0 + B1) := yhc (ygh (fun i x hx => by have := ecap i x hx; omega) _ w (yyu s0).now)
 have dL : Mdl (zz (rs.map Rw.es)) (B0 + B1) := by
  have hb : Hs w (Mv m (zz (rs.map Rw.es)) B1) (.slice b m d) := fun w' ev => ynq e1 _ w' (zbx z0 w' ev)
  intro i zs hz
  obtain ⟨r, hr⟩ := zb0 hb.now hz
  exact fun j z hj => ze6 (yhc hr j z hj) (by omega)
 have hw : wtD (es.map El.z) (m + 1) ≤ B0 + B1 := by
  have h1 := yud (D := es.map El.z) (l := es.map (fun e => e.c + 1)) (by simp) (fun i hi => zdu s0 i (by simpa using hi)) (m + 1)
  have h2 := yvr (es.map (fun e => e.c + 1)) (m + 1)
  omega
 have key := ysl w _ _ _ _ n m n1 n2 es (rs.map Rw.es) rq fs (sg s (val xs)) (sg t (val ys)) (yyj s0 z0) (zch s1) (yyu s2) hr (by omega) (by omega) m1 (by omega) l0 (by simpa using q4) hl1 l2
  (fun i e he => by have := ecap i e he; omega) (fun i l hl j e he => by have := e1 i l hl j e he; omega) (fun i r hr => by have := qcap i r hr; omega) (fun i e he => by have := ecap i e he; omega) (fun i l hl => ⟨by have := e3 i l hl; omega, fun j e he => by have := e2 i l hl j e he; omega⟩) (fun i r hr => by have := qcap i r hr; omega) (fun i e he => by have := fcap i e he; omega)
  ((rq.map (fun r => r.x.c)).sum) (1 + (rq.map (fun r => r.y.c)).sum) (B3 - n2) (B0 + B1) B4 (by omega) (fun i e he => by have := fcap i e he; omega) (by have h7 : (digs (sg s (val xs)).natAbs).length ≤ n3 := ygv s3; omega) dD dL (fun k hk => ?_) (by simpa [hl1] using h2) hw
 ·refine key.mono ?_
  rintro e w' ⟨v, rfl, hb, hv⟩
  obtain rfl : v = _ := hv
  exact ⟨rfl, hb⟩
 ·have hk' : k < rq.length := by simpa using hk
  have hr : rq[k]? = some (rq[k]'hk') := zfb _
  generalize rq[k]'hk' = r at hr
  obtain ⟨b, o, _, _, h5, h6⟩ := s1.lie k r hr
  have h7 : (digs (r.x.z).natAbs).length ≤ r.x.n := ygv h5
  have := qcap k r hr
  rw [ys4 hr]
  show (digs (r.x.z).natAbs).length ≤ _
  omega
end Go.Proofs.YtbkobojhkhiohaaGreat
