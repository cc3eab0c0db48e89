import Derived.Test.YtbkobojhkhiohaaGreatFmD
set_option linter.all false
namespace Go.Proofs.YtbkobojhkhiohaaGreat
open Go Go.RowKit Nt
set_option maxRecDepth 20000
set_option maxHeartbeats 16000000
theorem yhq : ∀ v w, Is (.agg #[.bool false, .slice none 0 0]) v w → Nmx false [] v w := fun v w e => ⟨none, 0, 0, e, Sl.none w⟩
theorem zef (w : World) (u t v r : Value) (nD nL nT m K : Nat) (es : List El) (ess : List (List El)) (rq : List Ra) (fs : List El) (rn rd : Int) (h : Hs w (SF [Vx nD es, Mx nL ess]) u) (ht : Hs w (Qx nT rq) t) (hv : Hs w (Vx m fs) v) (hr : Hs w (PR (Zv rn K) (Zv rd K)) r) (hD : nD ≤ 1048576) (hL : nL ≤ 1048576) (hT : nT ≤ 1048576) (hm0 : m ≤ 1048576) (hK : K ≤ 1048576) (hen : ∀ (i : Nat) e, es[i]? = some e → e.n ≤ K) (hme : Me ess El.n K) (hqn : ∀ (i : Nat) r, rq[i]? = some r → r.x.n ≤ K ∧ r.y.n ≤ K) (hfn : ∀ (i : Nat) e, fs[i]? = some e → e.n ≤ K) (hC : ∀ (i : Nat) e, es[i]? = some e → e.c ≤ 35184372087808) (hCC : ∀ (i : Nat) l, ess[i]? = some l → l.length ≤ 1048576 ∧ ∀ (j : Nat) e, l[j]? = some e → e.c ≤ 35184372087808) (hCQ : ∀ (i : Nat) r, rq[i]? = some r → r.x.c ≤ 35184372087808 ∧ r.y.c ≤ 35184372087808) (hCF : ∀ (i : Nat) e, fs[i]? = some e → e.c ≤ 35184372087808) (lL : ess.length = nL) (P0 : Nat → Pr) (f0 : Fresh P0) (s0 : ∀ lo, Shp 4 (P0 lo)) (sa sb : Bool) (xa xb : List Nat) (c0 : ∀ lo v w, P0 lo v w → PR (Nmx sa xa) (Nmx sb xb) v w) (e0 d1 d2 : Int) (hz : e0 ≠ 0 → sa = false ∧ xa = [] ∧ sb = false ∧ xb = []) (he1 : (e0 ≠ 0 ∧ e0 = d1) ∨ (e0 = 0 ∧ m = nL ∧ d1 = 1)) (he3 : (e0 ≠ 0 ∧ d1 = d2) ∨ (e0 = 0 ∧ rd ≤ 0 ∧ d2 = 30) ∨ (e0 = 0 ∧ 0 < rd ∧ d1 = d2)) (h1 : d1 ≠ 0) (h2 : d2 ≠ 0) (hk : ∀ (w : World) (u t v : Value), Hs w (SF [Vv nD (es.map El.z) K, Mv nL (zz ess) K]) u → Hs w (QV nT (qz rq) K) t → Hs w (Vv m (fs.map El.z) K) v → CG 4 #[u, t, v] w ((IS (.int .i64 e0)))) (hn : ∀ (w : World) (u t v : Value), Hs w (SF [Vv nD (es.map El.z) K, Mv nL (zz ess) K]) u → Hs w (QV nT (qz rq) K) t → Hs w (Vv m (fs.map El.z) K) v → CG 5 #[u, t, v] w ((TWO P0 (IS (.int .i64 e0))))) (hc : ∀ (w : World) (u t v : Value), Hs w (SF [Vv nD (es.map El.z) K, Mv nL (zz ess) K]) u → Hs w (QV nT (qz rq) K) t → Hs w (Vv m (fs.map El.z) K) v → CG 11 #[u, t, v] w ((TWO (IS (.agg #[.bool false, .slice none 0 0, .bool false, .slice none 0 0])) (IS (.int .i64 d1))))) (ha : ∀ (w : World) (u t v r : Value), Hs w (SF [Vv nD (es.map El.z) K, Mv nL (zz ess) K]) u → Hs w (QV nT (qz rq) K) t → Hs w (Vv m (fs.map El.z) K) v → Hs w (PR (Zv rn K) (Zv rd K)) r → CG 14 #[u, t, v, r] w ((FOUR (IS (.agg #[.bool false, .slice none 0 0])) (IS (.agg #[.bool false, .slice none 0 0])) (IS (.bool false)) (IS (.int .i64 d2))))) (hm : e0 = 0 → ∀ (w : World) (u t v : Value), Hs w (SF [Vv nD (es.map El.z) K, Mv nL (zz ess) K]) u → Hs w (QV nT (qz rq) K) t → Hs w (Vv m (fs.map El.z) K) v → CG 10 #[u, t, v] w (P0)) :
  CG 3 #[u, t, v, r] w (IS (.bool true)) := by
 refine yan (sl := [(0, (SF [(Vx nD es), (Mx nL ess)])), (1, (Ar 4 nT (rq.map (fun r => PR r.x.pr r.y.pr)))), (2, (Vx m fs)), (3, (PR (Zv rn K) (Zv rd K)))]) Tryz.func3 rfl Tryz.ntmps3 (by simp) (yad rfl (h) (yad rfl (ht) (yad rfl (hv) (yad rfl (hr) yar)))) ?_
 intro a0 S0
 refine wq [.new (.box 25 (SF [(Vx nD es), (Mx nL ess)])), .new (.box 31 (PR (Zv rn K) (Zv rd K))), kF] [.inl 0, .inl 1] [.inr 1, .inr 2] S0 ?_ ?_
 ·exact jj3 (bxA wA (oS 0 0) (ybw yas)) (bxA wA (oS 3 3) (ycn (ya2 yak yak))) mC
 intro _ a1 _ (S1 : Zt [_,_] [_,_])
 refine wq [V (SF [(Vx nD es), (Mx nL ess)]), V (Ar 4 nT (rq.map (fun r => PR r.x.pr r.y.pr))), V (Vx m fs), V (iV e0), V (iV e0)] ur2 (.inl 4 :: ur2) S1 ?_ ?_
 ·exact jj5 (loA 0 wA yat yas) (mS 0 1) (mS 1 2) (ch3 wA ((qO 0 20 rfl).imp (yf9 (ygh hen) (ynq hme))) ((qO 1 21 rfl).imp (yqr hqn)) ((qO 2 22 rfl).imp (ygh hfn)) (yaf _) (fun w u0 u1 u2 h0 h1 h2 => hk w u0 u1 u2 h0 h1 h2)) (mO 3 23)
 intro _ a2 _ (S2 : Zt [_,_] [_,_,_])
 refine wq [V (SF [(Vx nD es), (Mx nL ess)]), Fw (GO nD nL es ess) w, V (Ar 4 nT (rq.map (fun r => PR r.x.pr r.y.pr))), Fw (LF 4 nT (rq.map RO)) w, V (Vx m fs), Fw (VO m fs) w, Fw (TWO P0 (IS (.int .i64 e0))) w, Fw (TWO P0 (IS (.int .i64 e0))) w, V (P0 w.heap.size), V (iV e0), .new (.box 31 zR), .put (.inr 10) (.box 31 (P0 w.heap.size)), V (iV e0)] [.inr 0, .inr 1, .inl 10] (.inl 12 :: ur3) S2 ?_ ?_
 ·exact ⟨⟨⟨⟨⟨jj8 (loA 0 wA yat yas) (ch1 wA (qO 0 25 rfl) yfu (fun w u h => yg0 w u nD nL es ess h hD hL hC hCC lL)) (mS 1 1) (ch1 wA (qO 2 27 rfl) yfw (fun w u h => yg1 w u nT rq h hT hCQ)) (mS 2 2) (ch1 wA (qO 4 29 rfl) fresh_vo (fun w u h => ygd hm0 hCF w u h)) (ch3 wA ((qO 1 26 rfl).imp (yqe hen hme)) ((qO 3 28 rfl).imp (yqp hqn)) ((qO 5 30 rfl).imp (ym7 hfn)) (ybv f0 (yaf _)) (fun w u0 u1 u2 h0 h1 h2 => hn w u0 u1 u2 h0 h1 h2)) (mO 6 31), e20 wA (oO 7 24)⟩, e21 wA (oO 7 24)⟩, nwA wA ya5⟩, puA 10 wA (oO 8 32) yaj ybk (s0 _)⟩, mO 9 33⟩
 intro _ a3 _ (S3 : Zt [_,_,_] [_,_,_,_])
 refine yv1 (fun a W => ∃ Bq, Sta w 166 [(4, (.box 25 (SF [(Vx nD es), (Mx nL ess)]))), (7, (.box 31 (PR (Zv rn K) (Zv rd K))))] [(12, iV d1), (9, iV e0), (1, Ar 4 nT (rq.map (fun r => PR r.x.pr r.y.pr))), (2, Vx m fs)] Bq a W) ?_ (fun tail3 => ?_)
 ·rintro a4 W4 ⟨B4, S4⟩
  refine wq [V (SF [(Vx nD es), (Mx nL ess)]), Fw (GO nD nL es ess) w, V (Ar 4 nT (rq.map (fun r => PR r.x.pr r.y.pr))), Fw (LF 4 nT (rq.map RO)) w, V (Vx m fs), Fw (VO m fs) w, Fw (TWO (IS (.agg #[.bool false, .slice none 0 0, .bool false, .slice none 0 0])) (IS (.int .i64 d1))) w, Fw (TWO (IS (.agg #[.bool false, .slice none 0 0, .bool false, .slice none 0 0])) (IS (.int .i64 d1))) w, .val zR, V (iV d1), .new (.box 31 zR), .put (.inr 10) (.box 31 zR), V (iV d1)] [.inr 0, .inr 1, .inl 10] (.inl 12 :: ur4) S4 ?_ ?_
  ·exact ⟨⟨⟨⟨⟨jj8 (loA 0 wA yat yas) (ch1 wA (qO 0 72 rfl) yfu (fun w u h => yg0 w u nD nL es ess h hD hL hC hCC lL)) (mS 2 1) (ch1 wA (qO 2 74 rfl) yfw (fun w u h => yg1 w u nT rq h hT hCQ)) (mS 3 2) (ch1 wA (qO 4 76 rfl) fresh_vo (fun w u h => ygd hm0 hCF w u h)) (ch3 wA ((qO 1 73 rfl).imp (yqe hen hme)) ((qO 3 75 rfl).imp (yqp hqn)) ((qO 5 77 rfl).imp (ym7 hfn)) (ybv (yaf _) (yaf _)) (fun w u0 u1 u2 h0 h1 h2 => hc w u0 u1 u2 h0 h1 h2)) (mO 6 78), e20 wA (oO 7 71)⟩, e21 wA (oO 7 71)⟩, nwA wA ya5⟩, puA 10 wA (oO 8 79) yaj ybk ybk⟩, mO 9 80⟩
  intro B5 a5 W5 (S5 : Zt [_,_,_] [_,_,_,_,_])
  refine wp_seq ?_
  refine wq [V (iV d1), V (iV d1), kF, kF, V (iV d1), kF, kF, .off, .off, .off, .off, .off, .off, .off, kF, kF, kF, V (iV d1), kT, kT, .val zR, .val zR, kT, kF, kF, kF] ur2 [.inl 25, .inr 1, .inr 2, .inr 3, .inr 4] S5 ?_ ?_
  ·exact ⟨⟨⟨⟨⟨⟨⟨⟨⟨⟨⟨⟨⟨⟨⟨⟨⟨⟨jj8 (mS 0 11) (mS 1 12) (ya0 wA (oO 0 81) (oO 1 82) (h := rfl)) (mO 2 83) (mW (wI 3 84) (oS 1 12)) (ybs (wI 3 84) (oO 4 85) (yab _) (h := h1)) (mW (wI 3 84) (oO 5 86)) (oF 6 87), oF 6 87⟩, oF 6 87⟩, oF 6 87⟩, oF 6 87⟩, oF 6 87⟩, oF 6 87⟩, pF (wI 3 84) (oO 6 87) (yab _)⟩, pF wA (oO 3 84) (oO 14 95)⟩, mO 15 96⟩, mW (wI 16 97) (oS 1 12)⟩, ybb (wI 16 97) (oO 17 98) (yab _) (h := h1)⟩, mW (wI 16 97) (oO 18 99)⟩, loA 2 (wI 19 100) yaj ybk⟩, yda rfl (wI 19 100) rfl rfl⟩, ch2 (wI 19 100) ((qO 20 101 rfl).imp yv2) ((qO 21 102 rfl).imp yv2) (yaf _) (fun w u v h h' => yl2 w u v _ _ _ _ h h')⟩, ydb (wI 19 100) (oO 22 103)⟩, pT (wI 16 97) (oO 19 100) (oO 23 104)⟩, pF wA (oO 16 97) (oO 24 105)⟩
  intro B6 a6 W6 (S6 : Zt [_,_] [_,_,_,_,_])
  refine wp_cond_false (S6.bool 0 106 rfl) (wp_skip (thenN ?_))
  refine ye4 (fun a W => ∃ Bq, Sta w 166 [(4, (.box 25 (SF [(Vx nD es), (Mx nL ess)]))), (7, (.box 31 (PR (Zv rn K) (Zv rd K))))] [(12, iV d2), (1, Ar 4 nT (rq.map (fun r => PR r.x.pr r.y.pr))), (2, Vx m fs)] Bq a W) ?_ ?_
  ·rintro a7 W7 ⟨B7, S7⟩
   refine wq [V (SF [(Vx nD es), (Mx nL ess)]), Fw (GO nD nL es ess) w, V (Ar 4 nT (rq.map (fun r => PR r.x.pr r.y.pr))), Fw (LF 4 nT (rq.map RO)) w, V (Vx m fs), Fw (VO m fs) w, V (PR (Zv rn K) (Zv rd K)), Fw (FOUR (IS (.agg #[.bool false, .slice none 0 0])) (IS (.agg #[.bool false, .slice none 0 0])) (IS (.bool false)) (IS (.int .i64 d2))) w, Fw (FOUR (IS (.agg #[.bool false, .slice none 0 0])) (IS (.agg #[.bool false, .slice none 0 0])) (IS (.bool false)) (IS (.int .i64 d2))) w, .val zI, .val zI, kF, V (iV d2), .new (.box 29 zI), .new (.box 29 zI), .put (.inr 13) (.box 29 zI), .put (.inr 14) (.box 29 zI), kF, V (iV d2)] [.inr 0, .inr 1, .inl 13, .inl 14] (.inl 17 :: .inl 18 :: ur3) S7 ?_ ?_
   ·exact ⟨⟨⟨⟨⟨⟨⟨⟨⟨⟨⟨jj8 (loA 0 wA yat yas) (ch1 wA (qO 0 115 rfl) yfu (fun w u h => yg0 w u nD nL es ess h hD hL hC hCC lL)) (mS 1 1) (ch1 wA (qO 2 117 rfl) yfw (fun w u h => yg1 w u nT rq h hT hCQ)) (mS 2 2) (ch1 wA (qO 4 119 rfl) fresh_vo (fun w u h => ygd hm0 hCF w u h)) (loA 1 wA yaj (ya2 yak yak)) (ybj rfl wA rfl ((oO 1 116).imp (yqe hen hme)) ((oO 3 118).imp (yqp hqn)) ((oO 5 120).imp (ym7 hfn)) (oO 6 121) (yjd (yaf _) (yaf _) (yaf _) (yaf _)) rfl (fun args w => by go_simp) (fun w u0 u1 u2 u3 h0 h1 h2 h3 => ha w u0 u1 u2 u3 h0 h1 h2 h3)), mO 7 122⟩, yee rfl wA rfl (oO 8 114) (Or.inl ⟨rfl, rfl⟩) rfl⟩, yee rfl wA rfl (oO 8 114) (Or.inr (Or.inl ⟨rfl, rfl⟩)) rfl⟩, yee rfl wA rfl (oO 8 114) (Or.inr (Or.inr (Or.inl ⟨rfl, rfl⟩))) rfl⟩, yee rfl wA rfl (oO 8 114) (Or.inr (Or.inr (Or.inr ⟨rfl, rfl⟩))) rfl⟩, nwA wA yal⟩, nwA wA yal⟩, puA 13 wA (oO 9 123) yaa yao yao⟩, puA 14 wA (oO 10 124) yaa yao yao⟩, mO 11 125⟩, mO 12 126⟩
   intro B8 a8 W8 (S8 : Zt [_,_,_,_] [_,_,_,_,_])
   refine wp_seq ?_
   refine wq [V (iV d2), V (iV d2), kF] ur4 [.inl 2, .inr 0, .inr 2, .inr 3, .inr 4] S8 ?_ ?_
   ·exact jj3 (mS 1 11) (mS 2 12) (ya0 wA (oO 0 127) (oO 1 128) (h := rfl))
   intro _ a9 _ (S9 : Zt [_,_,_,_] [_,_,_,_,_])
   refine wp_cond_false (S9.bool 0 129 rfl) (wp_skip (thenN (wp_seq ?_)))
   refine wq [V (iV d2), kT] ur4 [.inl 1, .inr 1, .inr 3, .inr 4] S9 ?_ ?_
   ·exact jj2 (mS 2 12) (ybb wA (oO 0 130) (yab _) (h := h2))
   intro _ a10 _ (S10 : Zt [_,_,_,_] [_,_,_,_])
   refine wp_cond_true (S10.bool 0 131 rfl) ?_
   refine wq [kF, kT, kT, .val zI, .val zI, kT, kT, kT, .val zI, .val zI, kT, kT, kT] [.inr 0] [.inl 12] S10 ?_ ?_
   ·exact ⟨⟨⟨⟨⟨jj8 (mS 1 16) (ydb wA (oO 0 132)) (mO 1 133) (loA 2 (wI 2 134) yaa yao) (ybd rfl (wI 2 134) rfl rfl) (ch2 (wI 2 134) ((qO 3 135 rfl).imp yhq) ((qO 4 136 rfl).imp yhq) (yaf _) (fun w u v h h' => h_eq w u v h.now h'.now)) (pT wA (oO 2 134) (oO 5 137)) (mO 6 138), loA 3 (wI 7 139) yaa yao⟩, ybd rfl (wI 7 139) rfl rfl⟩, ch2 (wI 7 139) ((qO 8 140 rfl).imp yhq) ((qO 9 141 rfl).imp yhq) (yaf _) (fun w u v h h' => h_eq w u v h.now h'.now)⟩, pT wA (oO 7 139) (oO 10 142)⟩, mO 11 143⟩
   intro _ a11 _ (S11 : Zt [_] [_])
   refine wp_ret (thenR ?_)
   exact yav S11 rfl (yaw S11 0 8 rfl)
  ·rcases he3 with ⟨he, hd⟩ | ⟨he, hrd, hd⟩ | ⟨he, hrd, hd⟩
   ·skip
    subst hd
    refine wq [V (iV e0), kF, kF, .off, .off, .off, kF] ur2 [.inl 6, .inr 1, .inr 3, .inr 4] S6 ?_ ?_
    ·repeat' refine And.intro ?_ ?_
     ·trivial
     ·exact mS 2 9
     ·exact ybs wA (oO 0 107) (yab _) (h := he)
     ·exact mO 1 108
     ·exact oF 2 109
     ·exact oF 2 109
     ·exact oF 2 109
     ·exact pF wA (oO 2 109) (yab _)
    intro B7 a7 W7 (S7 : Zt [_,_] [_,_,_,_])
    refine wp_cond_false (S7.bool 0 113 rfl) (wp_skip (thenN ?_))
    exact ⟨B7, S7.sub [0, 1] [1, 2, 3]⟩
   ·skip
    have hdv : decide (0 < rd.sign) = false := decide_eq_false (by have := yd1 hrd; omega)
    subst hd
    refine wq [V (iV e0), kT, kT, V (PR (Zv rn K) (Zv rd K)), kF, kT, kT] ur2 [.inl 6, .inr 1, .inr 3, .inr 4] S6 ?_ ?_
    ·repeat' refine And.intro ?_ ?_
     ·trivial
     ·exact mS 2 9
     ·exact ybm wA (oO 0 107) (yab _) (h := he)
     ·exact mO 1 108
     ·exact loA 1 (wI 2 109) yaj (ya2 yak yak)
     ·exact cc1 (wI 2 109) (qO 3 110 rfl) (yaf _) (fun w u h => Gives.cast (ψ := (IS (.bool false))) (yed (k1 := K) (k2 := K) (by omega) (by omega) w u h) (by rw [hdv]))
     ·exact ydb (wI 2 109) (oO 4 111)
     ·exact pT wA (oO 2 109) (oO 5 112)
    intro B7 a7 W7 (S7 : Zt [_,_] [_,_,_,_])
    refine wp_cond_true (S7.bool 0 113 rfl) ?_
    refine wr [V (iV 30)] ur2 [.inl 0, .inr 2, .inr 3] S7 ?_ ?_
    ·exact jj1 mC
    intro B8 a8 W8 (S8 : Zt [_,_] [_,_,_])
    refine thenN ?_
    exact ⟨B8, S8.sub [0, 1] [0, 1, 2]⟩
   ·skip
    have hdv : decide (0 < rd.sign) = true := by rw [yfk hrd]; rfl
    subst hd
    refine wq [V (iV e0), kT, kT, V (PR (Zv rn K) (Zv rd K)), kT, kF, kF] ur2 [.inl 6, .inr 1, .inr 3, .inr 4] S6 ?_ ?_
    ·repeat' refine And.intro ?_ ?_
     ·trivial
     ·exact mS 2 9
     ·exact ybm wA (oO 0 107) (yab _) (h := he)
     ·exact mO 1 108
     ·exact loA 1 (wI 2 109) yaj (ya2 yak yak)
     ·exact cc1 (wI 2 109) (qO 3 110 rfl) (yaf _) (fun w u h => Gives.cast (ψ := (IS (.bool true))) (yed (k1 := K) (k2 := K) (by omega) (by omega) w u h) (by rw [hdv]))
     ·exact ydb (wI 2 109) (oO 4 111)
     ·exact pT wA (oO 2 109) (oO 5 112)
    intro B7 a7 W7 (S7 : Zt [_,_] [_,_,_,_])
    refine wp_cond_false (S7.bool 0 113 rfl) (wp_skip (thenN ?_))
    exact ⟨B7, S7.sub [0, 1] [1, 2, 3]⟩
 ·rcases he1 with ⟨he, hd1⟩ | ⟨he, hml, hd1⟩
  ·skip
   obtain ⟨rfl, rfl, rfl, rfl⟩ := hz he
   subst hd1
   refine wp_seq ?_
   refine wq [V (iV e0), V (iV e0), kF, kF, V (iV e0), kF, kF, .off, .off, .off, .off, .off, .off, .off, kF, kF, kF, V (iV e0), kT, kT, V (P0 w.heap.size), .val zR, kT, kF, kF, kF] ur2 [.inl 25, .inr 1, .inr 2, .inr 3] S3 ?_ ?_
   ·exact ⟨⟨⟨⟨⟨⟨⟨⟨⟨⟨⟨⟨⟨⟨⟨⟨⟨⟨jj8 (mS 0 11) (mS 1 9) (ya0 wA (oO 0 34) (oO 1 35) (h := rfl)) (mO 2 36) (mW (wI 3 37) (oS 1 9)) (ybs (wI 3 37) (oO 4 38) (yab _) (h := he)) (mW (wI 3 37) (oO 5 39)) (oF 6 40), oF 6 40⟩, oF 6 40⟩, oF 6 40⟩, oF 6 40⟩, oF 6 40⟩, oF 6 40⟩, pF (wI 3 37) (oO 6 40) (yab _)⟩, pF wA (oO 3 37) (oO 14 48)⟩, mO 15 49⟩, mW (wI 16 50) (oS 1 9)⟩, ybb (wI 16 50) (oO 17 51) (yab _) (h := he)⟩, mW (wI 16 50) (oO 18 52)⟩, loA 2 (wI 19 53) yaj (s0 _)⟩, yda rfl (wI 19 53) rfl rfl⟩, ch2 (wI 19 53) ((qO 20 54 rfl).imp (c0 _)) ((qO 21 55 rfl).imp yv2) (yaf _) (fun w u v h h' => yl2 w u v _ _ _ _ h h')⟩, ydb (wI 19 53) (oO 22 56)⟩, pT (wI 16 50) (oO 19 53) (oO 23 57)⟩, pF wA (oO 16 50) (oO 24 58)⟩
   intro B4 a4 W4 (S4 : Zt [_,_] [_,_,_,_])
   refine wp_cond_false (S4.bool 0 59 rfl) (wp_skip (thenN ?_))
   refine wq [V (iV e0), V (iV e0)] ur2 [.inl 1, .inr 1, .inr 2, .inr 3] S4 ?_ ?_
   ·exact jj2 (mS 1 9) (mO 0 60)
   intro B5 a5 W5 (S5 : Zt [_,_] [_,_,_,_])
   refine ye4 _ tail3 ?_
   refine wq [V (iV e0), kF, kF, .off, .off, .off, .off, .off, .off, kF] ur2 (.inl 9 :: ur4) S5 ?_ ?_
   ·exact ⟨⟨jj8 (mS 0 12) (ybs wA (oO 0 61) (yab _) (h := he)) (mO 1 62) (oF 2 63) (oF 2 63) (oF 2 63) (oF 2 63) (oF 2 63), oF 2 63⟩, pF wA (oO 2 63) (yab _)⟩
   intro B6 a6 W6 (S6 : Zt [_,_] [_,_,_,_,_])
   refine wp_cond_false (S6.bool 0 70 rfl) (wp_skip (thenN ?_))
   exact ⟨B6, S6.sub [0, 1] [1, 2, 3, 4]⟩
  ·skip
   subst hd1
   refine wp_seq ?_
   refine wq [V (iV e0), V (iV e0), kF, kF, V (iV e0), kT, kT, V (P0 w.heap.size), V (SF [(Vx nD es), (Mx nL ess)]), V (Ar 4 nT (rq.map (fun r => PR r.x.pr r.y.pr))), V (Vx m fs), V (P0 w.heap.size), kT, kF, kF, kF, kF, V (iV e0), kF, kF, .off, .off, .off, .off, kF, kF] ur2 [.inl 25, .inr 1, .inr 2, .inr 3] S3 ?_ ?_
   ·exact ⟨⟨⟨⟨⟨⟨⟨⟨⟨⟨⟨⟨⟨⟨⟨⟨⟨⟨jj8 (mS 0 11) (mS 1 9) (ya0 wA (oO 0 34) (oO 1 35) (h := rfl)) (mO 2 36) (mW (wI 3 37) (oS 1 9)) (ybm (wI 3 37) (oO 4 38) (yab _) (h := he)) (mW (wI 3 37) (oO 5 39)) (loA 2 (wI 6 40) yaj (s0 _)), loA 0 (wI 6 40) yat yas⟩, mW (wI 6 40) (oS 2 1)⟩, mW (wI 6 40) (oS 3 2)⟩, yjp rfl (wI 6 40) rfl ((oO 8 42).imp (yf9 (ygh hen) (ynq hme))) ((oO 9 43).imp (yqr hqn)) ((oO 10 44).imp (ygh hfn)) f0 rfl (fun args w => by go_simp) (fun w u0 u1 u2 h0 h1 h2 => hm he w u0 u1 u2 h0 h1 h2)⟩, ch2 (wI 6 40) ((qO 7 41 rfl).imp (c0 _)) ((qO 11 45 rfl).imp (c0 _)) (yaf _) (fun w u v h h' => yl2 w u v _ _ _ _ h h')⟩, ydb (wI 6 40) (oO 12 46)⟩, pT (wI 3 37) (oO 6 40) (oO 13 47)⟩, pF wA (oO 3 37) (oO 14 48)⟩, mO 15 49⟩, mW (wI 16 50) (oS 1 9)⟩, ya0 (wI 16 50) (oO 17 51) (yab _) (h := he)⟩, mW (wI 16 50) (oO 18 52)⟩, oF 19 53⟩, oF 19 53⟩, oF 19 53⟩, oF 19 53⟩, pF (wI 16 50) (oO 19 53) (yab _)⟩, pF wA (oO 16 50) (oO 24 58)⟩
   intro B4 a4 W4 (S4 : Zt [_,_] [_,_,_,_])
   refine wp_cond_false (S4.bool 0 59 rfl) (wp_skip (thenN ?_))
   refine wq [V (iV e0), V (iV e0)] ur2 [.inl 1, .inr 1, .inr 2, .inr 3] S4 ?_ ?_
   ·exact jj2 (mS 1 9) (mO 0 60)
   intro B5 a5 W5 (S5 : Zt [_,_] [_,_,_,_])
   refine ye4 _ tail3 ?_
   refine wq [V (iV e0), kT, kT, V (Vx m fs), V (iV (m : Nat)), V (Part a5 4 1), V (Mx nL ess), V (iV (nL : Nat)), kT, kT] ur2 (.inl 9 :: ur4) S5 ?_ ?_
   ·exact ⟨⟨jj8 (mS 0 12) (ybm wA (oO 0 61) (yab _) (h := he)) (mO 1 62) (mW (wI 2 63) (oS 3 2)) (lnA (wI 2 63) (oO 3 64) Tryz.underlying22) (ptA (wI 2 63) 0 yaz) (plA (wI 2 63) (oO 5 66) 0 rfl rfl (ploadS rfl ya1)) (lnA (wI 2 63) (oO 6 67) Tryz.underlying23), ybm (wI 2 63) (oO 4 65) (oO 7 68)⟩, pT wA (oO 2 63) (oO 8 69)⟩
   intro B6 a6 W6 (S6 : Zt [_,_] [_,_,_,_,_])
   refine wp_cond_true (S6.bool 0 70 rfl) ?_
   refine wr [V (iV 1)] ur2 [.inl 0, .inr 2, .inr 3, .inr 4] S6 ?_ ?_
   ·exact jj1 mC
   intro B7 a7 W7 (S7 : Zt [_,_] [_,_,_,_])
   refine thenN ?_
   exact ⟨B7, S7.sub [0, 1] [0, 1, 2, 3]⟩
theorem zeg (w : World) (u t v r : Value) (nD nL nT m K : Nat) (es : List El) (ess : List (List El)) (rq : List Ra) (fs : List El) (rn rd : Int) (h : Hs w (SF [Vx nD es, Mx nL ess]) u) (ht : Hs w (Qx nT rq) t) (hv : Hs w (Vx m fs) v) (hr : Hs w (PR (Zv rn K) (Zv rd K)) r) (hD : nD ≤ 1048576) (hL : nL ≤ 1048576) (hT : nT ≤ 1048576) (hm0 : m ≤ 1048576) (hK : K ≤ 1048576) (hen : ∀ (i : Nat) e, es[i]? = some e → e.n ≤ K) (hme : Me ess El.n K) (hqn : ∀ (i : Nat) r, rq[i]? = some r → r.x.n ≤ K ∧ r.y.n ≤ K) (hfn : ∀ (i : Nat) e, fs[i]? = some e → e.n ≤ K) (hC : ∀ (i : Nat) e, es[i]? = some e → e.c ≤ 35184372087808) (hCC : ∀ (i : Nat) l, ess[i]? = some l → l.length ≤ 1048576 ∧ ∀ (j : Nat) e, l[j]? = some e → e.c ≤ 35184372087808) (hCQ : ∀ (i : Nat) r, rq[i]? = some r → r.x.c ≤ 35184372087808 ∧ r.y.c ≤ 35184372087808) (hCF : ∀ (i : Nat) e, fs[i]? = some e → e.c ≤ 35184372087808) (lL : ess.length = nL) (N0 cn : Int) (q0 qc : Nat) (P1 P2 : Nat → Pr) (f1 : Fresh P1) (f2 : Fresh P2) (s1 : ∀ lo, Shp 2 (P1 lo)) (s2 : ∀ lo, Shp 2 (P2 lo)) (sa sb b : Bool) (xa xb : List Nat) (c1 : ∀ lo v w, P1 lo v w → Nmx sa xa v w) (c2 : ∀ lo v w, P2 lo v w → Nmx sb xb v w) (d2 : Int) (hml : m < nL) (hdd : (rd ≤ 0 ∧ d2 = 30) ∨ (0 < rd ∧ d2 = 0)) (h2 : d2 ≠ 0 → b = false ∧ sa = false ∧ xa = [] ∧ sb = false ∧ xb = []) (hk : ∀ (w : World) (u t v : Value), Hs w (SF [Vv nD (es.map El.z) K, Mv nL (zz ess) K]) u → Hs w (QV nT (qz rq) K) t → Hs w (Vv m (fs.map El.z) K) v → CG 4 #[u, t, v] w ((IS (.int .i64 0)))) (hn : ∀ (w : World) (u t v : Value), Hs w (SF [Vv nD (es.map El.z) K, Mv nL (zz ess) K]) u → Hs w (QV nT (qz rq) K) t → Hs w (Vv m (fs.map El.z) K) v → CG 5 #[u, t, v] w ((TWO (QQ N0 q0) (IS (.int .i64 0))))) (hc : ∀ (w : World) (u t v : Value), Hs w (SF [Vv nD (es.map El.z) K, Mv nL (zz ess) K]) u → Hs w (QV nT (qz rq) K) t → Hs w (Vv m (fs.map El.z) K) v → CG 11 #[u, t, v] w ((TWO (QQ cn qc) (IS (.int .i64 0))))) (ha : ∀ (w : World) (u t v r : Value), Hs w (SF [Vv nD (es.map El.z) K, Mv nL (zz ess) K]) u → Hs w (QV nT (qz rq) K) t → Hs w (Vv m (fs.map El.z) K) v → Hs w (PR (Zv rn K) (Zv rd K)) r → CG 14 #[u, t, v, r] w ((FOUR P1 P2 (IS (.bool b)) (IS (.int .i64 d2))))) (hm : ∀ (w : World) (u t v : Value), Hs w (SF [Vv nD (es.map El.z) K, Mv nL (zz ess) K]) u → Hs w (QV nT (qz rq) K) t → Hs w (Vv m (fs.map El.z) K) v → CG 10 #[u, t, v] w ((QQ N0 q0))) (hd : ∀ (w : World) (u t v : Value), Hs w (SF [Vv nD (es.map El.z) K, Mv nL (zz ess) K]) u → Hs w (QV nT (qz rq) K) t → Hs w (Vv m (fs.map El.z) K) v → CG 12 #[u, t, v] w ((QQ cn qc))) (hb : d2 = 0 → ∀ (w : World) (u t v r : Value), Hs w (SF [Vv nD (es.map El.z) K, Mv nL (zz ess) K]) u → Hs w (QV nT (qz rq) K) t → Hs w (Vv m (fs.map El.z) K) v → Hs w (PR (Zv rn K) (Zv rd K)) r → CG 16 #[u, t, v, r] w ((THREE P1 P2 (IS (.bool b))))) :
  CG 3 #[u, t, v, r] w (IS (.bool true)) := by
 refine yan (sl := [(0, (SF [(Vx nD es), (Mx nL ess)])), (1, (Ar 4 nT (rq.map (fun r => PR r.x.pr r.y.pr)))), (2, (Vx m fs)), (3, (PR (Zv rn K) (Zv rd K)))]) Tryz.func3 rfl Tryz.ntmps3 (by simp) (yad rfl (h) (yad rfl (ht) (yad rfl (hv) (yad rfl (hr) yar)))) ?_
 intro a0 S0
 refine wq [.new (.box 25 (SF [(Vx nD es), (Mx nL ess)])), .new (.box 31 (PR (Zv rn K) (Zv rd K))), kF] [.inl 0, .inl 1] [.inr 1, .inr 2] S0 ?_ ?_
 ·exact jj3 (bxA wA (oS 0 0) (ybw yas)) (bxA wA (oS 3 3) (ycn (ya2 yak yak))) mC
 intro _ a1 _ (S1 : Zt [_,_] [_,_])
 refine wq [V (SF [(Vx nD es), (Mx nL ess)]), V (Ar 4 nT (rq.map (fun r => PR r.x.pr r.y.pr))), V (Vx m fs), V (iV 0), V (iV 0)] ur2 (.inl 4 :: ur2) S1 ?_ ?_
 ·exact jj5 (loA 0 wA yat yas) (mS 0 1) (mS 1 2) (ch3 wA ((qO 0 20 rfl).imp (yf9 (ygh hen) (ynq hme))) ((qO 1 21 rfl).imp (yqr hqn)) ((qO 2 22 rfl).imp (ygh hfn)) (yaf _) (fun w u0 u1 u2 h0 h1 h2 => hk w u0 u1 u2 h0 h1 h2)) (mO 3 23)
 intro _ a2 _ (S2 : Zt [_,_] [_,_,_])
 refine wq [V (SF [(Vx nD es), (Mx nL ess)]), Fw (GO nD nL es ess) w, V (Ar 4 nT (rq.map (fun r => PR r.x.pr r.y.pr))), Fw (LF 4 nT (rq.map RO)) w, V (Vx m fs), Fw (VO m fs) w, Fw (TWO (QQ N0 q0) (IS (.int .i64 0))) w, Fw (TWO (QQ N0 q0) (IS (.int .i64 0))) w, Fw (QQ N0 q0) w, V (iV 0), .new (.box 31 zR), .put (.inr 10) (.box 31 ((QQ N0 q0) w.heap.size)), V (iV 0)] [.inr 0, .inr 1, .inl 10] (.inl 12 :: ur3) S2 ?_ ?_
 ·exact ⟨⟨⟨⟨⟨jj8 (loA 0 wA yat yas) (ch1 wA (qO 0 25 rfl) yfu (fun w u h => yg0 w u nD nL es ess h hD hL hC hCC lL)) (mS 1 1) (ch1 wA (qO 2 27 rfl) yfw (fun w u h => yg1 w u nT rq h hT hCQ)) (mS 2 2) (ch1 wA (qO 4 29 rfl) fresh_vo (fun w u h => ygd hm0 hCF w u h)) (ch3 wA ((qO 1 26 rfl).imp (yqe hen hme)) ((qO 3 28 rfl).imp (yqp hqn)) ((qO 5 30 rfl).imp (ym7 hfn)) (ybv (ybi _ _) (yaf _)) (fun w u0 u1 u2 h0 h1 h2 => hn w u0 u1 u2 h0 h1 h2)) (mO 6 31), e20 wA (oO 7 24)⟩, e21 wA (oO 7 24)⟩, nwA wA ya5⟩, puA 10 wA (oO 8 32) yaj ybk ybp⟩, mO 9 33⟩
 intro _ a3 _ (S3 : Zt [_,_,_] [_,_,_,_])
 refine wp_seq ?_
 refine wq [V (iV 0), V (iV 0), kF, kF, V (iV 0), kT, kT, Fw (QQ N0 q0) w, V (SF [(Vx nD es), (Mx nL ess)]), V (Ar 4 nT (rq.map (fun r => PR r.x.pr r.y.pr))), V (Vx m fs), Fw (QQ N0 q0) w, kT, kF, kF, kF, kF, V (iV 0), kF, kF, .off, .off, .off, .off, kF, kF] ur2 [.inl 25, .inr 1, .inr 2, .inr 3] S3 ?_ ?_
 ·exact ⟨⟨⟨⟨⟨⟨⟨⟨⟨⟨⟨⟨⟨⟨⟨⟨⟨⟨jj8 (mS 0 11) (mS 1 9) (ya0 wA (oO 0 34) (oO 1 35) (h := rfl)) (mO 2 36) (mW (wI 3 37) (oS 1 9)) (ybm (wI 3 37) (oO 4 38) (yab _) (h := rfl)) (mW (wI 3 37) (oO 5 39)) (loA 2 (wI 6 40) yaj ybp), loA 0 (wI 6 40) yat yas⟩, mW (wI 6 40) (oS 2 1)⟩, mW (wI 6 40) (oS 3 2)⟩, ch3 (wI 6 40) ((qO 8 42 rfl).imp (yf9 (ygh hen) (ynq hme))) ((qO 9 43 rfl).imp (yqr hqn)) ((qO 10 44 rfl).imp (ygh hfn)) (ybi _ _) (fun w u0 u1 u2 h0 h1 h2 => hm w u0 u1 u2 h0 h1 h2)⟩, ch2 (wI 6 40) ((qO 7 41 rfl).imp yjy) ((qO 11 45 rfl).imp yjy) (yaf _) (fun w u v h h' => yl2 w u v _ _ _ _ h h')⟩, ydb (wI 6 40) (oO 12 46)⟩, pT (wI 3 37) (oO 6 40) (oO 13 47)⟩, pF wA (oO 3 37) (oO 14 48)⟩, mO 15 49⟩, mW (wI 16 50) (oS 1 9)⟩, ya0 (wI 16 50) (oO 17 51) (yab _) (h := rfl)⟩, mW (wI 16 50) (oO 18 52)⟩, oF 19 53⟩, oF 19 53⟩, oF 19 53⟩, oF 19 53⟩, pF (wI 16 50) (oO 19 53) (yab _)⟩, pF wA (oO 16 50) (oO 24 58)⟩
 intro _ a4 _ (S4 : Zt [_,_] [_,_,_,_])
 refine wp_cond_false (S4.bool 0 59 rfl) (wp_skip (thenN ?_))
 refine wq [V (iV 0), V (iV 0)] ur2 [.inl 1, .inr 1, .inr 2, .inr 3] S4 ?_ ?_
 ·exact jj2 (mS 1 9) (mO 0 60)
 intro _ a5 _ (S5 : Zt [_,_] [_,_,_,_])
 refine wp_seq ?_
 refine wq [V (iV 0), kT, kT, V (Vx m fs), V (iV (m : Nat)), V (Part a5 4 1), V (Mx nL ess), V (iV (nL : Nat)), kF, kF] ur2 (.inl 9 :: ur4) S5 ?_ ?_
 ·exact ⟨⟨jj8 (mS 0 12) (ybm wA (oO 0 61) (yab _) (h := rfl)) (mO 1 62) (mW (wI 2 63) (oS 3 2)) (lnA (wI 2 63) (oO 3 64) Tryz.underlying22) (ptA (wI 2 63) 0 yaz) (plA (wI 2 63) (oO 5 66) 0 rfl rfl (ploadS rfl ya1)) (lnA (wI 2 63) (oO 6 67) Tryz.underlying23), ybs (wI 2 63) (oO 4 65) (oO 7 68)⟩, pT wA (oO 2 63) (oO 8 69)⟩
 intro _ a6 _ (S6 : Zt [_,_] [_,_,_,_,_])
 refine wp_cond_false (S6.bool 0 70 rfl) (wp_skip (thenN ?_))
 refine wq [V (SF [(Vx nD es), (Mx nL ess)]), Fw (GO nD nL es ess) w, V (Ar 4 nT (rq.map (fun r => PR r.x.pr r.y.pr))), Fw (LF 4 nT (rq.map RO)) w, V (Vx m fs), Fw (VO m fs) w, Fw (TWO (QQ cn qc) (IS (.int .i64 0))) w, Fw (TWO (QQ cn qc) (IS (.int .i64 0))) w, Fw (QQ cn qc) w, V (iV 0), .new (.box 31 zR), .put (.inr 10) (.box 31 ((QQ cn qc) w.heap.size)), V (iV 0)] [.inr 0, .inr 1, .inl 10] [.inl 12, .inr 1, .inr 2, .inr 3, .inr 4] S6 ?_ ?_
 ·exact ⟨⟨⟨⟨⟨jj8 (loA 0 wA yat yas) (ch1 wA (qO 0 72 rfl) yfu (fun w u h => yg0 w u nD nL es ess h hD hL hC hCC lL)) (mS 3 1) (ch1 wA (qO 2 74 rfl) yfw (fun w u h => yg1 w u nT rq h hT hCQ)) (mS 4 2) (ch1 wA (qO 4 76 rfl) fresh_vo (fun w u h => ygd hm0 hCF w u h)) (ch3 wA ((qO 1 73 rfl).imp (yqe hen hme)) ((qO 3 75 rfl).imp (yqp hqn)) ((qO 5 77 rfl).imp (ym7 hfn)) (ybv (ybi _ _) (yaf _)) (fun w u0 u1 u2 h0 h1 h2 => hc w u0 u1 u2 h0 h1 h2)) (mO 6 78), e20 wA (oO 7 71)⟩, e21 wA (oO 7 71)⟩, nwA wA ya5⟩, puA 10 wA (oO 8 79) yaj ybk ybp⟩, mO 9 80⟩
 intro _ a7 _ (S7 : Zt [_,_,_] [_,_,_,_,_])
 refine wp_seq ?_
 refine wq [V (iV 0), V (iV 0), kF, kF, V (iV 0), kT, kT, Fw (QQ cn qc) w, V (SF [(Vx nD es), (Mx nL ess)]), V (Ar 4 nT (rq.map (fun r => PR r.x.pr r.y.pr))), V (Vx m fs), Fw (QQ cn qc) w, kT, kF, kF, kF, kF, V (iV 0), kF, kF, .off, .off, .off, .off, kF, kF] ur2 [.inl 25, .inr 1, .inr 2, .inr 3, .inr 4] S7 ?_ ?_
 ·exact ⟨⟨⟨⟨⟨⟨⟨⟨⟨⟨⟨⟨⟨⟨⟨⟨⟨⟨jj8 (mS 0 11) (mS 1 12) (ya0 wA (oO 0 81) (oO 1 82) (h := rfl)) (mO 2 83) (mW (wI 3 84) (oS 1 12)) (ybm (wI 3 84) (oO 4 85) (yab _) (h := rfl)) (mW (wI 3 84) (oO 5 86)) (loA 2 (wI 6 87) yaj ybp), loA 0 (wI 6 87) yat yas⟩, mW (wI 6 87) (oS 3 1)⟩, mW (wI 6 87) (oS 4 2)⟩, ch3 (wI 6 87) ((qO 8 89 rfl).imp (yf9 (ygh hen) (ynq hme))) ((qO 9 90 rfl).imp (yqr hqn)) ((qO 10 91 rfl).imp (ygh hfn)) (ybi _ _) (fun w u0 u1 u2 h0 h1 h2 => hd w u0 u1 u2 h0 h1 h2)⟩, ch2 (wI 6 87) ((qO 7 88 rfl).imp yjy) ((qO 11 92 rfl).imp yjy) (yaf _) (fun w u v h h' => yl2 w u v _ _ _ _ h h')⟩, ydb (wI 6 87) (oO 12 93)⟩, pT (wI 3 84) (oO 6 87) (oO 13 94)⟩, pF wA (oO 3 84) (oO 14 95)⟩, mO 15 96⟩, mW (wI 16 97) (oS 1 12)⟩, ya0 (wI 16 97) (oO 17 98) (yab _) (h := rfl)⟩, mW (wI 16 97) (oO 18 99)⟩, oF 19 100⟩, oF 19 100⟩, oF 19 100⟩, oF 19 100⟩, pF (wI 16 97) (oO 19 100) (yab _)⟩, pF wA (oO 16 97) (oO 24 105)⟩
 intro _ a8 _ (S8 : Zt [_,_] [_,_,_,_,_])
 refine wp_cond_false (S8.bool 0 106 rfl) (wp_skip (thenN ?_))
 refine ye4 (fun a W => ∃ Bq, Sta w 166 [(4, (.box 25 (SF [(Vx nD es), (Mx nL ess)]))), (7, (.box 31 (PR (Zv rn K) (Zv rd K))))] [(12, iV d2), (1, Ar 4 nT (rq.map (fun r => PR r.x.pr r.y.pr))), (2, Vx m fs)] Bq a W) ?_ ?_
 ·rintro a9 W9 ⟨B9, S9⟩
  refine wq [V (SF [(Vx nD es), (Mx nL ess)]), Fw (GO nD nL es ess) w, V (Ar 4 nT (rq.map (fun r => PR r.x.pr r.y.pr))), Fw (LF 4 nT (rq.map RO)) w, V (Vx m fs), Fw (VO m fs) w, V (PR (Zv rn K) (Zv rd K)), Fw (FOUR P1 P2 (IS (.bool b)) (IS (.int .i64 d2))) w, Fw (FOUR P1 P2 (IS (.bool b)) (IS (.int .i64 d2))) w, V (P1 w.heap.size), V (P2 w.heap.size), V (Is (.bool b)), V (iV d2), .new (.box 29 zI), .new (.box 29 zI), .put (.inr 13) (.box 29 (P1 w.heap.size)), .put (.inr 14) (.box 29 (P2 w.heap.size)), V (Is (.bool b)), V (iV d2)] [.inr 0, .inr 1, .inl 13, .inl 14] (.inl 17 :: .inl 18 :: ur3) S9 ?_ ?_
  ·exact ⟨⟨⟨⟨⟨⟨⟨⟨⟨⟨⟨jj8 (loA 0 wA yat yas) (ch1 wA (qO 0 115 rfl) yfu (fun w u h => yg0 w u nD nL es ess h hD hL hC hCC lL)) (mS 1 1) (ch1 wA (qO 2 117 rfl) yfw (fun w u h => yg1 w u nT rq h hT hCQ)) (mS 2 2) (ch1 wA (qO 4 119 rfl) fresh_vo (fun w u h => ygd hm0 hCF w u h)) (loA 1 wA yaj (ya2 yak yak)) (ybj rfl wA rfl ((oO 1 116).imp (yqe hen hme)) ((oO 3 118).imp (yqp hqn)) ((oO 5 120).imp (ym7 hfn)) (oO 6 121) (yjd f1 f2 (yaf _) (yaf _)) rfl (fun args w => by go_simp) (fun w u0 u1 u2 u3 h0 h1 h2 h3 => ha w u0 u1 u2 u3 h0 h1 h2 h3)), mO 7 122⟩, yee rfl wA rfl (oO 8 114) (Or.inl ⟨rfl, rfl⟩) rfl⟩, yee rfl wA rfl (oO 8 114) (Or.inr (Or.inl ⟨rfl, rfl⟩)) rfl⟩, yee rfl wA rfl (oO 8 114) (Or.inr (Or.inr (Or.inl ⟨rfl, rfl⟩))) rfl⟩, yee rfl wA rfl (oO 8 114) (Or.inr (Or.inr (Or.inr ⟨rfl, rfl⟩))) rfl⟩, nwA wA yal⟩, nwA wA yal⟩, puA 13 wA (oO 9 123) yaa yao (s1 _)⟩, puA 14 wA (oO 10 124) yaa yao (s2 _)⟩, mO 11 125⟩, mO 12 126⟩
  intro B10 a10 W10 (S10 : Zt [_,_,_,_] [_,_,_,_,_])
  refine wp_seq ?_
  refine wq [V (iV d2), V (iV d2), kF] ur4 [.inl 2, .inr 0, .inr 2, .inr 3, .inr 4] S10 ?_ ?_
  ·exact jj3 (mS 1 11) (mS 2 12) (ya0 wA (oO 0 127) (oO 1 128) (h := rfl))
  intro _ a11 _ (S11 : Zt [_,_,_,_] [_,_,_,_,_])
  refine wp_cond_false (S11.bool 0 129 rfl) (wp_skip (thenN ?_))
  by_cases h3 : d2 ≠ 0
  ·skip
   obtain ⟨rfl, rfl, rfl, rfl, rfl⟩ := h2 h3
   refine wp_seq ?_
   refine wq [V (iV d2), kT] ur4 [.inl 1, .inr 1, .inr 3, .inr 4] S11 ?_ ?_
   ·exact jj2 (mS 2 12) (ybb wA (oO 0 130) (yab _) (h := h3))
   intro B12 a12 W12 (S12 : Zt [_,_,_,_] [_,_,_,_])
   refine wp_cond_true (S12.bool 0 131 rfl) ?_
   refine wq [kF, kT, kT, V (P1 w.heap.size), .val zI, kT, kT, kT, V (P2 w.heap.size), .val zI, kT, kT, kT] [.inr 0] [.inl 12] S12 ?_ ?_
   ·exact ⟨⟨⟨⟨⟨jj8 (mS 1 16) (ydb wA (oO 0 132)) (mO 1 133) (loA 2 (wI 2 134) yaa (s1 _)) (ybd rfl (wI 2 134) rfl rfl) (ch2 (wI 2 134) ((qO 3 135 rfl).imp (c1 _)) ((qO 4 136 rfl).imp yhq) (yaf _) (fun w u v h h' => h_eq w u v h.now h'.now)) (pT wA (oO 2 134) (oO 5 137)) (mO 6 138), loA 3 (wI 7 139) yaa (s2 _)⟩, ybd rfl (wI 7 139) rfl rfl⟩, ch2 (wI 7 139) ((qO 8 140 rfl).imp (c2 _)) ((qO 9 141 rfl).imp yhq) (yaf _) (fun w u v h h' => h_eq w u v h.now h'.now)⟩, pT wA (oO 7 139) (oO 10 142)⟩, mO 11 143⟩
   intro B13 a13 W13 (S13 : Zt [_] [_])
   refine wp_ret (thenR ?_)
   exact yav S13 rfl (yaw S13 0 8 rfl)
  ·skip
   have hd0 : d2 = 0 := by omega
   refine wp_seq ?_
   refine wq [V (iV d2), kF] ur4 [.inl 1, .inr 1, .inr 3, .inr 4] S11 ?_ ?_
   ·exact jj2 (mS 2 12) (ya0 wA (oO 0 130) (yab _) (h := hd0))
   intro B12 a12 W12 (S12 : Zt [_,_,_,_] [_,_,_,_])
   refine wp_cond_false (S12.bool 0 131 rfl) (wp_skip (thenN ?_))
   refine wq [V (SF [(Vx nD es), (Mx nL ess)]), V (Ar 4 nT (rq.map (fun r => PR r.x.pr r.y.pr))), V (Vx m fs), V (PR (Zv rn K) (Zv rd K)), Fw (THREE P1 P2 (IS (.bool b))) w, Fw (THREE P1 P2 (IS (.bool b))) w, V (P1 w.heap.size), V (P2 w.heap.size), V (Is (.bool b)), .new (.box 29 zI), .new (.box 29 zI), .put (.inr 9) (.box 29 (P1 w.heap.size)), .put (.inr 10) (.box 29 (P2 w.heap.size)), V (Is (.bool b))] [.inr 0, .inr 2, .inr 3, .inl 9, .inl 10] [.inl 13, .inr 1] S12 ?_ ?_
   ·exact ⟨⟨⟨⟨⟨⟨jj8 (loA 0 wA yat yas) (mS 2 1) (mS 3 2) (loA 1 wA yaj (ya2 yak yak)) (ybj rfl wA rfl ((oO 0 145).imp (yf9 (ygh hen) (ynq hme))) ((oO 1 146).imp (yqr hqn)) ((oO 2 147).imp (ygh hfn)) (oO 3 148) (yck f1 f2 (yaf _)) rfl (fun args w => by go_simp) (fun w u0 u1 u2 u3 h0 h1 h2 h3 => hb hd0 w u0 u1 u2 u3 h0 h1 h2 h3)) (mO 4 149) (e30 wA (oO 5 144)) (e31 wA (oO 5 144)), e32 wA (oO 5 144)⟩, nwA wA yal⟩, nwA wA yal⟩, puA 9 wA (oO 6 150) yaa yao (s1 _)⟩, puA 10 wA (oO 7 151) yaa yao (s2 _)⟩, mO 8 152⟩
   intro B13 a13 W13 (S13 : Zt [_,_,_,_,_] [_,_])
   refine wq [V (Is (.bool b)), V (Is (.bool b)), kT, kT, V (P1 w.heap.size), V (P1 w.heap.size), kT, kT, kT, V (P2 w.heap.size), V (P2 w.heap.size), kT, kT, kT] [.inr 0] [.inl 13] S13 ?_ ?_
   ·exact ⟨⟨⟨⟨⟨⟨jj8 (mS 1 16) (mS 0 19) (ycl rfl wA rfl (oO 0 153) (oO 1 154) rfl (fun ρ w h1 h2 => by exact (ymr ρ _ _ _ w _ _ h1 h2).trans (by rw [beq_self_eq_true]))) (mO 2 155) (loA 1 (wI 3 156) yaa (s1 _)) (loA 3 (wI 3 156) yaa (s1 _)) (ch2 (wI 3 156) ((qO 4 157 rfl).imp (c1 _)) ((qO 5 158 rfl).imp (c1 _)) (yaf _) (fun w u v h h' => h_eq w u v h.now h'.now)) (pT wA (oO 3 156) (oO 6 159)), mO 7 160⟩, loA 2 (wI 8 161) yaa (s2 _)⟩, loA 4 (wI 8 161) yaa (s2 _)⟩, ch2 (wI 8 161) ((qO 9 162 rfl).imp (c2 _)) ((qO 10 163 rfl).imp (c2 _)) (yaf _) (fun w u v h h' => h_eq w u v h.now h'.now)⟩, pT wA (oO 8 161) (oO 11 164)⟩, mO 12 165⟩
   intro _ a14 _ (S14 : Zt [_] [_])
   refine wp_ret ?_
   exact yav S14 rfl (yaw S14 0 8 rfl)
 ·rcases hdd with ⟨hrd, hq⟩ | ⟨hrd, hq⟩
  ·skip
   have hdv : decide (0 < rd.sign) = false := decide_eq_false (by have := yd1 hrd; omega)
   subst hq
   refine wq [V (iV 0), kT, kT, V (PR (Zv rn K) (Zv rd K)), kF, kT, kT] ur2 [.inl 6, .inr 1, .inr 3, .inr 4] S8 ?_ ?_
   ·repeat' refine And.intro ?_ ?_
    ·trivial
    ·exact mS 2 9
    ·exact ybm wA (oO 0 107) (yab _) (h := rfl)
    ·exact mO 1 108
    ·exact loA 1 (wI 2 109) yaj (ya2 yak yak)
    ·exact cc1 (wI 2 109) (qO 3 110 rfl) (yaf _) (fun w u h => Gives.cast (ψ := (IS (.bool false))) (yed (k1 := K) (k2 := K) (by omega) (by omega) w u h) (by rw [hdv]))
    ·exact ydb (wI 2 109) (oO 4 111)
    ·exact pT wA (oO 2 109) (oO 5 112)
   intro B9 a9 W9 (S9 : Zt [_,_] [_,_,_,_])
   refine wp_cond_true (S9.bool 0 113 rfl) ?_
   refine wr [V (iV 30)] ur2 [.inl 0, .inr 2, .inr 3] S9 ?_ ?_
   ·exact jj1 mC
   intro B10 a10 W10 (S10 : Zt [_,_] [_,_,_])
   refine thenN ?_
   exact ⟨B10, S10.sub [0, 1] [0, 1, 2]⟩
  ·skip
   have hdv : decide (0 < rd.sign) = true := by rw [yfk hrd]; rfl
   subst hq
   refine wq [V (iV 0), kT, kT, V (PR (Zv rn K) (Zv rd K)), kT, kF, kF] ur2 [.inl 6, .inr 1, .inr 3, .inr 4] S8 ?_ ?_
   ·repeat' refine And.intro ?_ ?_
    ·trivial
    ·exact mS 2 9
    ·exact ybm wA (oO 0 107) (yab _) (h := rfl)
    ·exact mO 1 108
    ·exact loA 1 (wI 2 109) yaj (ya2 yak yak)
    ·exact cc1 (wI 2 109) (qO 3 110 rfl) (yaf _) (fun w u h => Gives.cast (ψ := (IS (.bool true))) (yed (k1 := K) (k2 := K) (by omega) (by omega) w u h) (by rw [hdv]))
    ·exact ydb (wI 2 109) (oO 4 111)
    ·exact pT wA (oO 2 109) (oO 5 112)
   intro B9 a9 W9 (S9 : Zt [_,_] [_,_,_,_])
   refine wp_cond_false (S9.bool 0 113 rfl) (wp_skip (thenN ?_))
   exact ⟨B9, S9.sub [0, 1] [1, 2, 3]⟩
end Go.Proofs.YtbkobojhkhiohaaGreat
