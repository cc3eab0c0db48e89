import Derived.Test.YtbkobojhkhiohaaGreatJaE
import Derived.Test.YtbkobojhkhiohaaGreatFmA
set_option linter.all false
namespace Go.Proofs.YtbkobojhkhiohaaGreat
open Go Go.RowKit Nt
set_option maxRecDepth 20000
set_option maxHeartbeats 16000000
abbrev Qx (n : Nat) (rq : List Ra) : Pr := Ar 4 n (rq.map (fun r => PR r.x.pr r.y.pr))
abbrev RO (r : Ra) : Nat → Pr := PRF (ZO r.x.s r.x.n r.x.xs) (ZO r.y.s r.y.n r.y.xs)
abbrev QO (n : Nat) (rq : List Ra) : Nat → Pr := LF 4 n (rq.map RO)
theorem yu1 {r : Ra} : Fresh (RO r) := yff (yex _ _ _) (yex _ _ _)
theorem yfw {n : Nat} {rq : List Ra} : Fresh (QO n rq) := yfv (by decide) (fun i ψ h => by obtain ⟨e, _, rfl⟩ := ya3 h; exact yu1)
def GO (nD nL : Nat) (es : List El) (ess : List (List El)) : Nat → Pr := fun lo => SF [VO nD es lo, MO nL ess lo]
theorem yfu {nD nL : Nat} {es : List El} {ess : List (List El)} : Fresh (GO nD nL es ess) :=
 ⟨fun lo lo' v w hl h => yf9 (fun v w h => fresh_vo.mono _ _ v w hl h) (fun v w h => fresh_mo.mono _ _ v w hl h) v w h, fun lo v w w' B hB h ev => by
  obtain ⟨cs, e, hs, ho, hp⟩ := h
  refine ⟨cs, e, hs, ho, fun f p hf => ?_⟩
  match f, hf with
  | 0, hf => simp at hf; subst hf; obtain ⟨u, hu, ha⟩ := hp 0 _ rfl; exact ⟨u, hu, fresh_vo.ev _ u w w' B hB ha ev⟩
  | 1, hf => simp at hf; subst hf; obtain ⟨u, hu, ha⟩ := hp 1 _ rfl; exact ⟨u, hu, fresh_mo.ev _ u w w' B hB ha ev⟩⟩
theorem yqe {nD nL K lo : Nat} {es : List El} {ess : List (List El)} (h1 : ∀ (i : Nat) e, es[i]? = some e → e.n ≤ K) (h2 : Me ess El.n K) : ∀ v w, GO nD nL es ess lo v w → SF [Vv nD (es.map El.z) K, Mv nL (zz ess) K] v w := yf9 (ym7 h1) (zeb h2)
theorem yqr {n K : Nat} {rq : List Ra} (hk : ∀ (i : Nat) r, rq[i]? = some r → r.x.n ≤ K ∧ r.y.n ≤ K) : ∀ v w, Qx n rq v w → QV n (qz rq) K v w := ye5 (by simp) (fun i φ φ' h1 h2 v w h => by
 obtain ⟨r, hr, rfl⟩ := ya3 h1
 obtain ⟨p, hp, rfl⟩ := ya3 h2
 obtain ⟨r', hr', rfl⟩ := ya3 hp
 rw [hr] at hr'
 cases hr'
 obtain ⟨k1, k2⟩ := hk i r hr
 exact yjr (fun v w q => yhd k1 v w (yz7 (ze5 _) v w q)) (fun v w q => yhd k2 v w (yz7 (ze5 _) v w q)) v w h)
theorem yqp {n K lo : Nat} {rq : List Ra} (hk : ∀ (i : Nat) r, rq[i]? = some r → r.x.n ≤ K ∧ r.y.n ≤ K) : ∀ v w, QO n rq lo v w → QV n (qz rq) K v w := fun v w h => ye5 (by simp) (fun i φ φ' h1 h2 v w h => by
 obtain ⟨ψ, hψ, rfl⟩ := ya3 h1
 obtain ⟨r, hr, rfl⟩ := ya3 hψ
 obtain ⟨p, hp, rfl⟩ := ya3 h2
 obtain ⟨r', hr', rfl⟩ := ya3 hp
 rw [hr] at hr'
 cases hr'
 obtain ⟨k1, k2⟩ := hk i r hr
 exact yjr (yz3 rfl k1) (yz3 rfl k2) v w h) v w (zbn v w h)
theorem zbq {E sz n lo : Nat} {ψs : List (Nat → Pr)} (hz : 0 < sz) : ∀ v w, LFW E sz n ψs lo v w → LF sz n ψs lo v w := fun v w ⟨ys, h1, h2⟩ => yho hz v w ys h1 (h2 w (Ev.refl _ _))
theorem ygd {n : Nat} {es : List El} (hn : n ≤ 1048576) (hC : ∀ (i : Nat) e, es[i]? = some e → e.c ≤ 35184372087808) : ∀ w u, Hs w (Vx n es) u → CG 8 #[u] w (VO n es) := fun w u h =>
 (yrt w u n es h hn hC).mono (fun e w' ⟨v, e1, hb, hv⟩ => ⟨v, e1, hb, zbq (by decide) _ _ hv⟩)
theorem zcc {a b : Pr} (_ : Shp 2 a) (_ : Shp 2 b) : ∀ u w, u.cells.size = 4 → PR a b u w → ∃ p, (∀ (j : Nat) y, p.cells[j]? = some y → u.cells[0 + j]? = some y) ∧ p.cells.size = 2 ∧ a p w := by
 rintro u w _ ⟨x0, x1, y0, y1, rfl, h1, h2⟩
 refine ⟨_, fun j y hy => ?_, rfl, h1⟩
 match j, hy with
 | 0, hy => exact hy
 | 1, hy => exact hy
 | j + 2, hy => simp [Value.cells] at hy
theorem zcd {a b : Pr} (_ : Shp 2 a) (_ : Shp 2 b) : ∀ u w, u.cells.size = 4 → PR a b u w → ∃ p, (∀ (j : Nat) y, p.cells[j]? = some y → u.cells[2 + j]? = some y) ∧ p.cells.size = 2 ∧ b p w := by
 rintro u w _ ⟨x0, x1, y0, y1, rfl, h1, h2⟩
 refine ⟨_, fun j y hy => ?_, rfl, h2⟩
 match j, hy with
 | 0, hy => exact hy
 | 1, hy => exact hy
 | j + 2, hy => simp [Value.cells] at hy
structure LS where
 k : Nat
 p : Option Addr
 c : Nat
theorem zcm {w0 W : World} {n : Nat} {bx : Bxs} {sl : List (Tmp × Pr)} {B : Nat → Prop} {a : Act} (S : Sta w0 n bx sl B a W) (k t k1 k2 : Nat) {G1 G2 nD m c1 c2 : Nat} {p1 p2 : Option Addr} {es : List El} {ess : List (List El)} (h : bx[k]? = some (t, .box 25 (SF [Is (.slice p1 nD c1), Is (.slice p2 m c2)])))
  (hb : bx[k1]? = some (G1, RW w0.heap.size (.slice p1 nD c1) 29 2 nD ((es.map El.zo).map (· w0.heap.size)))) (hb2 : bx[k2]? = some (G2, RW w0.heap.size (.slice p2 m c2) 22 1 m ((ess.map (fun es => VO es.length es)).map (· w0.heap.size)))) : ∃ v, (resOf (.cell t 25) a.tmps).run Tryz.prog W = .ok v W ∧ GO nD m es ess w0.heap.size v W := by
 obtain ⟨v, h1, h2⟩ := yau S k t h yat yas
 obtain ⟨xs, o1, _, x1⟩ := ytp (S.box _ (zfc hb))
 obtain ⟨ys, o2, _, x2⟩ := ytp (S.box _ (zfc hb2))
 exact ⟨v, h1, zcz h2 (yho (by decide) _ W _ o1 (x1 W (Ev.refl _ _))) (yho (by decide) _ W _ o2 (x2 W (Ev.refl _ _)))⟩
theorem yl2 (w : World) (u v : Value) (s t : Bool) (xs ys : List Nat) (h : Hs w (PR (Nmx s xs) (Nmx t ys)) u) (h' : Hs w (PR (Nmx s xs) (Nmx t ys)) v) :
  CG 9 #[u, v] w (IS (.bool true)) := by
 refine yan (sl := [(0, (PR (Nmx s xs) (Nmx t ys))), (1, (PR (Nmx s xs) (Nmx t ys)))]) Tryz.func9 rfl Tryz.ntmps9 (by simp) (yad rfl (h) (yad rfl (h') yar)) ?_
 intro a0 S0
 refine wq [.new (.box 31 (PR (Nmx s xs) (Nmx t ys))), .new (.box 31 (PR (Nmx s xs) (Nmx t ys))), kF] [.inl 0, .inl 1] [] S0 ?_ ?_
 ·exact jj3 (bxA wA (oS 0 0) (ycn (ya2 yli yli))) (bxA wA (oS 1 1) (ycn (ya2 yli yli))) mC
 intro _ a1 _ (S1 : Zt [_,_] [])
 refine wq [V (Part a1 2 0), V (Nmx s xs), V (Part a1 3 0), V (Nmx s xs), kT, kT, V (Part a1 2 2), V (Nmx t ys), V (Part a1 3 2), V (Nmx t ys), kT, kT, kT] [] [.inl 12] S1 ?_ ?_
 ·exact ⟨⟨⟨⟨⟨jj8 (ptZ wA 0 ycu) (plA wA (oO 0 5) 0 rfl rfl yc6) (ptZ wA 1 ycu) (plA wA (oO 2 7) 1 rfl rfl yc6) (cc2 wA (qO 1 6 rfl) (qO 3 8 rfl) (yaf _) h_eq) (mO 4 9) (ptA (wI 5 10) 0 yby) (plA (wI 5 10) (oO 6 11) 0 rfl rfl yb1), ptA (wI 5 10) 1 yby⟩, plA (wI 5 10) (oO 8 13) 1 rfl rfl yb1⟩, cc2 (wI 5 10) (qO 7 12 rfl) (qO 9 14 rfl) (yaf _) h_eq⟩, pT wA (oO 5 10) (oO 10 15)⟩, mO 11 16⟩
 intro _ a2 _ (S2 : Zt [] [_])
 refine wp_ret ?_
 exact yav S2 rfl (yaw S2 0 4 rfl)
theorem yg1 (w : World) (u : Value) (n : Nat) (rq : List Ra) (h : Hs w (Qx n rq) u) (hn : n ≤ 1048576) (hC : ∀ (i : Nat) r, rq[i]? = some r → r.x.c ≤ 35184372087808 ∧ r.y.c ≤ 35184372087808) :
  CG 7 #[u] w (LF 4 n (rq.map RO)) := by
 have hA : rq.length = n := by obtain ⟨p, c, _, hl, _⟩ := h.now; simpa using hl
 refine yan (sl := [(0, (Ar 4 n (rq.map (fun r => PR r.x.pr r.y.pr))))]) Tryz.func7 rfl Tryz.ntmps7 (by simp) (yad rfl (h) yar) ?_
 intro a0 S0
 refine wq [V (Is (.slice none 0 0))] [] [.inr 0] S0 ?_ ?_
 ·exact jj1 mC
 intro _ a1 _ (S1 : Zt [] [_])
 refine wq [.new (.row 31 4 0 (CE 4 (((rq.map RO).map (· w.heap.size)).take 0)))] [.inl 0] [.inr 0] S1 ?_ ?_
 ·exact jj1 (yg5 rfl wA rfl rfl yoo)
 intro _ a2 _ (S2 : Zt [_] [_])
 refine wp_seq ?_
 refine wq [V (iV 0)] [.inr 0] [.inl 0, .inr 0] S2 ?_ ?_
 ·exact jj1 mC
 intro B3 a3 _ (S3 : Zt [_] [_,_])
 refine wp_block ?_
 refine ya8 (fun (k0 : Nat) a W => (k0 ≤ n) ∧ ∃ Bq, Sta w 28 [(3, (.row 31 4 k0 (CE 4 (((rq.map RO).map (· w.heap.size)).take k0))))] [(4, iV k0), (0, Ar 4 n (rq.map (fun r => PR r.x.pr r.y.pr)))] Bq a W) (fun (k0 : Nat) => n - k0) ?_ 0 ⟨zfq _, B3, S3.sub [0] [0, 1]⟩
 rintro k0 a4 _ ⟨hcond, _, S4⟩
 by_cases hlt : k0 < n
 ·obtain ⟨r, hr⟩ : ∃ r, rq[k0]? = some r := ⟨rq[k0]'(by omega), zfb _⟩
  obtain ⟨hec, hfc⟩ := hC k0 r hr
  have hgx := yb6 (fun r : Ra => PR r.x.pr r.y.pr) hr
  have htk : ((rq.map RO).map (· w.heap.size)).take (k0 + 1) = ((rq.map RO).map (· w.heap.size)).take k0 ++ [RO r w.heap.size] := by rw [zg7, yb6 _ (yb6 _ hr)]; rfl
  refine wp_seq ?_
  refine wq [V (iV k0), V (Ar 4 n (rq.map (fun r => PR r.x.pr r.y.pr))), V (iV (n : Nat)), kT] [.inr 0] (.inl 3 :: ur2) S4 ?_ ?_
  ·exact jj4 (mS 0 4) (mS 1 0) (lnA wA (oO 1 6) Tryz.underlying26) (ya7 wA (oO 0 5) (oO 2 7))
  intro B5 a5 W5 (S5 : Zt [_] [_,_,_])
  refine wp_cond_true (S5.bool 0 8 rfl) (wp_skip (thenN (wp_seq (wp_block ?_))))
  refine wr [V (Is (a5.eval (.tmp 3))), V (Ar 4 n (rq.map (fun r => PR r.x.pr r.y.pr))), V (iV k0), V (AtE 4 (PR (Zx r.x.s r.x.p r.x.n r.x.c r.x.xs) (Zx r.y.s r.y.p r.y.n r.y.c r.y.xs))), V (AtE 2 (Zx r.x.s r.x.p r.x.n r.x.c r.x.xs)), V (Zx r.x.s r.x.p r.x.n r.x.c r.x.xs), Fw (ZO r.x.s r.x.n r.x.xs) w, V (Ar 4 n (rq.map (fun r => PR r.x.pr r.y.pr))), V (iV k0), V (AtE 4 (PR (Zx r.x.s r.x.p r.x.n r.x.c r.x.xs) (Zx r.y.s r.y.p r.y.n r.y.c r.y.xs))), V (AtE 2 (Zx r.y.s r.y.p r.y.n r.y.c r.y.xs)), V (Zx r.y.s r.y.p r.y.n r.y.c r.y.xs), Fw (ZO r.y.s r.y.n r.y.xs) w, V (PR ((ZO r.x.s r.x.n r.x.xs) w.heap.size) ((ZO r.y.s r.y.n r.y.xs) w.heap.size)), V (Sng 31 4 (PR ((ZO r.x.s r.x.n r.x.xs) w.heap.size) ((ZO r.y.s r.y.n r.y.xs) w.heap.size)) w.heap.size), .mov 3 (.row 31 4 (k0 + 1) (CE 4 (((rq.map RO).map (· w.heap.size)).take (k0 + 1)))), .ref 15] [.inl 16] [.inr 1, .inr 2] S5 ?_ ?_
  ·exact ⟨⟨⟨⟨⟨⟨⟨⟨⟨jj8 (yfz rfl wA (Or.inl rfl) (by kernel_rfl) rfl) (mS 2 0) (mS 1 4) (axA wA yc8 (oO 1 12) (oO 2 13) hgx rfl) (ybg (d := 0) rfl wA rfl (oO 3 14) (fun ρ w b k h => ycu ρ _ _ w b k h) (zcc ycm ycm) rfl) (alC wA ya9 ycm (oO 4 15)) (cc1 wA (qO 5 16 rfl) (yex _ _ _) (yyb hec)) (mS 2 0), mS 1 4⟩, axA wA yc8 (oO 7 18) (oO 8 19) hgx rfl⟩, ybg (d := 2) rfl wA rfl (oO 9 20) (fun ρ w b k h => yby ρ _ _ w b k h) (zcd ycm ycm) rfl⟩, alC wA ya9 ycm (oO 10 21)⟩, cc1 wA (qO 11 22 rfl) (yex _ _ _) (yyb hfc)⟩, yfy rfl wA rfl (oO 6 17) (oO 12 23) ymz ymz rfl⟩, yhi rfl wA rfl yhu (oO 13 24) (yc0 (by decide) (ya2 ymz ymz)) rfl⟩, yg4 rfl wA rfl (oO 0 11) (k := 0) rfl (by kernel_rfl) ((oO 14 25).imp ylt) yrq Tryz.underlying26 (by decide) ⟨by unfold maxLen; omega, by omega⟩ rfl (fun xs ys w h1 h2 => by rw [htk]; exact ye9 xs ys w h1 h2)⟩, ygg 15 rfl wA (Or.inr rfl) (by kernel_rfl) rfl rfl⟩
  intro B6 a6 W6 (S6 : Zt [_] [_,_])
  refine inBlkN (thenN ?_)
  refine wr [V (iV k0), V (iV (k0 + 1 : Nat)), V (iV (k0 + 1 : Nat))] [.inr 0] [.inl 2, .inr 1] S6 ?_ ?_
  ·exact jj3 (mS 0 4) (yba wA (oO 0 9) (yab _)) (mO 1 10)
  intro B7 a7 W7 (S7 : Zt [_] [_,_])
  refine thenN ?_
  exact ⟨k0 + 1, ⟨by omega, B7, S7.sub [0] [0, 1]⟩, by omega⟩
 ·have ek : n = k0 := by omega
  have hend : ((rq.map RO).map (· w.heap.size)).take k0 = (rq.map RO).map (· w.heap.size) := ze9 (by simp; omega)
  refine wp_seq ?_
  refine wq [V (iV k0), V (Ar 4 n (rq.map (fun r => PR r.x.pr r.y.pr))), V (iV (n : Nat)), kF] [.inr 0] (.inl 3 :: ur2) S4 ?_ ?_
  ·exact jj4 (mS 0 4) (mS 1 0) (lnA wA (oO 1 6) Tryz.underlying26) (ybl wA (oO 0 5) (oO 2 7))
  intro B5 a5 W5 (S5 : Sta w 28 [(3, (.row 31 4 k0 (CE 4 (((rq.map RO).map (· w.heap.size)).take k0))))] [(8, bF), (4, iV k0), (0, Ar 4 n (rq.map (fun r => PR r.x.pr r.y.pr)))] _ _ _)
  refine wp_cond_false (S5.bool 0 8 rfl) (wp_exit (thenX (thenX (inBlkE (thenN ?_)))))
  obtain ⟨B6, S6⟩ : ∃ Bq, Sta w 28 [] [(3, ((LF 4 n (rq.map RO)) w.heap.size)), (8, bF), (4, iV k0), (0, Ar 4 n (rq.map (fun r => PR r.x.pr r.y.pr)))] Bq a5 W5 := ⟨_, S5.freeze 0 rfl (by simp) (fun v w' xs ho hc => by rw [hend] at hc; rw [← ek] at ho; exact yho (by decide) v w' xs ho hc)⟩
  obtain ⟨a6, W6, e1, e2⟩ : ∃ a W, a5 = a ∧ W5 = W := ⟨_, _, rfl, rfl⟩
  rw [e1, e2] at S6 ⊢
  clear e1 e2
  refine wq [Fw (LF 4 n (rq.map RO)) w, Fw (LF 4 n (rq.map RO)) w] [] [.inl 1, .inr 0, .inr 2, .inr 3] S6 ?_ ?_
  ·exact jj2 (mS 0 3) (mO 0 27)
  intro B7 a7 W7 (S7 : Zt [] [_,_,_,_])
  refine wp_ret ?_
  exact yav S7 rfl (yaw S7 0 2 rfl)
abbrev yfi  : Rk := .box 25 (Is (.agg #[.slice none 0 0, .slice none 0 0]))
abbrev yf8 (nD : Nat) (nL : Nat) (es : List El) (ess : List (List El)) : Rk := .box 25 (SF [(Vx nD es), (Mx nL ess)])
theorem yg0 (w : World) (u : Value) (nD nL : Nat) (es : List El) (ess : List (List El)) (h : Hs w (SF [Vx nD es, Mx nL ess]) u) (hD : nD ≤ 1048576) (hL : nL ≤ 1048576) (hC : ∀ (i : Nat) e, es[i]? = some e → e.c ≤ 35184372087808) (hCC : ∀ (i : Nat) l, ess[i]? = some l → l.length ≤ 1048576 ∧ ∀ (j : Nat) e, l[j]? = some e → e.c ≤ 35184372087808) (lL : ess.length = nL) :
  CG 6 #[u] w (GO nD nL es ess) := by
 refine yan (sl := [(0, (SF [(Vx nD es), (Mx nL ess)]))]) Tryz.func6 rfl Tryz.ntmps6 (by simp) (yad rfl (h) yar) ?_
 intro a0 S0
 refine wq [.new (yf8 nD nL es ess), .new (yfi)] [.inl 0, .inl 1] [] S0 ?_ ?_
 ·exact jj2 (bxA wA (oS 0 0) (ybw yas)) (nwA wA ylq)
 intro _ a1 _ (S1 : Zt [_,_] [])
 refine wq [.new (yfi)] [.inr 0, .inr 1, .inl 0] [] S1 ?_ ?_
 ·exact jj1 (nwA wA ylq)
 intro B2 a2 W2 (S2 : Zt [_,_,_] [])
 replace S2 : Sta w 28 [(1, (yf8 nD nL es ess)), (2, (yfi)), (3, (.box 25 (SF [(Is (.slice none 0 0)), (Is (.slice none 0 0))])))] [] B2 a2 W2 := S2.reboxS 2 rfl ze4
 refine wp_seq ?_
 refine ypy 2 (fun xh => [.val (Part a2 1 0),
   .val (Vx nD es),
   .new (.row 29 2 nD (CE 2 ((es.map El.zo).map (· w.heap.size)))),
   .val (Part a2 3 0),
   .put (.inl 3) (.box 25 (SF [(Is (xh)), (Is (.slice none 0 0))]))]) [.inr 0, .inr 1, .inr 2, .inl 2] [] follows S2 (fun _ => rfl) (fun _ => by kernel_rfl) (by decide) (fun _ _ => ?_) (fun xh => ?_) ?_
 ·exact ⟨⟨⟨⟨⟨trivial, fun _ => rfl⟩, fun _ => rfl⟩, fun _ => rfl⟩, fun _ => rfl⟩, fun h => absurd (zf8.1 (by kernel_rfl)) h⟩
 ·exact jj5 ((ye0 rfl wA rfl (k := 0) rfl (by kernel_rfl) rfl (fun ρ w b h => ybo ρ _ _ w b 0 h)).x) ((ygq rfl wA rfl (oO 0 5) (k := 0) rfl (by kernel_rfl) rfl (fun ρ w b u h1 h2 h3 => ploadS rfl ybu ρ _ _ w b u h1 h2 h3)).x) ((yst rfl wA rfl (oO 1 6) yrv rfl (fun args w => by go_simp) (fun w u h => yrt w u nD es h hD hC)).x) ((ye0 rfl wA rfl (k := 2) rfl (by kernel_rfl) rfl (fun ρ w b h => ybo ρ _ _ w b 0 h)).x) (yss rfl wA rfl (oO 3 8) (k := 2) rfl (by kernel_rfl) (by kernel_rfl) rfl (by kernel_rfl) yqv (Nat.le_of_ble_eq_true rfl) rfl)
 intro xh B3 a3 W3 hxh S3
 replace S3 : Sta w 28 [(1, (yf8 nD nL es ess)), (2, (yfi)), (3, (.box 25 (SF [(Is (xh)), (Is (.slice none 0 0))]))), (7, (.row 29 2 nD (CE 2 ((es.map El.zo).map (· w.heap.size)))))] [] B3 a3 W3 := S3
 obtain ⟨pd, cd, eh, S4⟩ := S3.tellW (bx' := [(1, (yf8 nD nL es ess)), (2, (yfi)), (3, (.box 25 (SF [(Is (xh)), (Is (.slice none 0 0))])))]) 3 1000002 rfl (by simp) (by simp)
 obtain rfl : xh = _ := (hxh _ rfl).symm.trans eh
 replace S4 : Sta w 28 [(1000002, (RW w.heap.size (.slice pd nD cd) 29 2 nD ((es.map El.zo).map (· w.heap.size)))), (1, (yf8 nD nL es ess)), (2, (yfi)), (3, (.box 25 (SF [(Is (.slice pd nD cd)), (Is (.slice none 0 0))])))] [(7, Is (.slice pd nD cd))] B3 a3 W3 := S4
 clear hxh eh
 obtain ⟨B4, a4, W4, e0, e1, e2⟩ : ∃ B a W, B3 = B ∧ a3 = a ∧ W3 = W := ⟨_, _, _, rfl, rfl, rfl⟩
 rw [e0, e1, e2] at S4
 rw [e1, e2]
 clear e0 e1 e2
 refine thenN (wp_seq ?_)
 replace S4 : Sta w 28 [(1000003, (RW w.heap.size (.slice none 0 0) 22 1 0 (((ess.take 0).map (fun es => VO es.length es)).map (· w.heap.size)))), (1000002, (RW w.heap.size (.slice pd nD cd) 29 2 nD ((es.map El.zo).map (· w.heap.size)))), (1, (yf8 nD nL es ess)), (2, (yfi)), (3, (.box 25 (SF [(Is (.slice pd nD cd)), (Is (.slice none 0 0))])))] [(7, Is (.slice pd nD cd))] B4 a4 W4 := S4.tellNilW 1000003 22 1
 refine wq [V (iV 0)] ur5 [.inl 0] S4 ?_ ?_
 ·exact jj1 mC
 intro B5 a5 _ (S5 : Zt [_,_,_,_,_] [_])
 refine wp_block ?_
 refine ya8 (fun (g : LS) a W => (g.k ≤ nL) ∧ ∃ Bq, Sta w 28 [(1000003, (RW w.heap.size (.slice (g.p) (g.k) (g.c)) 22 1 (g.k) (((ess.take (g.k)).map (fun es => VO es.length es)).map (· w.heap.size)))), (1000002, (RW w.heap.size (.slice pd nD cd) 29 2 nD ((es.map El.zo).map (· w.heap.size)))), (1, (yf8 nD nL es ess)), (2, (yfi)), (3, (.box 25 (SF [(Is (.slice pd nD cd)), (Is (.slice g.p g.k g.c))])))] [(4, iV (g.k : Nat))] Bq a W) (fun (g : LS) => nL - g.k) ?_ ⟨0, none, 0⟩ ⟨zfq _, B5, S5.sub [0, 1, 2, 3, 4] [0]⟩
 rintro g a6 _ ⟨hcond, _, S6⟩
 by_cases hlt : g.k < nL
 ·obtain ⟨e, he⟩ : ∃ e, ess[g.k]? = some e := ⟨ess[g.k]'(by omega), zfb _⟩
  obtain ⟨hcl, hce⟩ := hCC g.k e he
  have hgx := yb6 (fun es => Vx es.length es) he
  have htk : ((ess.take (g.k + 1)).map (fun es => VO es.length es)).map (· w.heap.size) = ((ess.take (g.k)).map (fun es => VO es.length es)).map (· w.heap.size) ++ [VO e.length e w.heap.size] := by rw [zg7, he]; simp
  refine wp_seq ?_
  refine wq [V (iV (g.k : Nat)), V (Part a6 1 1), V (Mx nL ess), V (iV (nL : Nat)), kT] ur5 [.inl 4, .inr 0] S6 ?_ ?_
  ·exact jj5 (mS 0 4) (ptA wA 2 yaz) (plA wA (oO 1 10) 2 rfl rfl (ploadS rfl ya1)) (lnA wA (oO 2 11) Tryz.underlying23) (ya7 wA (oO 0 9) (oO 3 12))
  intro B7 a7 W7 (S7 : Zt [_,_,_,_,_] [_,_])
  refine wp_cond_true (S7.bool 0 13 rfl) (wp_skip (thenN (wp_seq (wp_block ?_))))
  refine ypy 9 (fun xh => [.val (Part a7 3 1),
   .val (Is (.slice g.p g.k g.c)),
   .val (Part a7 1 1),
   .val (Mx nL ess),
   .val (iV (g.k : Nat)),
   .val (AtE 1 (Vx (e.length) e)),
   .val (Vx (e.length) e),
   .val ((VO (e.length) e) w.heap.size),
   .val (Sng 22 1 ((VO (e.length) e) w.heap.size) w.heap.size),
   .mov 1000003 (.row 22 1 (g.k + 1) (CE 1 (((ess.take (g.k + 1)).map (fun es => VO es.length es)).map (· w.heap.size)))),
   .val (Part a7 3 1),
   .put (.inl 3) (.box 25 (SF [(Is (.slice pd nD cd)), (Is (xh))]))]) [.inr 1, .inr 2, .inr 3, .inr 4, .inl 9] [.inr 1] follows S7 (fun _ => rfl) (fun _ => by kernel_rfl) (by decide) (fun _ _ => ?_) (fun xh => ?_) ?_
  ·exact ⟨⟨⟨⟨⟨⟨⟨⟨⟨⟨⟨⟨trivial, fun _ => rfl⟩, fun _ => rfl⟩, fun _ => rfl⟩, fun _ => rfl⟩, fun _ => rfl⟩, fun _ => rfl⟩, fun _ => rfl⟩, fun _ => rfl⟩, fun _ => rfl⟩, fun _ => rfl⟩, fun _ => rfl⟩, fun h => absurd (zf8.1 (by kernel_rfl)) h⟩
  ·exact ⟨⟨⟨⟨jj8 ((ye0 rfl wA rfl (k := 4) rfl (by kernel_rfl) rfl (fun ρ w b h => yaz ρ _ _ w b 0 h)).x) ((ygq rfl wA rfl (oO 0 16) (k := 4) rfl (by kernel_rfl) rfl (fun ρ w b u h1 h2 h3 => ploadS rfl ya1 ρ _ _ w b u h1 h2 h3)).x) ((ye0 rfl wA rfl (k := 2) rfl (by kernel_rfl) rfl (fun ρ w b h => yaz ρ _ _ w b 0 h)).x) ((ygq rfl wA rfl (oO 2 18) (k := 2) rfl (by kernel_rfl) rfl (fun ρ w b u h1 h2 h3 => ploadS rfl ya1 ρ _ _ w b u h1 h2 h3)).x) ((ygp rfl wA (Or.inl rfl) (oS 1 4) rfl).x) ((yjk rfl wA rfl yey (oO 3 19) (oO 4 20) hgx rfl).x) ((yil rfl wA rfl yb4 (by decide) zak (oO 5 21) rfl).x) ((yjo rfl wA rfl (oO 6 22) fresh_vo rfl (fun args w => by go_simp) (fun w u h => ygd hcl hce w u h)).x), (yhi rfl wA rfl yup (oO 7 23) zaj rfl).x⟩, (ynt rfl wA rfl (oO 1 17) (k := 0) rfl (by kernel_rfl) ((oO 8 24).imp ylt) yrr Tryz.underlying23 (by decide) ⟨by unfold maxLen; omega, by omega⟩ rfl (fun xs ys w h1 h2 => by rw [htk]; exact ye9 _ _ _ h1 h2)).x⟩, (ye0 rfl wA rfl (k := 4) rfl (by kernel_rfl) rfl (fun ρ w b h => yaz ρ _ _ w b 0 h)).x⟩, ysr rfl wA rfl (oO 10 26) (k := 4) rfl (by kernel_rfl) (by kernel_rfl) rfl (by kernel_rfl) yqu (Nat.le_of_ble_eq_true rfl) rfl⟩
  intro xh B8 a8 W8 hxh S8
  replace S8 : Sta w 28 [(1000002, (RW w.heap.size (.slice pd nD cd) 29 2 nD ((es.map El.zo).map (· w.heap.size)))), (1, (yf8 nD nL es ess)), (2, (yfi)), (3, (.box 25 (SF [(Is (.slice pd nD cd)), (Is (xh))]))), (25, (.row 22 1 (g.k + 1) (CE 1 (((ess.take (g.k + 1)).map (fun es => VO es.length es)).map (· w.heap.size)))))] [(4, iV (g.k : Nat))] B8 a8 W8 := S8
  obtain ⟨p', c', eh, S9⟩ := S8.tellW (bx' := [(1000002, (RW w.heap.size (.slice pd nD cd) 29 2 nD ((es.map El.zo).map (· w.heap.size)))), (1, (yf8 nD nL es ess)), (2, (yfi)), (3, (.box 25 (SF [(Is (.slice pd nD cd)), (Is (xh))])))]) 4 1000003 rfl (by simp) (by simp)
  obtain rfl : xh = _ := (hxh _ rfl).symm.trans eh
  replace S9 : Sta w 28 [(1000003, (RW w.heap.size (.slice p' (g.k + 1) c') 22 1 (g.k + 1) (((ess.take (g.k + 1)).map (fun es => VO es.length es)).map (· w.heap.size)))), (1000002, (RW w.heap.size (.slice pd nD cd) 29 2 nD ((es.map El.zo).map (· w.heap.size)))), (1, (yf8 nD nL es ess)), (2, (yfi)), (3, (.box 25 (SF [(Is (.slice pd nD cd)), (Is (.slice p' (g.k + 1) c'))])))] [(25, Is (.slice p' (g.k + 1) c')), (4, iV (g.k : Nat))] B8 a8 W8 := S9
  clear hxh eh
  obtain ⟨_, a9, _, e0, e1, e2⟩ : ∃ B a W, B8 = B ∧ a8 = a ∧ W8 = W := ⟨_, _, _, rfl, rfl, rfl⟩
  rw [e0, e1, e2] at S9
  rw [e1, e2]
  clear e0 e1 e2
  refine inBlkN (thenN ?_)
  refine wr [V (iV (g.k : Nat)), V (iV (g.k + 1 : Nat)), V (iV (g.k + 1 : Nat))] ur5 [.inl 2] S9 ?_ ?_
  ·exact jj3 (mS 1 4) (yba wA (oO 0 14) (yab _)) (mO 1 15)
  intro B10 a10 _ (S10 : Zt [_,_,_,_,_] [_])
  refine thenN ?_
  exact ⟨⟨g.k + 1, p', c'⟩, ⟨(by show g.k + 1 ≤ nL; omega), B10, S10.sub [0, 1, 2, 3, 4] [0]⟩, (by show nL - (g.k + 1) < nL - g.k; omega)⟩
 ·have ek : g.k = nL := by omega
  have hend : ess.take g.k = ess := ze9 (by omega)
  refine wp_seq ?_
  refine wq [V (iV (g.k : Nat)), V (Part a6 1 1), V (Mx nL ess), V (iV (nL : Nat)), kF] ur5 [.inl 4, .inr 0] S6 ?_ ?_
  ·exact jj5 (mS 0 4) (ptA wA 2 yaz) (plA wA (oO 1 10) 2 rfl rfl (ploadS rfl ya1)) (lnA wA (oO 2 11) Tryz.underlying23) (ybl wA (oO 0 9) (oO 3 12))
  intro B7 a7 W7 (S7 : Zt [_,_,_,_,_] [_,_])
  refine wp_cond_false (S7.bool 0 13 rfl) (wp_exit (thenX (thenX (inBlkE (thenN ?_)))))
  refine wq [V (SF [(Is (.slice pd nD cd)), (Is (.slice g.p g.k g.c))]), .put (.inl 2) (.box 25 (SF [(Is (.slice pd nD cd)), (Is (.slice g.p g.k g.c))]))] ur5 [.inr 1] S7 ?_ ?_
  ·exact jj2 (loA 4 wA yat yas) (seA 3 wA (oO 0 27) yat zc3 yas)
  intro B8 a8 W8 (S8 : Zt [_,_,_,_,_] [_])
  refine wp_ret ?_
  exact yav S8 rfl (by have q := zcm S8 3 2 1 0 rfl rfl rfl; rw [hend, ek] at q; exact q)
end Go.Proofs.YtbkobojhkhiohaaGreat
