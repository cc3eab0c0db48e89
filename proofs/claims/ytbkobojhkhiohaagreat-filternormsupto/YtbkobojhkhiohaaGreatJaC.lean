import Derived.Test.YtbkobojhkhiohaaGreatAmB
import Derived.Shelf.Spec.TrailingZeros
import Derived.Lib.LaidTab
set_option linter.all false
namespace Go.Proofs.YtbkobojhkhiohaaGreat
open Go Go.RowKit Nt
set_option maxRecDepth 20000
set_option maxHeartbeats 16000000
structure FGood (D : List Int) (L : List (List Int)) (ts rs : List (Int × Int)) (m : Nat) : Prop where
 g : Good D L
 len : ts.length = 0 ∨ (ts.length ≠ 0 ∧ ts.length = L.length)
 m : m ≤ L.length
 t : DenOk ts
 r : DenOk rs
inductive FRef (D : List Int) (L : List (List Int)) (ts rs : List (Int × Int)) (m : Nat) : Int → Prop
 | g : Bad D L → FRef D L ts rs m 51
 | len : Good D L → ts.length ≠ 0 → ts.length ≠ L.length → FRef D L ts rs m 8
 | m : Good D L → (ts.length = 0 ∨ (ts.length ≠ 0 ∧ ts.length = L.length)) → L.length < m → FRef D L ts rs m 8
 | t (i0 : Nat) : Good D L → ts.length ≠ 0 → ts.length = L.length → m ≤ L.length → i0 < ts.length → (∀ j, j < i0 → 0 < (ts.getD j (0, 0)).2) → (ts.getD i0 (0, 0)).2 ≤ 0 → FRef D L ts rs m 30
 | r (i0 : Nat) : Good D L → (ts.length = 0 ∨ (ts.length ≠ 0 ∧ ts.length = L.length)) → m ≤ L.length → DenOk ts → i0 < rs.length → (∀ j, j < i0 → 0 < (rs.getD j (0, 0)).2) → (rs.getD i0 (0, 0)).2 ≤ 0 → FRef D L ts rs m 30
theorem ywc (ts : List (Int × Int)) : DenOk ts ∨ ∃ i0, i0 < ts.length ∧ (∀ j, j < i0 → 0 < (ts.getD j (0, 0)).2) ∧ (ts.getD i0 (0, 0)).2 ≤ 0 := by
 rcases yfd (fun i => decide (0 < (ts.getD i (0, 0)).2)) ts.length with h | ⟨i, h1, h2, h3⟩
 ·exact Or.inl (fun k hk => of_decide_eq_true (h k hk))
 ·exact Or.inr ⟨i, h1, fun j hj => of_decide_eq_true (h3 j hj), by have := of_decide_eq_false h2; omega⟩
theorem yx8 (D : List Int) (L : List (List Int)) (ts rs : List (Int × Int)) (m : Nat) : FGood D L ts rs m ∨ ∃ e, e ≠ 0 ∧ FRef D L ts rs m e := by
 rcases yyh D L with g | g
 ·have hl : (ts.length = 0 ∨ (ts.length ≠ 0 ∧ ts.length = L.length)) ∨ (ts.length ≠ 0 ∧ ts.length ≠ L.length) := by omega
  rcases hl with hl | ⟨h2, h3⟩
  ·by_cases hm : m ≤ L.length
   ·rcases ywc ts with h4 | ⟨i, h4, h5, h6⟩
    ·rcases ywc rs with h7 | ⟨j, h7, h8, h9⟩
     ·exact Or.inl ⟨g, hl, hm, h4, h7⟩
     ·exact Or.inr ⟨30, by decide, .r j g hl hm h4 h7 h8 h9⟩
    ·exact Or.inr ⟨30, by decide, .t i g (by omega) (by omega) hm h4 h5 h6⟩
   ·exact Or.inr ⟨8, by decide, .m g hl (by omega)⟩
  ·exact Or.inr ⟨8, by decide, .len g h2 h3⟩
 ·exact Or.inr ⟨51, by decide, .g g⟩
theorem yl6 {D : List Int} {L : List (List Int)} {ts rs : List (Int × Int)} {m : Nat} {e0 : Int} (tg : (FGood D L ts rs m ∧ e0 = 0) ∨ FRef D L ts rs m e0) : (Bad D L ∧ e0 = 51) ∨ (Good D L ∧ ((ts.length ≠ 0 ∧ ts.length ≠ L.length ∧ e0 = 8) ∨ (ts.length = 0 ∧ L.length < m ∧ e0 = 8) ∨ (ts.length ≠ 0 ∧ ts.length = L.length ∧ L.length < m ∧ e0 = 8) ∨ (ts.length = 0 ∧ m ≤ L.length ∧ ((∃ i0, i0 < ts.length ∧ (∀ j, j < i0 → 0 < (ts.getD j (0, 0)).2) ∧ (ts.getD i0 (0, 0)).2 ≤ 0 ∧ e0 = 30) ∨ (DenOk ts ∧ ((∃ i0, i0 < rs.length ∧ (∀ j, j < i0 → 0 < (rs.getD j (0, 0)).2) ∧ (rs.getD i0 (0, 0)).2 ≤ 0 ∧ e0 = 30) ∨ (DenOk rs ∧ e0 = 0)))))
  ∨ (ts.length ≠ 0 ∧ ts.length = L.length ∧ m ≤ L.length ∧ ((∃ i0, i0 < ts.length ∧ (∀ j, j < i0 → 0 < (ts.getD j (0, 0)).2) ∧ (ts.getD i0 (0, 0)).2 ≤ 0 ∧ e0 = 30) ∨ (DenOk ts ∧ ((∃ i0, i0 < rs.length ∧ (∀ j, j < i0 → 0 < (rs.getD j (0, 0)).2) ∧ (rs.getD i0 (0, 0)).2 ≤ 0 ∧ e0 = 30) ∨ (DenOk rs ∧ e0 = 0))))))) := by
 rcases tg with ⟨⟨g, hl, g3, gt, gr⟩, he⟩ | g | ⟨g, g1, g2⟩ | ⟨g, hl, g3⟩ | ⟨i0, g, g1, g2, g3, g4, g6, g7⟩ | ⟨i0, g, hl, g3, gt, g4, g6, g7⟩
 ·refine Or.inr ⟨g, ?_⟩
  rcases hl with h | ⟨h, h'⟩
  ·exact Or.inr (Or.inr (Or.inr (Or.inl ⟨h, g3, Or.inr ⟨gt, Or.inr ⟨gr, he⟩⟩⟩)))
  ·exact Or.inr (Or.inr (Or.inr (Or.inr ⟨h, h', g3, Or.inr ⟨gt, Or.inr ⟨gr, he⟩⟩⟩)))
 ·exact Or.inl ⟨g, rfl⟩
 ·exact Or.inr ⟨g, Or.inl ⟨g1, g2, rfl⟩⟩
 ·refine Or.inr ⟨g, ?_⟩
  rcases hl with h | ⟨h, h'⟩
  ·exact Or.inr (Or.inl ⟨h, g3, rfl⟩)
  ·exact Or.inr (Or.inr (Or.inl ⟨h, h', g3, rfl⟩))
 ·exact Or.inr ⟨g, Or.inr (Or.inr (Or.inr (Or.inr ⟨g1, g2, g3, Or.inl ⟨i0, g4, g6, g7, rfl⟩⟩)))⟩
 ·refine Or.inr ⟨g, ?_⟩
  rcases hl with h | ⟨h, h'⟩
  ·exact Or.inr (Or.inr (Or.inr (Or.inl ⟨h, g3, Or.inr ⟨gt, Or.inl ⟨i0, g4, g6, g7, rfl⟩⟩⟩)))
  ·exact Or.inr (Or.inr (Or.inr (Or.inr ⟨h, h', g3, Or.inr ⟨gt, Or.inl ⟨i0, g4, g6, g7, rfl⟩⟩⟩)))
section
variable {ops : Array Oper} {l : List Kd} {bx : Bxs} {sl : List (Tmp × Pr)} {i : Nat} {o : Oper} {Q : Exit → Act → World → Prop} {a0 : Act} {n0 : Nat} {w0 : World}
theorem ybj {ψ : Nat → Pr} {f : FuncId} {x y z t : Operand} {ts : Array TypeId} {φ φ' φ'' φ3 : Pr} (ho : ops[i]? = some o) (hw : Wants ops l bx sl i o) (hop : o.op = .call { callee := .value (.func f), args := #[x, y, z, t], argTypes := ts }) (hx : Opnd ops l bx sl i x φ) (hy : Opnd ops l bx sl i y φ') (hz : Opnd ops l bx sl i z φ'') (ht : Opnd ops l bx sl i t φ3) (hF : Fresh ψ) (hk : kdAt l i = .val (ψ w0.heap.size))
  (hcf : ∀ args w, (callFunc f args).run Tryz.prog w = .ok (.enter f args) w) (C : ∀ w u v s r, Hs w φ u → Hs w φ' v → Hs w φ'' s → Hs w φ3 r → CG f #[u, v, s, r] w ψ) : Owed Tryz.prog ops Q l bx sl a0 n0 w0 i :=
 yez ho hw hop hF hk hcf fun vs B a w c => by
  rw [show (#[x, y, z, t] : Array Operand).map a.eval = #[a.eval x, a.eval y, a.eval z, a.eval t] from by simp]
  exact C w _ _ _ _ (hx a0 n0 w0 vs B a w c).hs (hy a0 n0 w0 vs B a w c).hs (hz a0 n0 w0 vs B a w c).hs (ht a0 n0 w0 vs B a w c).hs
end
theorem ypn (w : World) (u t v r : Value) (nD nL nT K Kt m Ks : Nat) (D : List Int) (L : List (List Int)) (ts : List (Int × Int)) (x : List Int) (h : Hs w (SF [Vv nD D K, Mv nL L K]) u) (ht : Hs w (QV nT ts Kt) t) (hv : Hs w (Vv m x Ks) v) (hD : nD ≤ 1048576) (hL : nL ≤ 1048576) (hT : nT ≤ 1048576) (hm0 : m ≤ 1048576) (hK : K ≤ 1048576) (hKt : Kt ≤ 1048576) (hKs : Ks ≤ 1048576) (lD : D.length = nD) (lL : L.length = nL) (lT : ts.length = nT) (lx : x.length = m) (nR Kr : Nat) (rs : List (Int × Int)) (hr : Hs w (QV nR rs Kr) r) (hR : nR ≤ 1048576) (hKr : Kr ≤ 8388608) (lR : rs.length = nR) (e0 : Int) (tg : (FGood D L ts rs m ∧ e0 = 0) ∨ FRef D L ts rs m e0) :
  CG 18 #[u, t, v, r] w (IS (.int .i64 e0)) := by
 refine yan (sl := [(0, (SF [(Vv nD D K), (Mv nL L K)])), (1, (QV nT ts Kt)), (2, (Vv m x Ks)), (3, (QV nR rs Kr))]) Tryz.func18 rfl Tryz.ntmps18 (by simp) (yad rfl (h) (yad rfl (ht) (yad rfl (hv) (yad rfl (hr) yar)))) ?_
 intro a0 S0
 refine wq [.new (.box 25 (SF [(Vv nD D K), (Mv nL L K)])), V (iV 0)] [.inl 0] [.inr 1, .inr 2, .inr 3] S0 ?_ ?_
 ·exact jj2 (bxA wA (oS 0 0) (ybw yas)) mC
 intro _ a1 _ (S1 : Zt [_] [_,_,_])
 rcases yl6 tg with ⟨g, rfl⟩ | ⟨g, tg⟩
 ·skip
  refine wq [V (SF [(Vv nD D K), (Mv nL L K)]), Fw (TWO (IS (.agg #[.bool false, .slice none 0 0, .bool false, .slice none 0 0])) (IS (.int .i64 51))) w, Fw (TWO (IS (.agg #[.bool false, .slice none 0 0, .bool false, .slice none 0 0])) (IS (.int .i64 51))) w, .val zR, V (iV 51), .new (.box 31 zR), .put (.inr 5) (.box 31 zR), V (iV 51)] [.inr 0, .inl 5] (.inl 7 :: ur3) S1 ?_ ?_
  ·repeat' refine And.intro ?_ ?_
   ·trivial
   ·exact loA 0 wA yat yas
   ·exact ch3 wA (qO 0 13 rfl) (yab _) (yab _) (ybv (yaf _) (yaf _)) (fun w u0 u1 u2 h0 h1 h2 => by obtain rfl : u1 = _ := h1.now; obtain rfl : u2 = _ := h2.now; exact mu_b w u0 nD nL K D L h0 hD hL hK lD lL 0 0 g)
   ·exact mO 1 14
   ·exact e20 wA (oO 2 12)
   ·exact e21 wA (oO 2 12)
   ·exact nwA wA ya5
   ·exact puA 5 wA (oO 3 15) yaj ybk ybk
   ·exact mO 4 16
  intro B2 a2 W2 (S2 : Zt [_,_] [_,_,_,_])
  refine wq [V (Part a2 4 1), V (Mv nL L K), V (iV (nL : Nat)), V (iV (nL : Nat))] [.inr 0] (.inl 3 :: ur4) S2 ?_ ?_
  ·exact jj4 (ptA wA 0 yaz) (plA wA (oO 0 17) 0 rfl rfl (ploadS rfl ya1)) (lnA wA (oO 1 18) Tryz.underlying23) (mO 2 19)
  intro B3 a3 W3 (S3 : Zt [_] [_,_,_,_,_])
  refine wp_seq (wp_block ?_)
  refine wq [V (iV 51), kT, kT] [.inr 0] (.inl 2 :: ur5) S3 ?_ ?_
  ·exact jj3 (mS 1 10) (yd0 wA (oO 0 21) (yab _) (h := by decide)) (mO 1 22)
  intro B4 a4 W4 (S4 : Zt [_] [_,_,_,_,_,_])
  refine wp_cond_true (S4.bool 0 20 rfl) ?_
  refine wq [V (iV 51), V (iV 51)] [.inr 0] [.inl 1] S4 ?_ ?_
  ·exact jj2 (mS 2 10) (mO 0 23)
  intro B5 a5 W5 (S5 : Zt [_] [_])
  refine wp_ret (inBlkR (thenR ?_))
  exact yav S5 rfl (yaw S5 0 8 rfl)
 ·skip
  refine wq [V (SF [(Vv nD D K), (Mv nL L K)]), Fw (TWO (RN 1 1) (IS (.int .i64 0))) w, Fw (TWO (RN 1 1) (IS (.int .i64 0))) w, Fw (RN 1 1) w, V (iV 0), .new (.box 31 zR), .put (.inr 5) (.box 31 ((RN 1 1) w.heap.size)), V (iV 0)] [.inr 0, .inl 5] (.inl 7 :: ur3) S1 ?_ ?_
  ·repeat' refine And.intro ?_ ?_
   ·trivial
   ·exact loA 0 wA yat yas
   ·exact ch3 wA (qO 0 13 rfl) (yab _) (yab _) (ybv (yec _ _) (yaf _)) (fun w u0 u1 u2 h0 h1 h2 => by obtain rfl : u1 = _ := h1.now; obtain rfl : u2 = _ := h2.now; exact mu_e w u0 nD nL K D L h0 hD hL hK lD lL 0 g (by have := g.some; omega))
   ·exact mO 1 14
   ·exact e20 wA (oO 2 12)
   ·exact e21 wA (oO 2 12)
   ·exact nwA wA ya5
   ·exact puA 5 wA (oO 3 15) yaj ybk (ya2 yah yah)
   ·exact mO 4 16
  intro B2 a2 W2 (S2 : Zt [_,_] [_,_,_,_])
  refine wq [V (Part a2 4 1), V (Mv nL L K), V (iV (nL : Nat)), V (iV (nL : Nat))] [.inr 0] (.inl 3 :: ur4) S2 ?_ ?_
  ·exact jj4 (ptA wA 0 yaz) (plA wA (oO 0 17) 0 rfl rfl (ploadS rfl ya1)) (lnA wA (oO 1 18) Tryz.underlying23) (mO 2 19)
  intro B3 a3 W3 (S3 : Zt [_] [_,_,_,_,_])
  refine wp_seq (wp_block ?_)
  refine wq [V (iV 0), kF, kF] [.inr 0] (.inl 2 :: ur5) S3 ?_ ?_
  ·exact jj3 (mS 1 10) (ycj wA (oO 0 21) (yab _) (h := rfl)) (mO 1 22)
  intro B4 a4 W4 (S4 : Zt [_] [_,_,_,_,_,_])
  refine wp_cond_false (S4.bool 0 20 rfl) ?_
  rcases tg with ⟨g1, g2, rfl⟩ | ⟨g1, g3, rfl⟩ | ⟨g1, g2, g3, rfl⟩ | ⟨g1, g3, tg⟩ | ⟨g1, g2, g3, tg⟩
  ·skip
   refine wq [V (QV nT ts Kt), V (iV (nT : Nat)), kT, kT, V (QV nT ts Kt), V (iV (nT : Nat)), V (iV (nL : Nat)), kT, kT, kT, .off, .off, .off, .off, kT, kT] [.inr 0] [.inl 15, .inr 3, .inr 5] S4 ?_ ?_
   ·exact ⟨⟨⟨⟨⟨⟨⟨⟨jj8 (mS 3 1) (lnA wA (oO 0 25) Tryz.underlying26) (ybb wA (oO 1 26) (yab _)) (mO 2 27) (mW (wI 3 28) (oS 3 1)) (lnA (wI 3 28) (oO 4 29) Tryz.underlying26) (mW (wI 3 28) (oS 1 11)) (ybb (wI 3 28) (oO 5 30) (oO 6 31)), pT wA (oO 3 28) (oO 7 32)⟩, mO 8 33⟩, oF 9 34⟩, oF 9 34⟩, oF 9 34⟩, oF 9 34⟩, pT wA (oO 9 34) (yab _)⟩, mO 14 39⟩
   intro B5 a5 W5 (S5 : Zt [_] [_,_,_])
   refine wp_cond_true (S5.bool 0 24 rfl) ?_
   refine wq [V (iV 8)] [.inr 0] [.inl 0] S5 ?_ ?_
   ·exact jj1 mC
   intro B6 a6 W6 (S6 : Zt [_] [_])
   refine wp_ret (inBlkR (thenR ?_))
   exact yav S6 rfl (yaw S6 0 8 rfl)
  ·skip
   refine wq [V (QV nT ts Kt), V (iV (nT : Nat)), kF, kF, .off, .off, .off, .off, kF, kF, V (Vv m x Ks), V (iV (m : Nat)), V (iV (nL : Nat)), kT, kT, kT] [.inr 0] [.inl 15, .inr 3, .inr 5] S4 ?_ ?_
   ·exact ⟨⟨⟨⟨⟨⟨⟨⟨jj8 (mS 3 1) (lnA wA (oO 0 25) Tryz.underlying26) (ya0 wA (oO 1 26) (yab _)) (mO 2 27) (oF 3 28) (oF 3 28) (oF 3 28) (oF 3 28), pF wA (oO 3 28) (yab _)⟩, mO 8 33⟩, mW (wI 9 34) (oS 4 2)⟩, lnA (wI 9 34) (oO 10 35) Tryz.underlying22⟩, mW (wI 9 34) (oS 1 11)⟩, ycy (wI 9 34) (oO 11 36) (oO 12 37)⟩, pF wA (oO 9 34) (oO 13 38)⟩, mO 14 39⟩
   intro B5 a5 W5 (S5 : Zt [_] [_,_,_])
   refine wp_cond_true (S5.bool 0 24 rfl) ?_
   refine wq [V (iV 8)] [.inr 0] [.inl 0] S5 ?_ ?_
   ·exact jj1 mC
   intro B6 a6 W6 (S6 : Zt [_] [_])
   refine wp_ret (inBlkR (thenR ?_))
   exact yav S6 rfl (yaw S6 0 8 rfl)
  ·skip
   refine wq [V (QV nT ts Kt), V (iV (nT : Nat)), kT, kT, V (QV nT ts Kt), V (iV (nT : Nat)), V (iV (nL : Nat)), kF, kF, kF, V (Vv m x Ks), V (iV (m : Nat)), V (iV (nL : Nat)), kT, kT, kT] [.inr 0] [.inl 15, .inr 3, .inr 5] S4 ?_ ?_
   ·exact ⟨⟨⟨⟨⟨⟨⟨⟨jj8 (mS 3 1) (lnA wA (oO 0 25) Tryz.underlying26) (ybb wA (oO 1 26) (yab _)) (mO 2 27) (mW (wI 3 28) (oS 3 1)) (lnA (wI 3 28) (oO 4 29) Tryz.underlying26) (mW (wI 3 28) (oS 1 11)) (ya0 (wI 3 28) (oO 5 30) (oO 6 31)), pT wA (oO 3 28) (oO 7 32)⟩, mO 8 33⟩, mW (wI 9 34) (oS 4 2)⟩, lnA (wI 9 34) (oO 10 35) Tryz.underlying22⟩, mW (wI 9 34) (oS 1 11)⟩, ycy (wI 9 34) (oO 11 36) (oO 12 37)⟩, pF wA (oO 9 34) (oO 13 38)⟩, mO 14 39⟩
   intro B5 a5 W5 (S5 : Zt [_] [_,_,_])
   refine wp_cond_true (S5.bool 0 24 rfl) ?_
   refine wq [V (iV 8)] [.inr 0] [.inl 0] S5 ?_ ?_
   ·exact jj1 mC
   intro B6 a6 W6 (S6 : Zt [_] [_])
   refine wp_ret (inBlkR (thenR ?_))
   exact yav S6 rfl (yaw S6 0 8 rfl)
  ·skip
   refine wq [V (QV nT ts Kt), V (iV (nT : Nat)), kF, kF, .off, .off, .off, .off, kF, kF, V (Vv m x Ks), V (iV (m : Nat)), V (iV (nL : Nat)), kF, kF, kF] [.inr 0] [.inl 15, .inr 3, .inr 5] S4 ?_ ?_
   ·exact ⟨⟨⟨⟨⟨⟨⟨⟨jj8 (mS 3 1) (lnA wA (oO 0 25) Tryz.underlying26) (ya0 wA (oO 1 26) (yab _)) (mO 2 27) (oF 3 28) (oF 3 28) (oF 3 28) (oF 3 28), pF wA (oO 3 28) (yab _)⟩, mO 8 33⟩, mW (wI 9 34) (oS 4 2)⟩, lnA (wI 9 34) (oO 10 35) Tryz.underlying22⟩, mW (wI 9 34) (oS 1 11)⟩, ycr (wI 9 34) (oO 11 36) (oO 12 37)⟩, pF wA (oO 9 34) (oO 13 38)⟩, mO 14 39⟩
   intro B5 a5 W5 (S5 : Zt [_] [_,_,_])
   refine wp_cond_false (S5.bool 0 24 rfl) ?_
   rcases tg with ⟨i0, g4, g6, g7, rfl⟩ | ⟨gt, ⟨i0, g4, g6, g7, rfl⟩ | ⟨gr, rfl⟩⟩
   ·skip
    refine wq [V (QV nT ts Kt), kF, kT, kT, .off, .off, .off, kT, kT] [.inr 0] [.inl 8] S5 ?_ ?_
    ·exact ⟨jj8 (mS 1 1) (ch1 wA (qO 0 41 rfl) (yaf _) (fun w u h => yo9 w u nT Kt ts h (by omega) (by omega) lT i0 (by omega) g6 g7)) (ydb wA (oO 1 42)) (mO 2 43) (oF 3 44) (oF 3 44) (oF 3 44) (pT wA (oO 3 44) (yab _)), mO 7 48⟩
    intro B6 a6 W6 (S6 : Zt [_] [_])
    refine wp_cond_true (S6.bool 0 40 rfl) ?_
    refine wq [V (iV 30)] [.inr 0] [.inl 0] S6 ?_ ?_
    ·exact jj1 mC
    intro B7 a7 W7 (S7 : Zt [_] [_])
    refine wp_ret (inBlkR (thenR ?_))
    exact yav S7 rfl (yaw S7 0 8 rfl)
   ·skip
    refine wq [V (QV nT ts Kt), kT, kF, kF, V (QV nR rs Kr), kF, kT, kT, kT] [.inr 0] [.inl 8] S5 ?_ ?_
    ·exact ⟨jj8 (mS 1 1) (ch1 wA (qO 0 41 rfl) (yaf _) (fun w u h => yjh w u nT Kt ts h (by omega) (by omega) lT (fun i hi => gt i (by omega)))) (ydb wA (oO 1 42)) (mO 2 43) (mW (wI 3 44) (oS 2 3)) (ch1 (wI 3 44) (qO 4 45 rfl) (yaf _) (fun w u h => yo9 w u nR Kr rs h (by omega) (by omega) lR i0 (by omega) g6 g7)) (ydb (wI 3 44) (oO 5 46)) (pF wA (oO 3 44) (oO 6 47)), mO 7 48⟩
    intro B6 a6 W6 (S6 : Zt [_] [_])
    refine wp_cond_true (S6.bool 0 40 rfl) ?_
    refine wq [V (iV 30)] [.inr 0] [.inl 0] S6 ?_ ?_
    ·exact jj1 mC
    intro B7 a7 W7 (S7 : Zt [_] [_])
    refine wp_ret (inBlkR (thenR ?_))
    exact yav S7 rfl (yaw S7 0 8 rfl)
   ·skip
    refine wq [V (QV nT ts Kt), kT, kF, kF, V (QV nR rs Kr), kT, kF, kF, kF] [.inr 0] [.inl 8] S5 ?_ ?_
    ·exact ⟨jj8 (mS 1 1) (ch1 wA (qO 0 41 rfl) (yaf _) (fun w u h => yjh w u nT Kt ts h (by omega) (by omega) lT (fun i hi => gt i (by omega)))) (ydb wA (oO 1 42)) (mO 2 43) (mW (wI 3 44) (oS 2 3)) (ch1 (wI 3 44) (qO 4 45 rfl) (yaf _) (fun w u h => yjh w u nR Kr rs h (by omega) (by omega) lR (fun i hi => gr i (by omega)))) (ydb (wI 3 44) (oO 5 46)) (pF wA (oO 3 44) (oO 6 47)), mO 7 48⟩
    intro B6 a6 W6 (S6 : Zt [_] [_])
    refine wp_cond_false (S6.bool 0 40 rfl) (wp_skip (inBlkN (thenN ?_)))
    refine wq [V (iV 0)] [.inr 0] [.inl 0] S6 ?_ ?_
    ·exact jj1 mC
    intro B7 a7 W7 (S7 : Zt [_] [_])
    refine wp_ret ?_
    exact yav S7 rfl (yaw S7 0 8 rfl)
  ·skip
   refine wq [V (QV nT ts Kt), V (iV (nT : Nat)), kT, kT, V (QV nT ts Kt), V (iV (nT : Nat)), V (iV (nL : Nat)), kF, kF, kF, V (Vv m x Ks), V (iV (m : Nat)), V (iV (nL : Nat)), kF, kF, kF] [.inr 0] [.inl 15, .inr 3, .inr 5] S4 ?_ ?_
   ·exact ⟨⟨⟨⟨⟨⟨⟨⟨jj8 (mS 3 1) (lnA wA (oO 0 25) Tryz.underlying26) (ybb wA (oO 1 26) (yab _)) (mO 2 27) (mW (wI 3 28) (oS 3 1)) (lnA (wI 3 28) (oO 4 29) Tryz.underlying26) (mW (wI 3 28) (oS 1 11)) (ya0 (wI 3 28) (oO 5 30) (oO 6 31)), pT wA (oO 3 28) (oO 7 32)⟩, mO 8 33⟩, mW (wI 9 34) (oS 4 2)⟩, lnA (wI 9 34) (oO 10 35) Tryz.underlying22⟩, mW (wI 9 34) (oS 1 11)⟩, ycr (wI 9 34) (oO 11 36) (oO 12 37)⟩, pF wA (oO 9 34) (oO 13 38)⟩, mO 14 39⟩
   intro B5 a5 W5 (S5 : Zt [_] [_,_,_])
   refine wp_cond_false (S5.bool 0 24 rfl) ?_
   rcases tg with ⟨i0, g4, g6, g7, rfl⟩ | ⟨gt, ⟨i0, g4, g6, g7, rfl⟩ | ⟨gr, rfl⟩⟩
   ·skip
    refine wq [V (QV nT ts Kt), kF, kT, kT, .off, .off, .off, kT, kT] [.inr 0] [.inl 8] S5 ?_ ?_
    ·exact ⟨jj8 (mS 1 1) (ch1 wA (qO 0 41 rfl) (yaf _) (fun w u h => yo9 w u nT Kt ts h (by omega) (by omega) lT i0 (by omega) g6 g7)) (ydb wA (oO 1 42)) (mO 2 43) (oF 3 44) (oF 3 44) (oF 3 44) (pT wA (oO 3 44) (yab _)), mO 7 48⟩
    intro B6 a6 W6 (S6 : Zt [_] [_])
    refine wp_cond_true (S6.bool 0 40 rfl) ?_
    refine wq [V (iV 30)] [.inr 0] [.inl 0] S6 ?_ ?_
    ·exact jj1 mC
    intro B7 a7 W7 (S7 : Zt [_] [_])
    refine wp_ret (inBlkR (thenR ?_))
    exact yav S7 rfl (yaw S7 0 8 rfl)
   ·skip
    refine wq [V (QV nT ts Kt), kT, kF, kF, V (QV nR rs Kr), kF, kT, kT, kT] [.inr 0] [.inl 8] S5 ?_ ?_
    ·exact ⟨jj8 (mS 1 1) (ch1 wA (qO 0 41 rfl) (yaf _) (fun w u h => yjh w u nT Kt ts h (by omega) (by omega) lT (fun i hi => gt i (by omega)))) (ydb wA (oO 1 42)) (mO 2 43) (mW (wI 3 44) (oS 2 3)) (ch1 (wI 3 44) (qO 4 45 rfl) (yaf _) (fun w u h => yo9 w u nR Kr rs h (by omega) (by omega) lR i0 (by omega) g6 g7)) (ydb (wI 3 44) (oO 5 46)) (pF wA (oO 3 44) (oO 6 47)), mO 7 48⟩
    intro B6 a6 W6 (S6 : Zt [_] [_])
    refine wp_cond_true (S6.bool 0 40 rfl) ?_
    refine wq [V (iV 30)] [.inr 0] [.inl 0] S6 ?_ ?_
    ·exact jj1 mC
    intro B7 a7 W7 (S7 : Zt [_] [_])
    refine wp_ret (inBlkR (thenR ?_))
    exact yav S7 rfl (yaw S7 0 8 rfl)
   ·skip
    refine wq [V (QV nT ts Kt), kT, kF, kF, V (QV nR rs Kr), kT, kF, kF, kF] [.inr 0] [.inl 8] S5 ?_ ?_
    ·exact ⟨jj8 (mS 1 1) (ch1 wA (qO 0 41 rfl) (yaf _) (fun w u h => yjh w u nT Kt ts h (by omega) (by omega) lT (fun i hi => gt i (by omega)))) (ydb wA (oO 1 42)) (mO 2 43) (mW (wI 3 44) (oS 2 3)) (ch1 (wI 3 44) (qO 4 45 rfl) (yaf _) (fun w u h => yjh w u nR Kr rs h (by omega) (by omega) lR (fun i hi => gr i (by omega)))) (ydb (wI 3 44) (oO 5 46)) (pF wA (oO 3 44) (oO 6 47)), mO 7 48⟩
    intro B6 a6 W6 (S6 : Zt [_] [_])
    refine wp_cond_false (S6.bool 0 40 rfl) (wp_skip (inBlkN (thenN ?_)))
    refine wq [V (iV 0)] [.inr 0] [.inl 0] S6 ?_ ?_
    ·exact jj1 mC
    intro B7 a7 W7 (S7 : Zt [_] [_])
    refine wp_ret ?_
    exact yav S7 rfl (yaw S7 0 8 rfl)
theorem ys9 (w : World) (u t v r : Value) (nD nL nT K Kt m Ks : Nat) (D : List Int) (L : List (List Int)) (ts : List (Int × Int)) (x : List Int) (h : Hs w (SF [Vv nD D K, Mv nL L K]) u) (ht : Hs w (QV nT ts Kt) t) (hv : Hs w (Vv m x Ks) v) (hD : nD ≤ 1048576) (hL : nL ≤ 1048576) (hT : nT ≤ 1048576) (hm0 : m ≤ 1048576) (hK : K ≤ 1048576) (hKt : Kt ≤ 1048576) (hKs : Ks ≤ 1048576) (lD : D.length = nD) (lL : L.length = nL) (lT : ts.length = nT) (lx : x.length = m) (nR Kr : Nat) (rs : List (Int × Int)) (hr : Hs w (QV nR rs Kr) r) (hR : nR ≤ 1048576) (hKr : Kr ≤ 8388608) (lR : rs.length = nR) (e0 : Int) (tg : FRef D L ts rs m e0) : CG 18 #[u, t, v, r] w (IS (.int .i64 e0)) := ypn w u t v r nD nL nT K Kt m Ks D L ts x h ht hv hD hL hT hm0 hK hKt hKs lD lL lT lx nR Kr rs hr hR hKr lR e0 (Or.inr tg)
theorem ymo (w : World) (u t v r : Value) (nD nL nT K Kt m Ks : Nat) (D : List Int) (L : List (List Int)) (ts : List (Int × Int)) (x : List Int) (h : Hs w (SF [Vv nD D K, Mv nL L K]) u) (ht : Hs w (QV nT ts Kt) t) (hv : Hs w (Vv m x Ks) v) (hD : nD ≤ 1048576) (hL : nL ≤ 1048576) (hT : nT ≤ 1048576) (hm0 : m ≤ 1048576) (hK : K ≤ 1048576) (hKt : Kt ≤ 1048576) (hKs : Ks ≤ 1048576) (lD : D.length = nD) (lL : L.length = nL) (lT : ts.length = nT) (lx : x.length = m) (nR Kr : Nat) (rs : List (Int × Int)) (hr : Hs w (QV nR rs Kr) r) (hR : nR ≤ 1048576) (hKr : Kr ≤ 8388608) (lR : rs.length = nR) (tg : FGood D L ts rs m) : CG 18 #[u, t, v, r] w (IS (.int .i64 0)) := ypn w u t v r nD nL nT K Kt m Ks D L ts x h ht hv hD hL hT hm0 hK hKt hKs lD lL lT lx nR Kr rs hr hR hKr lR 0 (Or.inl ⟨tg, rfl⟩)
end Go.Proofs.YtbkobojhkhiohaaGreat

namespace Go.Proofs.YtbkobojhkhiohaaGreat
open Go.RowKit Nt
set_option maxRecDepth 20000
set_option maxHeartbeats 16000000
theorem Res.rewritten {w W W' : World} {g c : Nat} {D rest Z : List Nat} {A : Nat} (hb : Below w.heap.size w W) (hg : Blk W g (D ++ rest)) (hB : w.heap.size ≤ g) (hc : c = D.length + rest.length) (hm : c ≤ maxLen) (ho : Ok rest)
  (hZ : Z.length = D.length) (hoZ : Ok Z) (hv : val Z = A) (hw : Wr W g (Z ++ rest) W') : Res w W' (some ⟨g, 0, none⟩) c A := by
 subst hv
 have hblk := Wr.blk hg hw
 have hd : Z.take (Nt.digs (val Z)).length = Nt.digs (val Z) := yd2 hoZ
 have hlz : (Nt.digs (val Z)).length ≤ Z.length := yca hoZ
 have hsp : Z ++ rest = Nt.digs (val Z) ++ (Z.drop (Nt.digs (val Z)).length ++ rest) := by
  rw [← zfv]
  congr 1
  conv => lhs; rw [← zgu (Nt.digs (val Z)).length Z]
  rw [hd]
 have hok : Ok (Z.drop (Nt.digs (val Z)).length ++ rest) := (hoZ.drop _).append ho
 have hcl : c = (Nt.digs (val Z)).length + (Z.drop (Nt.digs (val Z)).length ++ rest).length := by
  rw [zf5, zhs]
  omega
 rw [hsp] at hblk
 refine ⟨hw.below hb hB, ⟨rfl, by omega, hm, (fun e => by cases e), ybc _, ?_⟩, fun b o e => ?_⟩
 ·have := hblk.limbs.take (Nt.digs (val Z)).length
  rwa [List.take_left] at this
 ·simp only [Option.some.injEq, Addr.mk.injEq] at e
  obtain ⟨rfl, rfl, _⟩ := e
  exact ⟨rfl, hB, _, hblk, hok, hcl⟩
end Go.Proofs.YtbkobojhkhiohaaGreat

namespace Go.Proofs.YtbkobojhkhiohaaGreat.Nt
set_option maxHeartbeats 16000000
theorem amgm (x y : Nat) : 4 * (x * y) ≤ (x + y) * (x + y) := by
 rcases Nat.le_total x y with h | h
 ·obtain ⟨d, rfl⟩ := Nat.exists_eq_add_of_le h
  have : (x + (x + d)) * (x + (x + d)) = 4 * (x * (x + d)) + d * d := by grind
  omega
 ·obtain ⟨d, rfl⟩ := Nat.exists_eq_add_of_le h
  have : (y + d + y) * (y + d + y) = 4 * ((y + d) * y) + d * d := by grind
  omega
theorem ysj {x t m r : Nat} (hr : 2 * r = x + 2 * t) (ht : m < 2 * x * (t + 1)) : m < (r + 1) * (r + 1) := by
 have h := amgm x (2 * (t + 1))
 have e1 : x + 2 * (t + 1) = 2 * (r + 1) := by omega
 have e2 : 2 * (r + 1) * (2 * (r + 1)) = 4 * ((r + 1) * (r + 1)) := by grind
 have e3 : 4 * (x * (2 * (t + 1))) = 4 * (2 * x * (t + 1)) := by grind
 rw [e1, e2, e3] at h
 omega
theorem ysi {x D m r t : Int} (h1 : (x - D) * (x - D) < m) (h2 : m < (x + D) * (x + D)) (hD : D * D ≤ 2 * x) (ht : 2 * x * t ≤ m) (hr : 2 * r + 2 = x + 2 * t) (hx : 0 ≤ x) (hr0 : 0 ≤ r) : r * r < m := by
 apply Classical.byContradiction
 intro hc
 have hc' : m ≤ r * r := by omega
 have key : (x * x + m - D * D) * (x * x + m - D * D) - 4 * (x * x) * m = (m - (x - D) * (x - D)) * (m - (x + D) * (x + D)) := by grind
 have neg : (m - (x - D) * (x - D)) * (m - (x + D) * (x + D)) < 0 := Int.mul_neg_of_pos_of_neg (by omega) (by omega)
 have e1 : x * (2 * r) = x * x + 2 * x * t - 2 * x := by
  have : 2 * r = x + 2 * t - 2 := by omega
  rw [this]
  grind
 have le : x * (2 * r) ≤ x * x + m - D * D := by rw [e1]; omega
 have n0 : 0 ≤ x * (2 * r) := zg2 hx (by omega)
 have sq : x * (2 * r) * (x * (2 * r)) ≤ (x * x + m - D * D) * (x * x + m - D * D) := Int.mul_le_mul le le n0 (by omega)
 have e2 : x * (2 * r) * (x * (2 * r)) = 4 * (x * x) * (r * r) := by grind
 have xx : 0 ≤ 4 * (x * x) := zg2 (by omega) (zg2 hx hx)
 have mr : 4 * (x * x) * m ≤ 4 * (x * x) * (r * r) := Int.mul_le_mul_of_nonneg_left hc' xx
 omega
def Rt1 (m r : Nat) : Prop := 1 ≤ r ∧ (r - 1) * (r - 1) < m ∧ m < (r + 1) * (r + 1)
theorem ynr {m A D k : Nat} (hk : D = 2 * k) (h : Rt1 (m / (D * D)) A) (hkA : k ≤ A) (hk0 : 1 ≤ k) : Rt1 m (A * k + m / (2 * D * A)) := by
 obtain ⟨hA, h1, h2⟩ := h
 have hD0 : 0 < D := by omega
 have hDD : 0 < D * D := Nat.mul_pos hD0 hD0
 have hj := zf2 m (D * D)
 have hjr := zf3 m hDD
 generalize m / (D * D) = j at *
 generalize m % (D * D) = jr at *
 have hxp : 0 < 2 * D * A := Nat.mul_pos (by omega) (by omega)
 have ht := zf2 m (2 * D * A)
 have htr := zf3 m hxp
 generalize m / (2 * D * A) = t at *
 generalize m % (2 * D * A) = tr at *
 have hp : 1 ≤ A * k := Nat.mul_pos (by omega) (by omega)
 have e0 : 2 * (A * k) = A * D := by rw [hk]; grind
 have ex : 2 * D * A = 2 * (A * D) := by grind
 rw [ex] at ht htr
 refine ⟨by omega, ?_, ?_⟩
 ·have g1 : ((A - 1) * D) * ((A - 1) * D) < m := by
   have a1 : (A - 1) * (A - 1) * (D * D) < j * (D * D) := zhc h1 hDD
   have a2 : ((A - 1) * D) * ((A - 1) * D) = (A - 1) * (A - 1) * (D * D) := by grind
   rw [ze8] at hj
   omega
  have g2 : m < (A * D + D) * (A * D + D) := by
   have a1 : (j + 1) * (D * D) ≤ (A + 1) * (A + 1) * (D * D) := zfj _ h2
   have a2 : (A * D + D) * (A * D + D) = (A + 1) * (A + 1) * (D * D) := by grind
   rw [zfo, ze8 j] at a1
   omega
  have g3 : D * D ≤ 2 * (A * D) := by
   have : D * D ≤ 2 * A * D := zfj _ (by omega)
   have e : 2 * A * D = 2 * (A * D) := by grind
   omega
  have e1 : (A - 1) * D = A * D - D := by rw [Nat.sub_mul, zgf]
  have hDx : D ≤ A * D := Nat.le_mul_of_pos_left _ (by omega)
  rw [e1] at g1
  generalize A * D = x at *
  obtain ⟨r, hr⟩ : ∃ r, A * k + t = r + 1 := ⟨A * k + t - 1, by omega⟩
  rw [hr, zgs]
  have := ysi (x := x) (D := D) (m := m) (r := r) (t := t) (by
   have : ((x - D : Nat) : Int) = (x : Int) - (D : Int) := by omega
   rw [← this]
   exact_mod_cast g1) (by exact_mod_cast g2) (by exact_mod_cast g3) (by
    have : 2 * x * t ≤ m := by omega
    exact_mod_cast this) (by omega) (by omega) (by omega)
  exact_mod_cast this
 ·refine ysj (x := A * D) (t := t) (by omega) ?_
  rw [zfp, zgv]
  omega
theorem zca {A e : Nat} (h : 4 ^ e < (A + 1) * (A + 1)) : 2 ^ e ≤ A := by
 apply Classical.byContradiction
 intro hc
 have h1 : (A + 1) * (A + 1) ≤ 2 ^ e * 2 ^ e := zgr (by omega) (by omega)
 have h2 : (4 : Nat) ^ e = 2 ^ e * 2 ^ e := by rw [← Nat.mul_pow]
 omega
theorem yjz {n c e d A : Nat} (hd : d ≤ 2 * e + 1) (hed : e < d) (hdc : d ≤ c) (hn : 4 ^ c ≤ n) (h : Rt1 (n / 2 ^ (2 * (c - e))) A) :
  Rt1 (n / 2 ^ (2 * (c - d))) (A * 2 ^ (d - e - 1) + n / 2 ^ (2 * c - e - d + 1) / A) := by
 obtain ⟨m, hm⟩ : ∃ m, n / 2 ^ (2 * (c - d)) = m := ⟨_, rfl⟩
 obtain ⟨k, hk⟩ : ∃ k, d = e + k + 1 := ⟨d - e - 1, by omega⟩
 have e1 : n / 2 ^ (2 * (c - e)) = m / (2 * 2 ^ k * (2 * 2 ^ k)) := by
  rw [← hm, zgx]
  congr 1
  rw [show 2 * (c - e) = 2 * (c - d) + ((k + 1) + (k + 1)) from by omega, zgp, zgp 2 (k + 1), zfr, ze8 (2 ^ k) 2]
 have e2 : n / 2 ^ (2 * c - e - d + 1) / A = m / (2 * (2 * 2 ^ k) * A) := by
  rw [← hm, zgx, zgx, ← zfe]
  congr 2
  rw [show 2 * c - e - d + 1 = 2 * (c - d) + (k + 2) from by omega, zgp, zgp 2 k 2]
  congr 1
  omega
 have hA : 2 ^ k ≤ A := by
  have h4 : 4 ^ e ≤ n / 2 ^ (2 * (c - e)) := by
   rw [zie (zid (by omega)), zhi, ← zgp, show e + (c - e) = c from by omega]
   exact hn
  exact ze6 (zfl (by omega) (by omega)) (zca (zgg h4 h.2.2))
 rw [hm, e2, show d - e - 1 = k from by omega]
 rw [e1] at h
 exact ynr rfl h hA (zid (by omega))
theorem yqs {n c : Nat} (h1 : 4 ^ c ≤ n) (h2 : n < 4 ^ (c + 1)) : Rt1 (n / 2 ^ (2 * (c - 0))) 1 := by
 have e : (2 : Nat) ^ (2 * (c - 0)) = 4 ^ c := by rw [zhw, zhi]
 have p : (0 : Nat) < 4 ^ c := zid (by omega)
 rw [e]
 refine ⟨by omega, ?_, ?_⟩
 ·exact Nat.div_pos h1 p
 ·show n / 4 ^ c < 4
  rw [Nat.div_lt_iff_lt_mul p, ze8]
  rw [zfr] at h2
  exact h2
def IsRoot (n r : Nat) : Prop := r * r ≤ n ∧ n < (r + 1) * (r + 1)
theorem ykl {n r s : Nat} (h : IsRoot n r) (h' : IsRoot n s) : r = s := by
 rcases Nat.lt_trichotomy r s with hl | hl | hl
 ·have := zgr (show r + 1 ≤ s by omega) (show r + 1 ≤ s by omega)
  have := h.2; have := h'.1; omega
 ·exact hl
 ·have := zgr (show s + 1 ≤ r by omega) (show s + 1 ≤ r by omega)
  have := h.1; have := h'.2; omega
theorem yk2 {n r : Nat} (h : Rt1 n r) (hc : n < r * r) : IsRoot n (r - 1) := by
 obtain ⟨h0, h1, h2⟩ := h
 refine ⟨by omega, ?_⟩
 rw [show r - 1 + 1 = r from by omega]
 exact hc
theorem yk3 {n r : Nat} (h : Rt1 n r) (hc : ¬ n < r * r) : IsRoot n r := ⟨by omega, h.2.2⟩
end Go.Proofs.YtbkobojhkhiohaaGreat.Nt

namespace Go.Proofs.YtbkobojhkhiohaaGreat
open Go.RowKit Nt
set_option maxRecDepth 20000
set_option maxHeartbeats 16000000

end Go.Proofs.YtbkobojhkhiohaaGreat

namespace Go.Proofs.YtbkobojhkhiohaaGreat
open Go Go.RowKit Nt
set_option maxRecDepth 20000
set_option maxHeartbeats 16000000
theorem zd0 (w : World) (u t v : Value) (nD nL nT K Kt m Ks : Nat) (D : List Int) (L : List (List Int)) (ts : List (Int × Int)) (x : List Int) (h : Hs w (SF [Vv nD D K, Mv nL L K]) u) (ht : Hs w (QV nT ts Kt) t) (hv : Hs w (Vv m x Ks) v) (hD : nD ≤ 1048576) (hL : nL ≤ 1048576) (hT : nT ≤ 1048576) (hm0 : m ≤ 1048576) (hK : K ≤ 1048576) (hKt : Kt ≤ 1048576) (hKs : Ks ≤ 1048576) (lD : D.length = nD) (lL : L.length = nL) (lT : ts.length = nT) (lx : x.length = m) (e0 : Int) (he : e0 ≠ 0) (g : FRef D L ts [] m e0) :
  CG 5 #[u, t, v] w (TWO (IS (.agg #[.bool false, .slice none 0 0, .bool false, .slice none 0 0])) (IS (.int .i64 e0))) := by
 refine yan (sl := [(0, (SF [(Vv nD D K), (Mv nL L K)])), (1, (QV nT ts Kt)), (2, (Vv m x Ks))]) Tryz.func5 rfl Tryz.ntmps5 (by simp) (yad rfl (h) (yad rfl (ht) (yad rfl (hv) yar))) ?_
 intro a0 S0
 refine wq [.new (.box 25 (SF [(Vv nD D K), (Mv nL L K)])), .new (.box 31 zR), V (iV 0)] [.inl 0, .inl 1] [.inr 1, .inr 2] S0 ?_ ?_
 ·exact jj3 (bxA wA (oS 0 0) (ybw yas)) (nwA wA ya5) mC
 intro _ a1 _ (S1 : Zt [_,_] [_,_])
 refine wp_seq ?_
 refine wq [V (SF [(Vv nD D K), (Mv nL L K)]), V (QV nT ts Kt), V (Vv m x Ks), V (iV e0), V (iV e0)] ur2 (.inl 4 :: ur2) S1 ?_ ?_
 ·exact jj5 (loA 0 wA yat yas) (mS 0 1) (mS 1 2) (ybj rfl wA rfl (oO 0 10) (oO 1 11) (oO 2 12) ((yab _).imp ymc) (yaf _) rfl (fun args w => by go_simp) (fun w u0 u1 u2 u3 h0 h1 h2 h3 => ys9 w u0 u1 u2 u3 nD nL nT K Kt m Ks D L ts x h0 h1 h2 hD hL hT hm0 hK hKt hKs lD lL lT lx 0 0 [] h3 (by omega) (by omega) rfl e0 g)) (mO 3 13)
 intro _ a2 _ (S2 : Zt [_,_] [_,_,_])
 refine wq [V (iV e0), kT] ur2 (.inl 1 :: ur3) S2 ?_ ?_
 ·exact jj2 (mS 0 8) (yd0 wA (oO 0 14) (yab _) (h := he))
 intro _ a3 _ (S3 : Zt [_,_] [_,_,_,_])
 refine wp_cond_true (S3.bool 0 15 rfl) ?_
 refine wq [.val zR, V (iV e0), .put (.inl 6) (.box 31 zR), V (iV e0)] ur2 [.inl 3] S3 ?_ ?_
 ·exact jj4 (yda rfl wA rfl rfl) (mS 1 8) (seA 1 wA (oO 0 16) yaj ybk ybk) (mO 1 17)
 intro _ a4 _ (S4 : Zt [_,_] [_])
 refine wp_ret (thenR ?_)
 exact ydc S4 rfl (yau S4 1 6 rfl yaj ybk) (yaw S4 0 7 rfl)
theorem zd1 (w : World) (u t v : Value) (nD nL nT K Kt m Ks : Nat) (D : List Int) (L : List (List Int)) (ts : List (Int × Int)) (x : List Int) (h : Hs w (SF [Vv nD D K, Mv nL L K]) u) (ht : Hs w (QV nT ts Kt) t) (hv : Hs w (Vv m x Ks) v) (hD : nD ≤ 1048576) (hL : nL ≤ 1048576) (hT : nT ≤ 1048576) (hm0 : m ≤ 1048576) (hK : K ≤ 1048576) (hKt : Kt ≤ 1048576) (hKs : Ks ≤ 1048576) (lD : D.length = nD) (lL : L.length = nL) (lT : ts.length = nT) (lx : x.length = m) (g : FGood D L ts [] m) (K2 : Nat) (τ : List Int) (dn : Int) (hK2 : K2 ≤ 16777216) (lτ : τ.length = nL) (hof : ∀ (B : Nat → Prop) (w : World) (u v : Value), (∀ k, B k → k < w.heap.size) → Has B w (SF [Vv nD D K, Mv nL L K]) u → Has B w (QV nT ts Kt) v → Calls Tryz.prog 19 #[u, v] w fun e w' => ∃ r, e = .returned r ∧ Below w.heap.size w w' ∧ Has B w' (APx nD nL nL K2 D L τ dn) r) (hN : ∀ k, k ≤ m → (digs (fS D (shL x dn τ nL m) L nL k).1.natAbs).length ≤ 67108864) (hR : ∀ k, k ≤ m → (digs (fS D (shL x dn τ nL m) L nL k).2.natAbs).length ≤ 67108864) (Kz : Nat) (hsd : Dl (shL x dn τ nL m) Kz) (qn : Nat) (hq : (dn * dn) * ((fS D (shL x dn τ nL m) L nL m).2 * D.getD (nL - m) 0) = (qn : Int)) (hq0 : qn ≠ 0) (hqd : (digs qn).length ≤ 67108864) :
  CG 5 #[u, t, v] w (TWO (QQ ((fS D (shL x dn τ nL m) L nL m).1) qn) (IS (.int .i64 0))) := by
 have hgl := g.g.len
 have hgm := g.m
 have hz3 : (digs ((dn * dn) * ((fS D (shL x dn τ nL m) L nL m).2 * D.getD (nL - m) 0)).natAbs).length ≤ 67108864 := by rw [hq]; exact hqd
 refine yan (sl := [(0, (SF [(Vv nD D K), (Mv nL L K)])), (1, (QV nT ts Kt)), (2, (Vv m x Ks))]) Tryz.func5 rfl Tryz.ntmps5 (by simp) (yad rfl (h) (yad rfl (ht) (yad rfl (hv) yar))) ?_
 intro a0 S0
 refine wq [.new (.box 25 (SF [(Vv nD D K), (Mv nL L K)])), .new (.box 31 zR), V (iV 0)] [.inl 0, .inl 1] [.inr 1, .inr 2] S0 ?_ ?_
 ·exact jj3 (bxA wA (oS 0 0) (ybw yas)) (nwA wA ya5) mC
 intro _ a1 _ (S1 : Zt [_,_] [_,_])
 refine wp_seq ?_
 refine wq [V (SF [(Vv nD D K), (Mv nL L K)]), V (QV nT ts Kt), V (Vv m x Ks), V (iV 0), V (iV 0)] ur2 (.inl 4 :: ur2) S1 ?_ ?_
 ·exact jj5 (loA 0 wA yat yas) (mS 0 1) (mS 1 2) (ybj rfl wA rfl (oO 0 10) (oO 1 11) (oO 2 12) ((yab _).imp ymc) (yaf _) rfl (fun args w => by go_simp) (fun w u0 u1 u2 u3 h0 h1 h2 h3 => ymo w u0 u1 u2 u3 nD nL nT K Kt m Ks D L ts x h0 h1 h2 hD hL hT hm0 hK hKt hKs lD lL lT lx 0 0 [] h3 (by omega) (by omega) rfl g)) (mO 3 13)
 intro _ a2 _ (S2 : Zt [_,_] [_,_,_])
 refine wq [V (iV 0), kF] ur2 (.inl 1 :: ur3) S2 ?_ ?_
 ·exact jj2 (mS 0 8) (ycj wA (oO 0 14) (yab _) (h := rfl))
 intro _ a3 _ (S3 : Zt [_,_] [_,_,_,_])
 refine wp_cond_false (S3.bool 0 15 rfl) (wp_skip (thenN ?_))
 refine wq [V (SF [(Vv nD D K), (Mv nL L K)]), V (QV nT ts Kt), V (APx nD nL nL K2 D L τ dn), V (Vv m x Ks), V (SP (APx nD nL nL K2 D L τ dn) ((VN m (shL x dn τ nL m)) w.heap.size) ((ZN (fB (shL x dn τ nL m) L nL m)) w.heap.size) ((ZN ((fS D (shL x dn τ nL m) L nL m).1)) w.heap.size) ((ZN ((fS D (shL x dn τ nL m) L nL m).2)) w.heap.size)), V (PR ((ZN ((fS D (shL x dn τ nL m) L nL m).1)) w.heap.size) ((ZN ((dn * dn) * ((fS D (shL x dn τ nL m) L nL m).2 * D.getD (nL - m) 0))) w.heap.size)), .new (.box 31 zR), .put (.inr 6) (.box 31 (PR ((ZN ((fS D (shL x dn τ nL m) L nL m).1)) w.heap.size) ((ZN ((dn * dn) * ((fS D (shL x dn τ nL m) L nL m).2 * D.getD (nL - m) 0))) w.heap.size)))] [.inr 0, .inr 1, .inl 6] [] S3 ?_ ?_
 ·repeat' refine And.intro ?_ ?_
  ·trivial
  ·exact loA 0 wA yat yas
  ·exact mS 2 1
  ·exact ycb rfl wA rfl (oO 0 18) (oO 1 19) rfl (fun args w => by go_simp) (fun B w u v _ hB h1 h2 => hof B w u v hB h1 h2)
  ·exact mS 3 2
  ·exact ycb rfl wA rfl (oO 2 20) (oO 3 21) rfl (fun args w => by go_simp) (fun B w u v hlo hB h1 h2 => at_H (by omega) hL hL hK2 lD lL lτ lx (by omega) rfl (by omega) (fun j hj => g.g.row j (by omega)) (fun i hi => by have := g.g.pos i (by omega); omega) (by omega) (fun k hk => ze6 (hN k hk) (by omega)) (fun k hk => ze6 (hR k hk) (by omega)) B w u v hlo hB h1 h2)
  ·exact yqm rfl wA rfl (oO 4 22) rfl (fun args w => by go_simp) (fun B w u hlo hB h1 => zb2 (Ks := Kz) (fun v w h => h) (by omega) hL hL hK2 lD lL lτ (by omega) (ydx _ _ _ _ _) rfl (by omega) hsd (ze6 (hR m (ze5 _)) (by omega)) B w u hlo hB h1)
  ·exact nwA wA ya5
  ·exact puA 6 wA (oO 5 23) yaj ybk (ya2 yah yah)
 intro _ a4 _ (S4 : Zt [_,_,_] [])
 refine wq [V (Part a4 9 0), Fw (ZN ((fS D (shL x dn τ nL m) L nL m).1)) w, V (Part a4 9 2), Fw (ZN ((dn * dn) * ((fS D (shL x dn τ nL m) L nL m).2 * D.getD (nL - m) 0))) w, Fw (TWO (QQ ((fS D (shL x dn τ nL m) L nL m).1) qn) (IS (.int .i64 0))) w, Fw (QQ ((fS D (shL x dn τ nL m) L nL m).1) qn) w, V (iV 0), .put (.inl 6) (.box 31 ((QQ ((fS D (shL x dn τ nL m) L nL m).1) qn) w.heap.size)), V (iV 0)] ur2 [.inl 8] S4 ?_ ?_
 ·exact ⟨jj8 (ptZ wA 2 ycu) (plA wA (oO 0 24) 2 rfl rfl yc6) (ptA wA 2 yby) (plA wA (oO 2 26) 2 rfl rfl yb1) (cc2 wA (qO 1 25 rfl) (qO 3 27 rfl) (ybv (ybi _ _) (yaf _)) (fun w u v h1 h2 => yl7 (k := 67108864) (k' := 67108864) hq0 (by omega) (by omega) w u v ((ya4 (hN m (ze5 _))) _ _ h1) (by rw [← hq]; exact (ya4 hz3) _ _ h2))) (e20 wA (oO 4 28)) (e21 wA (oO 4 28)) (seA 1 wA (oO 5 29) yaj ybk ybp), mO 6 30⟩
 intro _ a5 _ (S5 : Zt [_,_] [_])
 refine wp_ret ?_
 exact ydc S5 rfl (yau S5 1 6 rfl yaj ybp) (yaw S5 0 7 rfl)
end Go.Proofs.YtbkobojhkhiohaaGreat

namespace Go.Proofs.YtbkobojhkhiohaaGreat
open Go.RowKit Nt
set_option maxRecDepth 20000
set_option maxHeartbeats 16000000
theorem up_n (w : World) (p : Option Addr) (n c a : Nat) (z : Int) (Z : Nat) (h : Num w p n c a) (hz : z = (Z : Int)) (hsz : n + Z / 32 + 1 ≤ 70368744177664) :
  Calls Tryz.prog 126 #[.slice p n c, .int .i64 z] w fun e w' => ∃ r cr, e = .returned (.slice r (digs (a * 2 ^ Z)).length cr) ∧ Res w w' r cr (a * 2 ^ Z) := by
 obtain ⟨xs, h1, rfl⟩ := h
 have := up_c w p n c xs z (Z / 32) (Z % 32) h1 (by omega) (zf3 _ (by omega)) hsz
 rwa [zf2] at this
theorem zar (w : World) (p : Option Addr) (n c a : Nat) (z : Int) (Z : Nat) (h : Num w p n c a) (hz : z = (Z : Int)) (hz1 : Z ≤ 9223372036854775807) (hsz : n ≤ 70368744177664) :
  Calls Tryz.prog 125 #[.slice p n c, .int .i64 z] w fun e w' => ∃ r cr, e = .returned (.slice r (digs (a / 2 ^ Z)).length cr) ∧ Res w w' r cr (a / 2 ^ Z) := by
 obtain ⟨xs, h1, rfl⟩ := h
 have := ywd w p n c xs z (Z / 32) (Z % 32) h1 (by omega) (zf3 _ (by omega)) (by omega) hsz
 rwa [zf2] at this
theorem zdt (w : World) (p q : Option Addr) (n c m d a b : Nat) (h : Num w p n c a) (h' : Num w q m d b) (hb : b ≠ 0) (hs : n + 1 ≤ 70368744177664) :
  Calls Tryz.prog 89 #[.slice p n c, .slice q m d] w fun e w' => ∃ r cr s cs, e = .returned (.tuple #[.slice r (digs (a / b)).length cr, .slice s (digs (a % b)).length cs, .int .i64 0]) ∧ Res w w' r cr (a / b) ∧ Res w w' s cs (a % b) ∧ Two r s := by
 obtain ⟨xs, h1, rfl⟩ := h
 obtain ⟨ys, h2, rfl⟩ := h'
 exact ynm w p q n c m d xs ys h1 h2 hb hs
theorem yw5 {m r X : Nat} (h : Rt1 m r) (hm : m ≤ X) : r ≤ X := by
 obtain ⟨h0, h1, h2⟩ := h
 rcases zge 1 r with h3 | h3
 ·have : (r - 1) * 1 ≤ (r - 1) * (r - 1) := zfk _ (by omega)
  omega
 ·omega
theorem yti {X half : Nat} (h0 : X ≠ 0) (hh : half = (Go.bitLen X - 1) / 2) : 4 ^ half ≤ X ∧ X < 4 ^ (half + 1) := by
 obtain ⟨s1, s2⟩ := bitLen_spec X
 have s3 := s2 h0
 have e1 : (4 : Nat) ^ half = 2 ^ (2 * half) := by rw [zhi]
 have e2 : (4 : Nat) ^ (half + 1) = 2 ^ (2 * (half + 1)) := by rw [zhi]
 rw [e1, e2]
 exact ⟨ze6 (zfl (by omega) (by omega)) s3, zfd s1 (zfl (by omega) (by omega))⟩
theorem zag {X n : Nat} (h : (digs X).length ≤ n) : Go.bitLen X ≤ 32 * n := by
 obtain ⟨s1, s2⟩ := bitLen_spec X
 by_cases h0 : X = 0
 ·rw [h0, show Go.bitLen 0 = 0 from rfl]; omega
 ·have s3 := s2 h0
  apply Classical.byContradiction
  intro hc
  have h1 := yb3 X
  have h2 : (4294967296 : Nat) ^ (digs X).length ≤ 4294967296 ^ n := zfl (by omega) h
  have h3 : (4294967296 : Nat) ^ n = 2 ^ (32 * n) := by rw [zhi]
  have h4 : 2 ^ (32 * n) ≤ 2 ^ (Go.bitLen X - 1) := zfl (by omega) (by omega)
  omega
def RI (w wr : World) (X half L i known A : Nat) (r : Option Addr) (cr : Nat) : Prop :=
 Res w wr r cr A ∧ Rt1 (X / 2 ^ (2 * (half - known))) A ∧ known = half / 2 ^ (L - i)
theorem zcq (w : World) (p : Option Addr) (n c : Nat) (xs : List Nat) (h : Sl w p n c xs) (hs : n ≤ 35184372088832) :
  Calls Tryz.prog 111 #[.slice p n c] w fun e w' => ∃ R r cr, e = .returned (.slice r (digs R).length cr) ∧ Res w w' r cr R ∧ IsRoot (val xs) R := by
 obtain ⟨la, hla⟩ : ∃ la, (digs (val xs)).length = la := ⟨_, rfl⟩
 have T1 := hid (ycf w p n c la xs hla h)
 have S1 := h.digs
 have l1 := h.dl
 have hm := h.max
 unfold maxLen at hm
 obtain ⟨X, hX⟩ : ∃ X, val xs = X := ⟨_, rfl⟩
 rw [hX] at hla S1 l1
 rw [hX]
 rw [hla] at S1 l1
 have hc1 := S1.cap
 have z0 := yax X
 rw [hla] at z0
 by_cases hX0 : X = 0
 ·have hz : la = 0 := z0.2 hX0
  subst hX0
  subst hz
  clear h S1 hX hla z0
  go_enter Tryz.func111, Tryz.ntmps111
  go_wp2_with fail
  refine T1.out.mono ?_
  rintro e w' ⟨rfl, rfl⟩
  go_wp2_with fail
  go_ret
  exact ⟨0, none, 0, rfl, Res.nil (Below.refl _ _), by omega, by omega⟩
 ·have hz : la ≠ 0 := fun e => hX0 (z0.1 e)
  have hlz : ((la : Int) == 0) = false := beq_eq_false_iff_ne.2 (by omega)
  have BT := yq9 w p la c (digs X) S1 (by omega)
  rw [yag] at BT
  obtain ⟨bl, hbl⟩ : ∃ bl, Go.bitLen X = bl := ⟨_, rfl⟩
  rw [hbl] at BT
  have HBT := hid BT
  have hb32 : bl ≤ 32 * la := by rw [← hbl]; exact zag (by rw [hla]; exact ze5 _)
  have hb0 : 1 ≤ bl := by
   rw [← hbl]
   have := (bitLen_spec X).1
   rcases Nat.eq_zero_or_pos (Go.bitLen X) with e | e
   ·rw [e] at this; omega
   ·exact e
  obtain ⟨half, hhalf⟩ : ∃ half, (bl - 1) / 2 = half := ⟨_, rfl⟩
  have hhi : ((bl : Int) - 1) / 2 = (half : Int) := by omega
  have hhb : half ≤ 16 * la := by omega
  have HX4 := hid (yti (half := half) hX0 (by rw [hbl]; exact hhalf.symm))
  obtain ⟨L, hL⟩ : ∃ L, Go.bitLen half = L := ⟨_, rfl⟩
  have HL : Hid (∀ W : World, Calls Tryz.prog 124 #[.int .u64 half] W fun e w' => e = .returned (.int .i64 (L : Int)) ∧ w' = W) := by
   intro W
   have := zd8 W half (by omega)
   rw [hL] at this
   exact this
  have hL64 : L ≤ 64 := by
   rw [← hL]
   have s := bitLen_spec half
   by_cases e : half = 0
   ·rw [e, show Go.bitLen 0 = 0 from rfl]; omega
   ·have := s.2 e
    apply Classical.byContradiction
    intro hc
    have : 2 ^ 64 ≤ 2 ^ (Go.bitLen half - 1) := zfl (by omega) (by omega)
    omega
  have HLS := hid (show half < 2 ^ L ∧ (0 < L → 2 ^ (L - 1) ≤ half) from by
   rw [← hL]
   refine ⟨(bitLen_spec half).1, fun hp => (bitLen_spec half).2 (fun e => ?_)⟩
   rw [e, show Go.bitLen 0 = 0 from rfl] at hp
   omega)
  have HS1 := hid S1
  have HLA := hid hla
  clear h S1 hX hla z0 hbl hhalf BT hL
  go_enter Tryz.func111, Tryz.ntmps111
  go_wp2_with fail
  refine T1.out.mono ?_
  rintro e w' ⟨rfl, rfl⟩
  go_wp2_with fail
  refine HBT.out.mono ?_
  rintro e w' ⟨rfl, rfl⟩
  go_wp2_with fail
  rw [hhi]
  obtain ⟨W0, hW0⟩ : ∃ W, W = w'.alloc (.cells #[.int .u32 1] 66) := ⟨_, rfl⟩
  have HR0 := hid (show Res w' W0 (some ⟨w'.heap.size, 0, none⟩) 1 1 from by
   rw [hW0]
   exact Res.row (xs := [1]) ((Below.refl _ _).alloc (ze5 _) _) (heap_alloc_last _ _) (Ok.cons (by omega) Ok.nil) rfl (ze5 _) rfl (by unfold maxLen; omega))
  rw [← hW0]
  obtain ⟨g0, hg0⟩ : ∃ g, g = w'.heap.size := ⟨_, rfl⟩
  rw [← hg0] at HR0 ⊢
  clear hW0 hg0 hhi
  refine (HL.out _).mono ?_
  rintro e w'' ⟨rfl, rfl⟩
  go_wp2_with fail
  go_loopg [4, 5, 24] L (fun gk s4 s5 s24 wr => ∃ (i known A : Nat) (r : Option Addr) (cr : Nat), L - i ≤ gk ∧ i ≤ L ∧ s24 = .int .i64 i ∧ s5 = .int .i64 known ∧ s4 = .slice r (digs A).length cr ∧ Hid (RI w' wr X half L i known A r cr))
  case atStart =>
   refine ⟨0, 0, 1, some ⟨g0, 0, none⟩, 1, zi1 _ _, zfq _, rfl, rfl, ?_, HR0.out, yqs HX4.out.1 HX4.out.2, ?_⟩
   ·rw [yel (by omega) (by omega)]; rfl
   ·rw [zhw, zg1 HLS.out.1]
  case round =>
   obtain ⟨i, known, A, r, cr, hgk, hi, rfl, rfl, rfl, HR⟩ := hrel
   have hA1 : 1 ≤ A := HR.out.2.1.1
   have hAX : A ≤ X := yw5 HR.out.2.1 (zfy _ _)
   have hlA : (digs A).length ≤ la := by rw [← HLA.out]; exact yae hAX
   have hkh : known ≤ half := by rw [HR.out.2.2]; exact zfy _ _
   obtain ⟨lA, hlAe⟩ : ∃ l, (digs A).length = l := ⟨_, rfl⟩
   rw [hlAe] at hlA ⊢
   have HAL := hid hlAe
   clear hlAe
   have SR : Hid (Sl wr r lA cr (digs A)) := by rw [← HAL.out]; exact HR.out.1.sl
   by_cases hlt : i < L
   ·obtain ⟨last, hlast⟩ : ∃ last, L = last + 1 := ⟨L - 1, by omega⟩
    obtain ⟨y, hy⟩ : ∃ y, half / 2 ^ (last - i) = y := ⟨_, rfl⟩
    have hyh : y ≤ half := by rw [← hy]; exact zfy _ _
    have hyi : (half : Int) / 2 ^ (last - i) = (y : Int) := by rw [← hy]; simp
    have hky : known = y / 2 := by
     rw [HR.out.2.2, ← hy, zgx, ← zfr, show (last - i).succ = L - i from by omega]
    have hy1 : 1 ≤ y := by
     rw [← hy]
     apply Nat.div_pos _ (zgb _)
     have h1 := HLS.out.2 (by omega)
     exact ze6 (zfl (by omega) (by omega)) h1
    have HY := hid hy
    have HKY := hid hky
    subst hlast
    clear hy hky
    rw [show ((last + 1 : Nat) : Int) = (last : Int) + 1 from by omega] at HL
    go_wp2_with fail
    refine (HL.out _).mono ?_
    rintro e w'' ⟨rfl, rfl⟩
    go_wp2_with fail
    obtain ⟨Z, hZ⟩ : ∃ Z, 2 * half - known - y + 1 = Z := ⟨_, rfl⟩
    have hZi : 2 * (half : Int) - (known : Int) - (y : Int) + 1 = (Z : Int) := by omega
    have HZ := hid hZ
    refine (zar _ p la c X _ Z (HS1.out.below HR.out.1.below).numd hZi (by omega) (by omega)).mono ?_
    rintro e W1 ⟨r1, c1, rfl, R1⟩
    have l1' : (digs (X / 2 ^ Z)).length ≤ la := by rw [← HLA.out]; exact yae (zfy _ _)
    obtain ⟨L1, hL1⟩ : ∃ l, (digs (X / 2 ^ Z)).length = l := ⟨_, rfl⟩
    have N1 := R1.sl.numd
    have B1 := R1.below
    rw [hL1] at N1 l1' ⊢
    have HN1 := hid N1
    have HB1 := hid B1
    clear R1 hL1 N1 B1 hZi hZ
    go_wp2_with fail
    refine (zdt _ r1 r L1 c1 lA cr (X / 2 ^ Z) A HN1.out (SR.out.below HB1.out).numd (by omega) (by omega)).mono ?_
    rintro e W2 ⟨r2, c2, r3, c3, rfl, R2, _, _⟩
    have l2' : (digs (X / 2 ^ Z / A)).length ≤ la := by rw [← HLA.out]; exact yae (ze6 (zfy _ _) (zfy _ _))
    obtain ⟨L2, hL2⟩ : ∃ l, (digs (X / 2 ^ Z / A)).length = l := ⟨_, rfl⟩
    have N2 := R2.sl.numd
    have B2 := HB1.out.trans (R2.below.mono HB1.out.size)
    rw [hL2] at N2 l2' ⊢
    have HN2 := hid N2
    have HB2 := hid B2
    clear R2 hL2 N2 B2 HN1 HB1
    go_wp2_with fail
    obtain ⟨k, hk⟩ : ∃ k, y - known - 1 = k := ⟨_, rfl⟩
    have hki : (y : Int) - (known : Int) - 1 = (k : Int) := by have := HKY.out; omega
    have HK := hid hk
    refine (up_n _ r lA cr A _ k (SR.out.below HB2.out).numd hki (by omega)).mono ?_
    rintro e W3 ⟨r4, c4, rfl, R4⟩
    have l3' : (digs (A * 2 ^ k)).length ≤ la := by
     have := yjz (d := y) (e := known) (by have := HKY.out; omega) (by have := HKY.out; omega) hyh HX4.out.1 HR.out.2.1
     rw [HK.out, HZ.out] at this
     have := yw5 this (zfy _ _)
     rw [← HLA.out]
     exact yae (ze6 (Nat.le_add_right _ _) this)
    obtain ⟨L3, hL3⟩ : ∃ l, (digs (A * 2 ^ k)).length = l := ⟨_, rfl⟩
    have N3 := R4.sl.numd
    have B3 := HB2.out.trans (R4.below.mono HB2.out.size)
    have N2' := HN2.out.below R4.below
    rw [hL3] at N3 l3' ⊢
    have HN3 := hid N3
    have HB3 := hid B3
    have HN2' := hid N2'
    clear R4 hL3 N3 B3 N2' HN2 HB2 hki hk
    go_wp2_with fail
    refine (zdo _ r4 r2 L3 c4 L2 c2 (A * 2 ^ k) (X / 2 ^ Z / A) HN3.out HN2'.out 70368744177663 (by omega) (by omega) (by omega)).mono ?_
    rintro e W4 ⟨r5, c5, rfl, R5, _⟩
    have HR5 := hid (R5.since HB3.out)
    clear R5
    go_wp2_with fail
    go_roundg (last + 1 - (i + 1))
    case rel =>
     refine ⟨i + 1, y, A * 2 ^ k + X / 2 ^ Z / A, r5, c5, ze5 _, by omega, by go_num, rfl, rfl, HR5.out.since HR.out.1.below, ?_, ?_⟩
     ·have := yjz (d := y) (e := known) (by have := HKY.out; omega) (by have := HKY.out; omega) hyh HX4.out.1 HR.out.2.1
      rw [HK.out, HZ.out] at this
      exact this
     ·rw [← HY.out, show last + 1 - (i + 1) = last - i from by omega]
    case measure => omega
   ·have hiL : i = L := by omega
    have hkl : known = half := by rw [HR.out.2.2, hiL, zgd, Nat.pow_zero, zi2]
    have HRT : Hid (Rt1 X A) := by
     have := HR.out.2.1
     rwa [hkl, zgd, zgi, Nat.pow_zero, zi2] at this
    have HRS := hid HR.out.1
    subst hiL
    clear HR hkl HL HLS
    go_wp2_with fail
    refine (zee _ r r lA cr lA cr A A SR.out.numd SR.out.numd 70368744177664 (by omega) (by omega)).mono ?_
    rintro e W1 ⟨r1, c1, rfl, R1, Z1⟩
    obtain ⟨L1, hL1⟩ : ∃ l, (digs (A * A)).length = l := ⟨_, rfl⟩
    have N1 := R1.sl.numd
    have B1 := R1.below
    rw [hL1] at N1 ⊢
    have CM := zds W1 r1 p L1 c1 la c (A * A) X N1 ((HS1.out.below HRS.out.below).below B1).numd
    have HCM := hid CM
    have HB1 := hid B1
    clear R1 Z1 hL1 N1 B1 CM
    rcases zge X (A * A) with hgt | hle
    ·have hcm : cmpN (A * A) X = 1 := by
      unfold cmpN
      rw [if_neg (by omega), if_neg (by omega)]
     rw [hcm] at HCM
     have HGT := hid hgt
     clear hcm hgt
     go_wp2_with fail
     refine HCM.out.mono ?_
     rintro e W2 ⟨rfl, nq, rfl⟩
     go_wp2_with fail
     obtain ⟨b, o, rfl, _⟩ := SR.out.lie 0 (by rw [HAL.out]; have := yax A; rw [HAL.out] at this; omega)
     obtain ⟨rfl, hgb, rest, hblk, hor, hcr⟩ := HRS.out.own b o rfl
     have hbin := HRS.out.in b 0 rfl
     have hbs := HB1.out.size
     obtain ⟨W2, hW2⟩ : ∃ W, W = (W1.drewN nq).alloc (.cells #[.int .u32 1] 66) := ⟨_, rfl⟩
     have hB2 : Below wr.heap.size wr W2 := by rw [hW2]; exact (ybe HB1.out nq).alloc (by simpa using hbs) _
     have hS1 : Sl W2 (some ⟨W1.heap.size, 0, none⟩) 1 1 [1] := by
      rw [hW2]
      exact yxc (heap_alloc_last _ _) (by omega)
     rw [← hW2]
     have hSRm := SR.out.max
     have hSRc := SR.out.cap
     rw [HAL.out] at hcr
     refine (ym3 W2 b (digs A) lA cr (some ⟨W1.heap.size, 0, none⟩) 1 1 [1] HAL.out hSRc hSRm rest (hblk.below hB2) (ybc _) hS1 (fun b' o' e _ => by
      simp only [Option.some.injEq, Addr.mk.injEq] at e
      omega) (by have := yax A; rw [HAL.out] at this; omega) (by rw [yag]; simp [val]; omega)).mono ?_
     rintro e W3 ⟨Z, hZl, hZo, hZv, rfl, hWr⟩
     have hvZ : val Z = A - 1 := by
      rw [yag] at hZv
      simp [val] at hZv
      omega
     have hblk3 := Wr.blk (hblk.below hB2) hWr
     have hSZ : Sl W3 (some ⟨b, 0, none⟩) lA cr Z := ⟨hZl, hSRc, hSRm, (fun e => by cases e), hZo, by
      have := hblk3.limbs.take Z.length
      rwa [List.take_left] at this⟩
     have T2 := hid (ycf W3 (some ⟨b, 0, none⟩) lA cr (digs (A - 1)).length Z (by rw [hvZ]) hSZ)
     have RF := hid (Res.rewritten (w := w') (W := W2) (g := b) (c := cr) (D := digs A) (rest := rest) (Z := Z) (A := A - 1) (HRS.out.below.trans (hB2.mono HRS.out.below.size)) (hblk.below hB2) hgb (by rw [HAL.out]; exact hcr) hSRm hor (by rw [HAL.out]; exact hZl) hZo hvZ hWr)
     clear hW2 hS1 hSRm hZl hZo hZv hWr hvZ hblk3 hSZ hblk hor hcr
     go_wp2_with fail
     refine T2.out.mono ?_
     rintro e W4 ⟨rfl, rfl⟩
     go_wp2_with fail
     go_ret
     exact ⟨A - 1, some ⟨b, 0, none⟩, cr, rfl, RF.out, yk2 HRT.out HGT.out⟩
    ·have hcm : ¬ 0 < cmpN (A * A) X := by
      unfold cmpN
      split
      ·omega
      ·rw [if_pos (by omega)]; omega
     obtain ⟨cv, hcv⟩ : ∃ cv, cmpN (A * A) X = cv := ⟨_, rfl⟩
     rw [hcv] at HCM hcm
     have HLE := hid hle
     clear hcv hle
     go_wp2_with fail
     refine HCM.out.mono ?_
     rintro e W2 ⟨rfl, nq, rfl⟩
     have T2 := hid (ycf (W1.drewN nq) r lA cr lA (digs A) (by rw [yag]; exact HAL.out) (SR.out.below (ybe HB1.out nq)))
     go_wp2_with fail
     refine T2.out.mono ?_
     rintro e W3 ⟨rfl, rfl⟩
     go_wp2_with fail
     go_ret
     refine ⟨A, r, cr, by rw [HAL.out]; rfl, HRS.out.later (ybe HB1.out nq), yk3 HRT.out (by have := HLE.out; omega)⟩
end Go.Proofs.YtbkobojhkhiohaaGreat

namespace Go.Proofs.YtbkobojhkhiohaaGreat
open Go Go.RowKit Nt
set_option maxRecDepth 20000
set_option maxHeartbeats 16000000
section
variable {ops : Array Oper} {l : List Kd} {bx : Bxs} {sl : List (Tmp × Pr)} {i : Nat} {o : Oper} {Q : Exit → Act → World → Prop} {a0 : Act} {n : Nat} {w0 : World}
end
end Go.Proofs.YtbkobojhkhiohaaGreat

namespace Go.Proofs.YtbkobojhkhiohaaGreat
open Go.RowKit Nt
set_option maxRecDepth 20000
set_option maxHeartbeats 16000000


end Go.Proofs.YtbkobojhkhiohaaGreat

namespace Go.Proofs.YtbkobojhkhiohaaGreat
open Go Go.RowKit Nt
set_option maxRecDepth 20000
set_option maxHeartbeats 16000000
theorem ywi {A : Int} {k : Nat} (hk : k ≤ 35184372088832) : ∀ w u, Zv A k u w → CG 95 #[u] w (ZN (A.natAbs : Int)) := by
 rintro w u ⟨s, p, n, c, xs, rfl, h, rfl, hn⟩
 rw [sg_abs]
 refine (yz4 w s p n c xs h (by omega)).mono ?_
 rintro e w' ⟨r, cr, rfl, Z⟩
 exact ycx Z
open Classical in
noncomputable def rt (X : Nat) : Nat := if h : ∃ R, IsRoot X R then Classical.choose h else 0
theorem zcs {X R : Nat} (h : IsRoot X R) : rt X = R := by
 unfold rt
 rw [dif_pos ⟨R, h⟩]
 exact ykl (zg0 (p := fun R => IsRoot X R) ⟨R, h⟩) h
theorem zbb {x k : Nat} (hk : k ≤ 35184372088832) : ∀ w u, Nv x k u w → CG 111 #[u] w (NN (rt x)) := by
 rintro w u ⟨p, n, c, xs, rfl, h, rfl, hn⟩
 refine (zcq w p n c xs h (by omega)).mono ?_
 rintro e w' ⟨R, r, cr, rfl, A, hR⟩
 rw [zcs hR]
 exact ⟨_, rfl, A.below, yta A⟩
theorem zep (X : Nat) : rt X ≤ X := by
 unfold rt
 split
 ·rename_i h
  have := (zg0 h).1
  generalize Classical.choose h = R at this ⊢
  rcases Nat.eq_zero_or_pos R with h0 | h0
  ·omega
  ·exact ze6 (zh4 R h0) this
 ·omega
theorem zct {w : World} {p : Option Addr} {n c : Nat} {xs : List Nat} (h : Sl w p n c xs) : (digs (rt (val xs))).length ≤ n := ze6 (yae (zep _)) h.dl
end Go.Proofs.YtbkobojhkhiohaaGreat
