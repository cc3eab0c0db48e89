import Derived.Test.YtbkobojhkhiohaaGreatFmA
set_option linter.all false
namespace Go.Proofs.YtbkobojhkhiohaaGreat
open Go Go.RowKit Nt
set_option maxRecDepth 20000
set_option maxHeartbeats 16000000
theorem yoq {ts : List (Int × Int)} {e0 : Int} (tg : (∃ i0, i0 < ts.length ∧ (∀ j, j < i0 → 0 < (ts.getD j (0, 0)).2) ∧ (ts.getD i0 (0, 0)).2 ≤ 0 ∧ e0 = 30) ∨ (DenOk ts ∧ ((∃ i0, i0 < ([] : List (Int × Int)).length ∧ (∀ j, j < i0 → 0 < (([] : List (Int × Int)).getD j (0, 0)).2) ∧ (([] : List (Int × Int)).getD i0 (0, 0)).2 ≤ 0 ∧ e0 = 30) ∨ (DenOk [] ∧ e0 = 0)))) : ∃ i0, i0 ≤ ts.length ∧ (∀ j, j < i0 → 0 < (ts.getD j (0, 0)).2) ∧ ((i0 = ts.length ∧ e0 = 0) ∨ (i0 < ts.length ∧ e0 = 30 ∧ (ts.getD i0 (0, 0)).2 ≤ 0)) := by
 rcases tg with ⟨i0, h1, h2, h3, h4⟩ | ⟨h, ⟨i0, h1, _⟩ | ⟨_, h1⟩⟩
 ·exact ⟨i0, by omega, h2, Or.inr ⟨h1, h4, h3⟩⟩
 ·exact absurd h1 (Nat.not_lt_zero _)
 ·exact ⟨ts.length, ze5 _, fun j hj => h j hj, Or.inl ⟨rfl, h1⟩⟩
abbrev yhm (Kt : Nat) (ts : List (Int × Int)) (k0 : Nat) : Pr := PR (Zv ((ts.getD k0 (0, 0)).1) Kt) (Zv ((ts.getD k0 (0, 0)).2) Kt)
theorem zal (w : World) (u t v : Value) (nD nL nT K Kt m Ks : Nat) (D : List Int) (L : List (List Int)) (ts : List (Int × Int)) (x : List Int) (h : Hs w (SF [Vv nD D K, Mv nL L K]) u) (ht : Hs w (QV nT ts Kt) t) (hv : Hs w (Vv m x Ks) v) (hD : nD ≤ 1048576) (hL : nL ≤ 1048576) (hT : nT ≤ 1048576) (hm0 : m ≤ 1048576) (hK : K ≤ 1048576) (hKt : Kt ≤ 1048576) (hKs : Ks ≤ 1048576) (lD : D.length = nD) (lL : L.length = nL) (lT : ts.length = nT) (lx : x.length = m) (e0 : Int) (tg : (FGood D L ts [] m ∧ e0 = 0) ∨ FRef D L ts [] m e0) :
  CG 4 #[u, t, v] w (IS (.int .i64 e0)) := by
 refine yan (sl := [(0, (SF [(Vv nD D K), (Mv nL L K)])), (1, (QV nT ts Kt)), (2, (Vv m x Ks))]) Tryz.func4 rfl Tryz.ntmps4 (by simp) (yad rfl (h) (yad rfl (ht) (yad rfl (hv) yar))) ?_
 intro a0 S0
 refine wq [.new (.box 25 (SF [(Vv nD D K), (Mv nL L K)])), V (iV 0)] [.inl 0] [.inr 1, .inr 2] S0 ?_ ?_
 ·exact jj2 (bxA wA (oS 0 0) (ybw yas)) mC
 intro _ a1 _ (S1 : Zt [_] [_,_])
 rcases yl6 tg with ⟨g, rfl⟩ | ⟨g, tg⟩
 ·skip
  refine wp_seq ?_
  refine wq [V (SF [(Vv nD D K), (Mv nL L K)]), kF, kT] [.inr 0] (.inl 2 :: ur2) S1 ?_ ?_
  ·exact jj3 (loA 0 wA yat yas) (ch1 wA (qO 0 9 rfl) (yaf _) (fun w u h => zbf w u nD nL K D L h hD hL hK lD lL g)) (ydb wA (oO 1 10))
  intro B2 a2 W2 (S2 : Zt [_] [_,_,_])
  refine wp_cond_true (S2.bool 0 11 rfl) ?_
  refine wq [V (iV 51)] [.inr 0] [.inl 0] S2 ?_ ?_
  ·exact jj1 mC
  intro B3 a3 W3 (S3 : Zt [_] [_])
  refine wp_ret (thenR ?_)
  exact yav S3 rfl (yaw S3 0 6 rfl)
 ·skip
  refine wp_seq ?_
  refine wq [V (SF [(Vv nD D K), (Mv nL L K)]), kT, kF] [.inr 0] (.inl 2 :: ur2) S1 ?_ ?_
  ·exact jj3 (loA 0 wA yat yas) (ch1 wA (qO 0 9 rfl) (yaf _) (fun w u h => zbg w u nD nL K D L h hD hL hK lD lL g)) (ydb wA (oO 1 10))
  intro B2 a2 W2 (S2 : Zt [_] [_,_,_])
  refine wp_cond_false (S2.bool 0 11 rfl) (wp_skip (thenN ?_))
  refine wq [V (Part a2 3 1), V (Mv nL L K), V (iV (nL : Nat)), V (iV (nL : Nat))] [.inr 0] [.inl 3, .inr 1, .inr 2] S2 ?_ ?_
  ·exact jj4 (ptA wA 0 yaz) (plA wA (oO 0 12) 0 rfl rfl (ploadS rfl ya1)) (lnA wA (oO 1 13) Tryz.underlying23) (mO 2 14)
  intro B3 a3 W3 (S3 : Zt [_] [_,_,_])
  rcases tg with ⟨g1, g2, rfl⟩ | ⟨g1, g3, rfl⟩ | ⟨g1, g2, g3, rfl⟩ | ⟨g1, g3, tg⟩ | ⟨g1, g2, g3, tg⟩
  ·skip
   refine wp_seq ?_
   refine wq [V (QV nT ts Kt), V (iV (nT : Nat)), kT, kT, V (QV nT ts Kt), V (iV (nT : Nat)), V (iV (nL : Nat)), kT, kT, kT, .off, .off, .off, .off, kT] [.inr 0] [.inl 14, .inr 1] S3 ?_ ?_
   ·exact ⟨⟨⟨⟨⟨⟨⟨jj8 (mS 1 1) (lnA wA (oO 0 15) Tryz.underlying26) (ybb wA (oO 1 16) (yab _)) (mO 2 17) (mW (wI 3 18) (oS 1 1)) (lnA (wI 3 18) (oO 4 19) Tryz.underlying26) (mW (wI 3 18) (oS 0 7)) (ybb (wI 3 18) (oO 5 20) (oO 6 21)), pT wA (oO 3 18) (oO 7 22)⟩, mO 8 23⟩, oF 9 24⟩, oF 9 24⟩, oF 9 24⟩, oF 9 24⟩, pT wA (oO 9 24) (yab _)⟩
   intro B4 a4 W4 (S4 : Zt [_] [_,_])
   refine wp_cond_true (S4.bool 0 29 rfl) ?_
   refine wq [V (iV 8)] [.inr 0] [.inl 0] S4 ?_ ?_
   ·exact jj1 mC
   intro B5 a5 W5 (S5 : Zt [_] [_])
   refine wp_ret (thenR ?_)
   exact yav S5 rfl (yaw S5 0 6 rfl)
  ·skip
   refine wp_seq ?_
   refine wq [V (QV nT ts Kt), V (iV (nT : Nat)), kF, kF, .off, .off, .off, .off, kF, kF, V (Vv m x Ks), V (iV (m : Nat)), V (iV (nL : Nat)), kT, kT] [.inr 0] [.inl 14, .inr 1] S3 ?_ ?_
   ·exact ⟨⟨⟨⟨⟨⟨⟨jj8 (mS 1 1) (lnA wA (oO 0 15) Tryz.underlying26) (ya0 wA (oO 1 16) (yab _)) (mO 2 17) (oF 3 18) (oF 3 18) (oF 3 18) (oF 3 18), pF wA (oO 3 18) (yab _)⟩, mO 8 23⟩, mW (wI 9 24) (oS 2 2)⟩, lnA (wI 9 24) (oO 10 25) Tryz.underlying22⟩, mW (wI 9 24) (oS 0 7)⟩, ycy (wI 9 24) (oO 11 26) (oO 12 27)⟩, pF wA (oO 9 24) (oO 13 28)⟩
   intro B4 a4 W4 (S4 : Zt [_] [_,_])
   refine wp_cond_true (S4.bool 0 29 rfl) ?_
   refine wq [V (iV 8)] [.inr 0] [.inl 0] S4 ?_ ?_
   ·exact jj1 mC
   intro B5 a5 W5 (S5 : Zt [_] [_])
   refine wp_ret (thenR ?_)
   exact yav S5 rfl (yaw S5 0 6 rfl)
  ·skip
   refine wp_seq ?_
   refine wq [V (QV nT ts Kt), V (iV (nT : Nat)), kT, kT, V (QV nT ts Kt), V (iV (nT : Nat)), V (iV (nL : Nat)), kF, kF, kF, V (Vv m x Ks), V (iV (m : Nat)), V (iV (nL : Nat)), kT, kT] [.inr 0] [.inl 14, .inr 1] S3 ?_ ?_
   ·exact ⟨⟨⟨⟨⟨⟨⟨jj8 (mS 1 1) (lnA wA (oO 0 15) Tryz.underlying26) (ybb wA (oO 1 16) (yab _)) (mO 2 17) (mW (wI 3 18) (oS 1 1)) (lnA (wI 3 18) (oO 4 19) Tryz.underlying26) (mW (wI 3 18) (oS 0 7)) (ya0 (wI 3 18) (oO 5 20) (oO 6 21)), pT wA (oO 3 18) (oO 7 22)⟩, mO 8 23⟩, mW (wI 9 24) (oS 2 2)⟩, lnA (wI 9 24) (oO 10 25) Tryz.underlying22⟩, mW (wI 9 24) (oS 0 7)⟩, ycy (wI 9 24) (oO 11 26) (oO 12 27)⟩, pF wA (oO 9 24) (oO 13 28)⟩
   intro B4 a4 W4 (S4 : Zt [_] [_,_])
   refine wp_cond_true (S4.bool 0 29 rfl) ?_
   refine wq [V (iV 8)] [.inr 0] [.inl 0] S4 ?_ ?_
   ·exact jj1 mC
   intro B5 a5 W5 (S5 : Zt [_] [_])
   refine wp_ret (thenR ?_)
   exact yav S5 rfl (yaw S5 0 6 rfl)
  ·skip
   refine wp_seq ?_
   refine wq [V (QV nT ts Kt), V (iV (nT : Nat)), kF, kF, .off, .off, .off, .off, kF, kF, V (Vv m x Ks), V (iV (m : Nat)), V (iV (nL : Nat)), kF, kF] [.inr 0] [.inl 14, .inr 1] S3 ?_ ?_
   ·exact ⟨⟨⟨⟨⟨⟨⟨jj8 (mS 1 1) (lnA wA (oO 0 15) Tryz.underlying26) (ya0 wA (oO 1 16) (yab _)) (mO 2 17) (oF 3 18) (oF 3 18) (oF 3 18) (oF 3 18), pF wA (oO 3 18) (yab _)⟩, mO 8 23⟩, mW (wI 9 24) (oS 2 2)⟩, lnA (wI 9 24) (oO 10 25) Tryz.underlying22⟩, mW (wI 9 24) (oS 0 7)⟩, ycr (wI 9 24) (oO 11 26) (oO 12 27)⟩, pF wA (oO 9 24) (oO 13 28)⟩
   intro B4 a4 W4 (S4 : Zt [_] [_,_])
   refine wp_cond_false (S4.bool 0 29 rfl) (wp_skip (thenN ?_))
   obtain ⟨i0, hi, gt, he⟩ := yoq tg
   ·skip
    refine wp_seq ?_
    refine wq [V (iV 0)] [.inr 0] [.inl 0, .inr 1] S4 ?_ ?_
    ·exact jj1 mC
    intro B5 a5 W5 (S5 : Zt [_] [_,_])
    refine wp_block ?_
    refine ya8 (fun (k0 : Nat) a W => (k0 ≤ i0) ∧ ∃ Bq, Sta w 42 [(3, (.box 25 (SF [(Vv nD D K), (Mv nL L K)])))] [(8, iV (k0 : Nat)), (1, (QV nT ts Kt))] Bq a W) (fun (k0 : Nat) => nT - k0) ?_ 0 ⟨zfq _, B5, S5.sub [0] [0, 1]⟩
    rintro k0 a6 W6 ⟨hcond, B6, S6⟩
    by_cases hlt : k0 < i0
    ·have hdv : decide (0 < (ts.getD k0 (0, 0)).2.sign) = true := by rw [yfk (gt k0 (by omega))]; rfl
     refine wp_seq ?_
     refine wq [V (iV (k0 : Nat)), V (QV nT ts Kt), V (iV (nT : Nat)), kT] [.inr 0] (.inl 3 :: ur2) S6 ?_ ?_
     ·exact jj4 (mS 0 8) (mS 1 1) (lnA wA (oO 1 31) Tryz.underlying26) (ya7 wA (oO 0 30) (oO 2 32))
     intro B7 a7 W7 (S7 : Zt [_] [_,_,_])
     refine wp_cond_true (S7.bool 0 33 rfl) (wp_skip (thenN (wp_seq (wp_block ?_))))
     refine wq [V (QV nT ts Kt), V (iV (k0 : Nat)), V (AtE 4 (yhm Kt ts k0)), V (yhm Kt ts k0), kT, kF] [.inr 0] [.inl 5, .inr 1, .inr 2] S7 ?_ ?_
     ·exact jj6 (mS 2 1) (mS 1 8) (axA wA yc8 (oO 0 36) (oO 1 37) (yht (by omega)) rfl) (alC wA ydi (ya2 yak yak) (oO 2 38)) (cc1 wA (qO 3 39 rfl) (yaf _) (fun w u h => Gives.cast (ψ := (IS (.bool true))) (yed (k1 := Kt) (k2 := Kt) (by omega) (by omega) w u h) (by rw [hdv]))) (ydb wA (oO 4 40))
     intro B8 a8 W8 (S8 : Zt [_] [_,_,_])
     refine wp_cond_false (S8.bool 0 41 rfl) (wp_skip (inBlkN (thenN ?_)))
     refine wr [V (iV (k0 : Nat)), V (iV (k0 + 1 : Nat)), V (iV (k0 + 1 : Nat))] [.inr 0] [.inl 2, .inr 2] S8 ?_ ?_
     ·exact jj3 (mS 1 8) (yba wA (oO 0 34) (yab _)) (mO 1 35)
     intro B9 a9 W9 (S9 : Zt [_] [_,_])
     refine thenN ?_
     exact ⟨k0 + 1, ⟨by omega, B9, S9.sub [0] [0, 1]⟩, by omega⟩
    ·have ek : k0 = i0 := by omega
     rcases he with ⟨he, rfl⟩ | ⟨he, rfl, hz⟩
     ·skip
      refine wp_seq ?_
      refine wq [V (iV (k0 : Nat)), V (QV nT ts Kt), V (iV (nT : Nat)), kF] [.inr 0] (.inl 3 :: ur2) S6 ?_ ?_
      ·exact jj4 (mS 0 8) (mS 1 1) (lnA wA (oO 1 31) Tryz.underlying26) (ybl wA (oO 0 30) (oO 2 32))
      intro B7 a7 W7 (S7 : Zt [_] [_,_,_])
      refine wp_cond_false (S7.bool 0 33 rfl) (wp_exit (thenX (thenX (inBlkE (thenN ?_)))))
      refine wq [V (iV 0)] [.inr 0] [.inl 0, .inr 1, .inr 2] S7 ?_ ?_
      ·exact jj1 mC
      intro B8 a8 W8 (S8 : Zt [_] [_,_,_])
      refine wp_ret ?_
      exact yav S8 rfl (yaw S8 0 6 rfl)
     ·skip
      rw [← ek] at hz
      have hdv : decide (0 < (ts.getD k0 (0, 0)).2.sign) = false := decide_eq_false (by have := yd1 hz; omega)
      refine wp_seq ?_
      refine wq [V (iV (k0 : Nat)), V (QV nT ts Kt), V (iV (nT : Nat)), kT] [.inr 0] (.inl 3 :: ur2) S6 ?_ ?_
      ·exact jj4 (mS 0 8) (mS 1 1) (lnA wA (oO 1 31) Tryz.underlying26) (ya7 wA (oO 0 30) (oO 2 32))
      intro B7 a7 W7 (S7 : Zt [_] [_,_,_])
      refine wp_cond_true (S7.bool 0 33 rfl) (wp_skip (thenN (wp_seq (wp_block ?_))))
      refine wq [V (QV nT ts Kt), V (iV (k0 : Nat)), V (AtE 4 (yhm Kt ts k0)), V (yhm Kt ts k0), kF, kT] [.inr 0] [.inl 5, .inr 1, .inr 2] S7 ?_ ?_
      ·exact jj6 (mS 2 1) (mS 1 8) (axA wA yc8 (oO 0 36) (oO 1 37) (yht (by omega)) rfl) (alC wA ydi (ya2 yak yak) (oO 2 38)) (cc1 wA (qO 3 39 rfl) (yaf _) (fun w u h => Gives.cast (ψ := (IS (.bool false))) (yed (k1 := Kt) (k2 := Kt) (by omega) (by omega) w u h) (by rw [hdv]))) (ydb wA (oO 4 40))
      intro B8 a8 W8 (S8 : Zt [_] [_,_,_])
      refine wp_cond_true (S8.bool 0 41 rfl) ?_
      refine wq [V (iV 30)] [.inr 0] [.inl 0, .inr 1, .inr 2] S8 ?_ ?_
      ·exact jj1 mC
      intro B9 a9 W9 (S9 : Zt [_] [_,_,_])
      refine wp_ret (inBlkR (thenR (thenR (inBlkR (thenR ?_)))))
      exact yav S9 rfl (yaw S9 0 6 rfl)
  ·skip
   refine wp_seq ?_
   refine wq [V (QV nT ts Kt), V (iV (nT : Nat)), kT, kT, V (QV nT ts Kt), V (iV (nT : Nat)), V (iV (nL : Nat)), kF, kF, kF, V (Vv m x Ks), V (iV (m : Nat)), V (iV (nL : Nat)), kF, kF] [.inr 0] [.inl 14, .inr 1] S3 ?_ ?_
   ·exact ⟨⟨⟨⟨⟨⟨⟨jj8 (mS 1 1) (lnA wA (oO 0 15) Tryz.underlying26) (ybb wA (oO 1 16) (yab _)) (mO 2 17) (mW (wI 3 18) (oS 1 1)) (lnA (wI 3 18) (oO 4 19) Tryz.underlying26) (mW (wI 3 18) (oS 0 7)) (ya0 (wI 3 18) (oO 5 20) (oO 6 21)), pT wA (oO 3 18) (oO 7 22)⟩, mO 8 23⟩, mW (wI 9 24) (oS 2 2)⟩, lnA (wI 9 24) (oO 10 25) Tryz.underlying22⟩, mW (wI 9 24) (oS 0 7)⟩, ycr (wI 9 24) (oO 11 26) (oO 12 27)⟩, pF wA (oO 9 24) (oO 13 28)⟩
   intro B4 a4 W4 (S4 : Zt [_] [_,_])
   refine wp_cond_false (S4.bool 0 29 rfl) (wp_skip (thenN ?_))
   obtain ⟨i0, hi, gt, he⟩ := yoq tg
   ·skip
    refine wp_seq ?_
    refine wq [V (iV 0)] [.inr 0] [.inl 0, .inr 1] S4 ?_ ?_
    ·exact jj1 mC
    intro B5 a5 W5 (S5 : Zt [_] [_,_])
    refine wp_block ?_
    refine ya8 (fun (k0 : Nat) a W => (k0 ≤ i0) ∧ ∃ Bq, Sta w 42 [(3, (.box 25 (SF [(Vv nD D K), (Mv nL L K)])))] [(8, iV (k0 : Nat)), (1, (QV nT ts Kt))] Bq a W) (fun (k0 : Nat) => nT - k0) ?_ 0 ⟨zfq _, B5, S5.sub [0] [0, 1]⟩
    rintro k0 a6 W6 ⟨hcond, B6, S6⟩
    by_cases hlt : k0 < i0
    ·have hdv : decide (0 < (ts.getD k0 (0, 0)).2.sign) = true := by rw [yfk (gt k0 (by omega))]; rfl
     refine wp_seq ?_
     refine wq [V (iV (k0 : Nat)), V (QV nT ts Kt), V (iV (nT : Nat)), kT] [.inr 0] (.inl 3 :: ur2) S6 ?_ ?_
     ·exact jj4 (mS 0 8) (mS 1 1) (lnA wA (oO 1 31) Tryz.underlying26) (ya7 wA (oO 0 30) (oO 2 32))
     intro B7 a7 W7 (S7 : Zt [_] [_,_,_])
     refine wp_cond_true (S7.bool 0 33 rfl) (wp_skip (thenN (wp_seq (wp_block ?_))))
     refine wq [V (QV nT ts Kt), V (iV (k0 : Nat)), V (AtE 4 (yhm Kt ts k0)), V (yhm Kt ts k0), kT, kF] [.inr 0] [.inl 5, .inr 1, .inr 2] S7 ?_ ?_
     ·exact jj6 (mS 2 1) (mS 1 8) (axA wA yc8 (oO 0 36) (oO 1 37) (yht (by omega)) rfl) (alC wA ydi (ya2 yak yak) (oO 2 38)) (cc1 wA (qO 3 39 rfl) (yaf _) (fun w u h => Gives.cast (ψ := (IS (.bool true))) (yed (k1 := Kt) (k2 := Kt) (by omega) (by omega) w u h) (by rw [hdv]))) (ydb wA (oO 4 40))
     intro B8 a8 W8 (S8 : Zt [_] [_,_,_])
     refine wp_cond_false (S8.bool 0 41 rfl) (wp_skip (inBlkN (thenN ?_)))
     refine wr [V (iV (k0 : Nat)), V (iV (k0 + 1 : Nat)), V (iV (k0 + 1 : Nat))] [.inr 0] [.inl 2, .inr 2] S8 ?_ ?_
     ·exact jj3 (mS 1 8) (yba wA (oO 0 34) (yab _)) (mO 1 35)
     intro B9 a9 W9 (S9 : Zt [_] [_,_])
     refine thenN ?_
     exact ⟨k0 + 1, ⟨by omega, B9, S9.sub [0] [0, 1]⟩, by omega⟩
    ·have ek : k0 = i0 := by omega
     rcases he with ⟨he, rfl⟩ | ⟨he, rfl, hz⟩
     ·skip
      refine wp_seq ?_
      refine wq [V (iV (k0 : Nat)), V (QV nT ts Kt), V (iV (nT : Nat)), kF] [.inr 0] (.inl 3 :: ur2) S6 ?_ ?_
      ·exact jj4 (mS 0 8) (mS 1 1) (lnA wA (oO 1 31) Tryz.underlying26) (ybl wA (oO 0 30) (oO 2 32))
      intro B7 a7 W7 (S7 : Zt [_] [_,_,_])
      refine wp_cond_false (S7.bool 0 33 rfl) (wp_exit (thenX (thenX (inBlkE (thenN ?_)))))
      refine wq [V (iV 0)] [.inr 0] [.inl 0, .inr 1, .inr 2] S7 ?_ ?_
      ·exact jj1 mC
      intro B8 a8 W8 (S8 : Zt [_] [_,_,_])
      refine wp_ret ?_
      exact yav S8 rfl (yaw S8 0 6 rfl)
     ·skip
      rw [← ek] at hz
      have hdv : decide (0 < (ts.getD k0 (0, 0)).2.sign) = false := decide_eq_false (by have := yd1 hz; omega)
      refine wp_seq ?_
      refine wq [V (iV (k0 : Nat)), V (QV nT ts Kt), V (iV (nT : Nat)), kT] [.inr 0] (.inl 3 :: ur2) S6 ?_ ?_
      ·exact jj4 (mS 0 8) (mS 1 1) (lnA wA (oO 1 31) Tryz.underlying26) (ya7 wA (oO 0 30) (oO 2 32))
      intro B7 a7 W7 (S7 : Zt [_] [_,_,_])
      refine wp_cond_true (S7.bool 0 33 rfl) (wp_skip (thenN (wp_seq (wp_block ?_))))
      refine wq [V (QV nT ts Kt), V (iV (k0 : Nat)), V (AtE 4 (yhm Kt ts k0)), V (yhm Kt ts k0), kF, kT] [.inr 0] [.inl 5, .inr 1, .inr 2] S7 ?_ ?_
      ·exact jj6 (mS 2 1) (mS 1 8) (axA wA yc8 (oO 0 36) (oO 1 37) (yht (by omega)) rfl) (alC wA ydi (ya2 yak yak) (oO 2 38)) (cc1 wA (qO 3 39 rfl) (yaf _) (fun w u h => Gives.cast (ψ := (IS (.bool false))) (yed (k1 := Kt) (k2 := Kt) (by omega) (by omega) w u h) (by rw [hdv]))) (ydb wA (oO 4 40))
      intro B8 a8 W8 (S8 : Zt [_] [_,_,_])
      refine wp_cond_true (S8.bool 0 41 rfl) ?_
      refine wq [V (iV 30)] [.inr 0] [.inl 0, .inr 1, .inr 2] S8 ?_ ?_
      ·exact jj1 mC
      intro B9 a9 W9 (S9 : Zt [_] [_,_,_])
      refine wp_ret (inBlkR (thenR (thenR (inBlkR (thenR ?_)))))
      exact yav S9 rfl (yaw S9 0 6 rfl)
theorem ytu (w : World) (u t v : Value) (nD nL nT K Kt m Ks : Nat) (D : List Int) (L : List (List Int)) (ts : List (Int × Int)) (x : List Int) (h : Hs w (SF [Vv nD D K, Mv nL L K]) u) (ht : Hs w (QV nT ts Kt) t) (hv : Hs w (Vv m x Ks) v) (hD : nD ≤ 1048576) (hL : nL ≤ 1048576) (hT : nT ≤ 1048576) (hm0 : m ≤ 1048577) (hK : K ≤ 1048576) (hKt : Kt ≤ 1048576) (hKs : Ks ≤ 4194304) (lD : D.length = nD) (lL : L.length = nL) (lT : ts.length = nT) (lx : x.length = m) (g : FGood D L ts [] m) (τ : List Int) (dn : Nat) (hdn : dn ≠ 0) (bdn : (digs dn).length ≤ 1048576) (tok : TauOk ts τ dn) (Kz : Nat) (hKz : Kz ≤ 4194304) (bsh : Dl (shL x (dn : Int) τ nL m) Kz) (k : Nat) (hk : k < m) :
  CG 27 #[u, t, v, .int .i64 ((nL - 1 - k : Nat) : Int)] w (QQ ((shL x (dn : Int) τ nL m).getD k 0) dn) := by
 have hgl := g.g.len
 have hgm := g.m
 have esk : (shL x (dn : Int) τ nL m).getD k 0 = x.getD k 0 * (dn : Int) - τ.getD (nL - 1 - k) 0 := yfl hk
 have bx : (digs (x.getD k 0).natAbs).length ≤ Ks := ybq (yhc hv.now) k
 refine yan (sl := [(0, (SF [(Vv nD D K), (Mv nL L K)])), (1, (QV nT ts Kt)), (2, (Vv m x Ks)), (3, (iV ((nL - 1 - k : Nat) : Int)))]) Tryz.func27 rfl Tryz.ntmps27 (by simp) (yad rfl (h) (yad rfl (ht) (yad rfl (hv) (yad rfl (yem _) yar)))) ?_
 intro a0 S0
 refine wq [.new (.box 25 (SF [(Vv nD D K), (Mv nL L K)])), .new (.box 31 zR)] [.inl 0, .inl 1] [.inr 1, .inr 2, .inr 3] S0 ?_ ?_
 ·exact jj2 (bxA wA (oS 0 0) (ybw yas)) (nwA wA ya5)
 intro _ a1 _ (S1 : Zt [_,_] [_,_,_])
 refine wq [V (Vv m x Ks), V (Part a1 4 1), V (Mv nL L K), V (iV (nL : Nat)), V (iV ((nL - 1 : Nat) : Int)), V (iV ((nL - 1 - k : Nat) : Int)), V (iV (k : Nat)), V (AtE 2 (Zv (x.getD k 0) Ks)), V (Zv (x.getD k 0) Ks), Fw (QQ (x.getD k 0) 1) w, .new (.box 31 zR), .put (.inr 10) (.box 31 ((QQ (x.getD k 0) 1) w.heap.size))] [.inr 0, .inr 1, .inl 10] [.inr 0, .inr 2] S1 ?_ ?_
 ·exact ⟨⟨⟨⟨jj8 (mS 1 2) (ptA wA 0 yaz) (plA wA (oO 1 11) 0 rfl rfl (ploadS rfl ya1)) (lnA wA (oO 2 12) Tryz.underlying23) (yct wA (oO 3 13) (yab _)) (mS 2 3) (yct wA (oO 4 14) (oO 5 15)) (axA wA ybr (oO 0 10) (oO 6 16) (yd3 (by omega)) rfl), alC wA ya9 yak (oO 7 17)⟩, cc1 wA (qO 8 18 rfl) (ybi _ _) (fun w u h1 => Gives.cast (ψ := (QQ (x.getD k 0) 1)) (yry (A := x.getD k 0) (k := Ks) (by omega) w u h1) (qq_1 _))⟩, nwA wA ya5⟩, puA 10 wA (oO 9 19) yaj ybk ybp⟩
 intro _ a2 _ (S2 : Sta w 30 [(4, (.box 25 (SF [(Vv nD D K), (Mv nL L K)]))), (8, (.box 31 zR)), (9, (.box 31 ((QQ (x.getD k 0) 1) w.heap.size)))] [(1, (QV nT ts Kt)), (3, iV ((nL - 1 - k : Nat) : Int))] _ _ _)
 by_cases h0 : nT = 0
 ·skip
  rw [show (QQ (x.getD k 0) 1) = (QQ ((shL x (dn : Int) τ nL m).getD k 0) dn) from by rw [esk]; exact zeq hdn rfl (tok.1 (by omega) _)] at S2
  refine wp_seq ?_
  refine wq [V (QV nT ts Kt), V (iV (nT : Nat)), kF] ur3 (.inl 2 :: ur2) S2 ?_ ?_
  ·exact jj3 (mS 0 1) (lnA wA (oO 0 20) Tryz.underlying26) (ycr wA (oO 1 21) (yab _))
  intro B3 a3 W3 (S3 : Zt [_,_,_] [_,_,_])
  refine wp_cond_false (S3.bool 0 22 rfl) (wp_skip (thenN ?_))
  refine wq [Fw (QQ ((shL x (dn : Int) τ nL m).getD k 0) dn) w, .put (.inl 8) (.box 31 ((QQ ((shL x (dn : Int) τ nL m).getD k 0) dn) w.heap.size))] ur2 [] S3 ?_ ?_
  ·exact jj2 (loA 2 wA yaj ybp) (seA 1 wA (oO 0 29) yaj ybk ybp)
  intro B4 a4 W4 (S4 : Zt [_,_] [])
  refine wp_ret ?_
  exact yav S4 rfl (yau S4 1 8 rfl yaj ybp)
 ·skip
  have hlen := g.len
  have hd := g.t (nL - 1 - k) (by omega)
  have hdz : (ts.getD (nL - 1 - k) (0, 0)).2.toNat ≠ 0 := by omega
  have hTk := tok.2 (nL - 1 - k) (by omega)
  rw [show (ts.getD (nL - 1 - k) (0, 0)).2 = (((ts.getD (nL - 1 - k) (0, 0)).2.toNat : Nat) : Int) by omega] at hTk
  refine wp_seq ?_
  refine wq [V (QV nT ts Kt), V (iV (nT : Nat)), kT] ur3 (.inl 2 :: ur2) S2 ?_ ?_
  ·exact jj3 (mS 0 1) (lnA wA (oO 0 20) Tryz.underlying26) (ycy wA (oO 1 21) (yab _))
  intro B3 a3 W3 (S3 : Zt [_,_,_] [_,_,_])
  refine wp_cond_true (S3.bool 0 22 rfl) ?_
  refine wr [Fw (QQ (x.getD k 0) 1) w, V (QV nT ts Kt), V (iV ((nL - 1 - k : Nat) : Int)), V (AtE 4 (PR (Zv ((ts.getD ((nL - 1 - k)) (0, 0)).1) Kt) (Zv ((ts.getD ((nL - 1 - k)) (0, 0)).2) Kt))), V (PR (Zv ((ts.getD ((nL - 1 - k)) (0, 0)).1) Kt) (Zv ((ts.getD ((nL - 1 - k)) (0, 0)).2) Kt)), Fw (QQ ((shL x (dn : Int) τ nL m).getD k 0) dn) w, .put (.inl 9) (.box 31 ((QQ ((shL x (dn : Int) τ nL m).getD k 0) dn) w.heap.size))] ur3 [] S3 ?_ ?_
  ·repeat' refine And.intro ?_ ?_
   ·trivial
   ·exact loA 2 wA yaj ybp
   ·exact mS 1 1
   ·exact mS 2 3
   ·exact axA wA yc8 (oO 1 24) (oO 2 25) (yht (by omega)) rfl
   ·exact alC wA ydi (ya2 yak yak) (oO 3 26)
   ·exact cc2 wA (qO 0 23 rfl) (qO 4 27 rfl) (ybi _ _) (fun w u v h1 h2 => Gives.cast (ψ := (QQ ((shL x (dn : Int) τ nL m).getD k 0) dn)) (yzd (k := 4194304) (k' := Kt) Nat.one_ne_zero hdz (by omega) (by omega) w u v (zcj Nat.one_ne_zero (ze6 bx hKs) (ze6 yhh (by omega)) _ _ h1) (ywz hd _ _ h2)) (by rw [esk]; exact zc2 hdn hdz hTk))
   ·exact seA 2 wA (oO 5 28) yaj ybp ybp
  intro B4 a4 W4 (S4 : Zt [_,_,_] [])
  refine thenN ?_
  refine wq [Fw (QQ ((shL x (dn : Int) τ nL m).getD k 0) dn) w, .put (.inl 8) (.box 31 ((QQ ((shL x (dn : Int) τ nL m).getD k 0) dn) w.heap.size))] ur2 [] S4 ?_ ?_
  ·exact jj2 (loA 2 wA yaj ybp) (seA 1 wA (oO 0 29) yaj ybk ybp)
  intro _ a5 _ (S5 : Zt [_,_] [])
  refine wp_ret ?_
  exact yav S5 rfl (yau S5 1 8 rfl yaj ybp)
theorem zce (w : World) (u t v : Value) (nD nL nT K Kt m Ks : Nat) (D : List Int) (L : List (List Int)) (ts : List (Int × Int)) (x : List Int) (h : Hs w (SF [Vv nD D K, Mv nL L K]) u) (ht : Hs w (QV nT ts Kt) t) (hv : Hs w (Vv m x Ks) v) (hD : nD ≤ 1048576) (hL : nL ≤ 1048576) (hT : nT ≤ 1048576) (hm0 : m ≤ 1048577) (hK : K ≤ 1048576) (hKt : Kt ≤ 1048576) (hKs : Ks ≤ 4194304) (lD : D.length = nD) (lL : L.length = nL) (lT : ts.length = nT) (lx : x.length = m) (g : FGood D L ts [] m) (τ : List Int) (dn : Nat) (hdn : dn ≠ 0) (bdn : (digs dn).length ≤ 1048576) (tok : TauOk ts τ dn) (Kz : Nat) (hKz : Kz ≤ 4194304) (bsh : Dl (shL x (dn : Int) τ nL m) Kz) (c : Nat) (hc : c ≤ m) (hcl : c < nL) :
  CG 28 #[u, t, v, .int .i64 ((nL - 1 - c : Nat) : Int)] w (QQ (sumZ (fbL (shL x (dn : Int) τ nL m) L nL (nL - 1 - c) c)) (dn * dN D (nL - 1 - c + 1))) := by
 have hgl := g.g.len
 have hgm := g.m
 obtain ⟨hd1, hz1⟩ := ynj g.g (i := nL - 1 - c + 1) (by omega)
 have dD : Dl D K := by
  obtain ⟨cs, _, _, _, hp⟩ := h.now
  obtain ⟨v, _, hv⟩ := hp 0 _ rfl
  exact yhc hv
 have dL := ytq h.now
 have bd1 : (digs (dN D (nL - 1 - c + 1))).length ≤ K := by have q := ybq dD (nL - 1 - c + 1); rw [hd1, zfn] at q; exact q
 have hM : dn * dN D (nL - 1 - c + 1) ≠ 0 := zfu hdn hz1
 have bM : (digs (dn * dN D (nL - 1 - c + 1))).length ≤ 2097152 := ze6 (yam bdn bd1) (by omega)
 have bP : ∀ s, (digs (plS (shL x (dn : Int) τ nL m) L nL (nL - 1 - c) c s).natAbs).length ≤ 8388608 := fun s => ze6 (zei bsh dL) (by omega)
 refine yan (sl := [(0, (SF [(Vv nD D K), (Mv nL L K)])), (1, (QV nT ts Kt)), (2, (Vv m x Ks)), (3, (iV ((nL - 1 - c : Nat) : Int)))]) Tryz.func28 rfl Tryz.ntmps28 (by simp) (yad rfl (h) (yad rfl (ht) (yad rfl (hv) (yad rfl (yem _) yar)))) ?_
 intro a0 S0
 refine wq [.new (.box 25 (SF [(Vv nD D K), (Mv nL L K)])), .new (.box 31 zR)] [.inl 0, .inl 1] [.inr 1, .inr 2, .inr 3] S0 ?_ ?_
 ·exact jj2 (bxA wA (oS 0 0) (ybw yas)) (nwA wA ya5)
 intro _ a1 _ (S1 : Zt [_,_] [_,_,_])
 refine wq [Fw (ZN (0)) w, Fw (QQ (plS (shL x (dn : Int) τ nL m) L nL (nL - 1 - c) c 0) (dn * dN D (nL - 1 - c + 1))) w, .new (.box 31 zR), .put (.inr 2) (.box 31 ((QQ (plS (shL x (dn : Int) τ nL m) L nL (nL - 1 - c) c 0) (dn * dN D (nL - 1 - c + 1))) w.heap.size))] [.inr 0, .inr 1, .inl 2] ur3 S1 ?_ ?_
 ·exact jj4 (cc1 wA (yab _) (yai _) (yki (0) (by omega) (by omega))) (cc1 wA (qO 0 11 rfl) (ybi _ _) (fun w u0 h0 => Gives.cast (ψ := (QQ (plS (shL x (dn : Int) τ nL m) L nL (nL - 1 - c) c 0) (dn * dN D (nL - 1 - c + 1)))) ((fun w u h => yry (A := 0) (k := 1) (by omega) w u (ya4 (by decide) _ _ h)) w u0 h0) (by rw [pl_0]; exact ykz hM))) (nwA wA ya5) (puA 2 wA (oO 1 12) yaj ybk ybp)
 intro _ a2 _ (S2 : Zt [_,_,_] [_,_,_])
 refine wp_seq ?_
 refine wq [V (iV ((nL - 1 - c : Nat) : Int)), V (iV ((nL - 1 - c + 1 + 0 : Nat) : Int)), V (iV ((nL - 1 - c + 1 + 0 : Nat) : Int))] ur3 (.inl 2 :: ur3) S2 ?_ ?_
 ·exact jj3 (mS 2 3) (yba wA (oO 0 13) (yab _)) (mO 1 14)
 intro B3 a3 _ (S3 : Zt [_,_,_] [_,_,_,_])
 refine wp_block ?_
 refine ya8 (fun (s0 : Nat) a W => (s0 ≤ c) ∧ ∃ Bq, Sta w 35 [(4, (.box 25 (SF [(Vv nD D K), (Mv nL L K)]))), (8, (.box 31 zR)), (9, (.box 31 ((QQ (plS (shL x (dn : Int) τ nL m) L nL (nL - 1 - c) c s0) (dn * dN D (nL - 1 - c + 1))) w.heap.size)))] [(10, iV ((nL - 1 - c + 1 + s0 : Nat) : Int)), (1, (QV nT ts Kt)), (2, Vv m x Ks), (3, iV ((nL - 1 - c : Nat) : Int))] Bq a W) (fun (s0 : Nat) => c - s0) ?_ 0 ⟨zfq _, B3, S3.sub [0, 1, 2] [0, 1, 2, 3]⟩
 rintro s0 a4 _ ⟨hcond, _, S4⟩
 by_cases hlt : s0 < c
 ·skip
  refine wp_seq ?_
  refine wq [V (iV ((nL - 1 - c + 1 + s0 : Nat) : Int)), V (Part a4 4 1), V (Mv nL L K), V (iV (nL : Nat)), kT] ur3 (.inl 4 :: ur4) S4 ?_ ?_
  ·exact jj5 (mS 0 10) (ptA wA 0 yaz) (plA wA (oO 1 16) 0 rfl rfl (ploadS rfl ya1)) (lnA wA (oO 2 17) Tryz.underlying23) (ya7 wA (oO 0 15) (oO 3 18))
  intro B5 a5 W5 (S5 : Zt [_,_,_] [_,_,_,_,_])
  refine wp_cond_true (S5.bool 0 19 rfl) (wp_skip (thenN (wp_seq (wp_block ?_))))
  refine wr [Fw (QQ (plS (shL x (dn : Int) τ nL m) L nL (nL - 1 - c) c s0) (dn * dN D (nL - 1 - c + 1))) w, V (SF [(Vv nD D K), (Mv nL L K)]), V (QV nT ts Kt), V (Vv m x Ks), V (iV ((nL - 1 - c + 1 + s0 : Nat) : Int)), Fw (QQ ((shL x (dn : Int) τ nL m).getD (c - 1 - s0) 0) dn) w, V (SF [(Vv nD D K), (Mv nL L K)]), V (iV ((nL - 1 - c + 1 + s0 : Nat) : Int)), V (iV ((nL - 1 - c : Nat) : Int)), Fw (QQ ((L.getD (nL - 1 - c + 1 + s0) []).getD (nL - 1 - c) 0) (dN D (nL - 1 - c + 1))) w, Fw (QQ ((shL x (dn : Int) τ nL m).getD (c - 1 - s0) 0 * (L.getD (nL - 1 - c + 1 + s0) []).getD (nL - 1 - c) 0) (dn * dN D (nL - 1 - c + 1))) w, Fw (QQ (plS (shL x (dn : Int) τ nL m) L nL (nL - 1 - c) c (s0 + 1)) (dn * dN D (nL - 1 - c + 1))) w, .put (.inl 9) (.box 31 ((QQ (plS (shL x (dn : Int) τ nL m) L nL (nL - 1 - c) c (s0 + 1)) (dn * dN D (nL - 1 - c + 1))) w.heap.size))] ur3 [.inr 1, .inr 2, .inr 3, .inr 4] S5 ?_ ?_
  ·exact ⟨⟨⟨⟨⟨jj8 (loA 2 wA yaj ybp) (loA 0 wA yat yas) (mS 2 1) (mS 3 2) (mS 1 10) (ybj rfl wA rfl (oO 1 23) (oO 2 24) (oO 3 25) (oO 4 26) (ybi _ _) rfl (fun args w => by go_simp) (fun w u0 u1 u2 u3 h0 h1 h2 h3 => by obtain rfl : u3 = _ := h3.now; rw [show nL - 1 - c + 1 + s0 = nL - 1 - (c - 1 - s0) by omega]; exact ytu w u0 u1 u2 nD nL nT K Kt m Ks D L ts x h0 h1 h2 hD hL hT hm0 hK hKt hKs lD lL lT lx g τ dn hdn bdn tok Kz hKz bsh (c - 1 - s0) (by omega))) (loA 0 wA yat yas) (mS 1 10), mS 4 3⟩, ch3 wA (qO 6 28 rfl) (qO 7 29 rfl) (qO 8 30 rfl) (ybi _ _) (fun w u0 u1 u2 h0 h1 h2 => by obtain rfl : u1 = _ := h1.now; obtain rfl : u2 = _ := h2.now; exact zel w u0 nD nL K D L h0 hD hL hK lD lL (nL - 1 - c + 1 + s0) (nL - 1 - c) (dN D (nL - 1 - c + 1)) g.g (by omega) (by omega) hd1 hz1)⟩, cc2 wA (qO 5 27 rfl) (qO 9 31 rfl) (ybi _ _) (fun w u v h1 h2 => ysy (k := 4194304) (k' := 1048576) hdn hz1 (ze6 (ybq bsh _) hKz) (by omega) (ze6 (ybq (ykp dL _) _) hK) (by omega) (by omega) (by omega) w u v h1 h2)⟩, cc2 wA (qO 0 22 rfl) (qO 10 32 rfl) (ybi _ _) (fun w u v h1 h2 => Gives.cast (ψ := (QQ (plS (shL x (dn : Int) τ nL m) L nL (nL - 1 - c) c (s0 + 1)) (dn * dN D (nL - 1 - c + 1)))) (ysx (k := 8388608) (k' := 8388608) hM hM (bP s0) (by omega) (ze6 (yco (ybq bsh _) (ybq (ykp dL _) _)) (by omega)) (by omega) (ze5 _) (ze5 _) w u v h1 h2) (by rw [yzb hM, yy8 (by omega) (by omega)]))⟩, seA 2 wA (oO 11 33) yaj ybp ybp⟩
  intro B6 a6 W6 (S6 : Zt [_,_,_] [_,_,_,_])
  refine inBlkN (thenN ?_)
  refine wr [V (iV ((nL - 1 - c + 1 + s0 : Nat) : Int)), V (Is (.int .i64 ((nL - 1 - c + 1 + (s0 + 1) : Nat) : Int))), V (Is (.int .i64 ((nL - 1 - c + 1 + (s0 + 1) : Nat) : Int)))] ur3 [.inl 2, .inr 1, .inr 2, .inr 3] S6 ?_ ?_
  ·exact jj3 (mS 0 10) (yba wA (oO 0 20) (yab _)) (mO 1 21)
  intro B7 a7 _ (S7 : Zt [_,_,_] [_,_,_,_])
  refine thenN ?_
  exact ⟨s0 + 1, ⟨by omega, B7, S7.sub [0, 1, 2] [0, 1, 2, 3]⟩, by omega⟩
 ·have es : s0 = c := by omega
  rw [es, zb9] at S4
  refine wp_seq ?_
  refine wq [V (iV ((nL - 1 - c + 1 + c : Nat) : Int)), V (Part a4 4 1), V (Mv nL L K), V (iV (nL : Nat)), kF] ur3 (.inl 4 :: ur4) S4 ?_ ?_
  ·exact jj5 (mS 0 10) (ptA wA 0 yaz) (plA wA (oO 1 16) 0 rfl rfl (ploadS rfl ya1)) (lnA wA (oO 2 17) Tryz.underlying23) (ybl wA (oO 0 15) (oO 3 18))
  intro B5 a5 W5 (S5 : Zt [_,_,_] [_,_,_,_,_])
  refine wp_cond_false (S5.bool 0 19 rfl) (wp_exit (thenX (thenX (inBlkE (thenN ?_)))))
  refine wq [Fw (QQ (sumZ (fbL (shL x (dn : Int) τ nL m) L nL (nL - 1 - c) c)) (dn * dN D (nL - 1 - c + 1))) w, .put (.inl 8) (.box 31 ((QQ (sumZ (fbL (shL x (dn : Int) τ nL m) L nL (nL - 1 - c) c)) (dn * dN D (nL - 1 - c + 1))) w.heap.size))] ur3 [.inr 1, .inr 2, .inr 3, .inr 4] S5 ?_ ?_
  ·exact jj2 (loA 2 wA yaj ybp) (seA 1 wA (oO 0 34) yaj ybk ybp)
  intro B6 a6 W6 (S6 : Zt [_,_,_] [_,_,_,_])
  refine wp_ret ?_
  exact yav S6 rfl (yau S6 1 8 rfl yaj ybp)
theorem zcp (w : World) (u t v : Value) (nD nL nT K Kt m Ks : Nat) (D : List Int) (L : List (List Int)) (ts : List (Int × Int)) (x : List Int) (h : Hs w (SF [Vv nD D K, Mv nL L K]) u) (ht : Hs w (QV nT ts Kt) t) (hv : Hs w (Vv m x Ks) v) (hD : nD ≤ 1048576) (hL : nL ≤ 1048576) (hT : nT ≤ 1048576) (hm0 : m ≤ 1048577) (hK : K ≤ 1048576) (hKt : Kt ≤ 1048576) (hKs : Ks ≤ 4194304) (lD : D.length = nD) (lL : L.length = nL) (lT : ts.length = nT) (lx : x.length = m) (g : FGood D L ts [] m) (τ : List Int) (dn : Nat) (hdn : dn ≠ 0) (bdn : (digs dn).length ≤ 1048576) (tok : TauOk ts τ dn) (Kz : Nat) (hKz : Kz ≤ 4194304) (bsh : Dl (shL x (dn : Int) τ nL m) Kz) (bW : ∀ k, k < m → (digs (fW D (shL x (dn : Int) τ nL m) L nL k).natAbs).length ≤ 3145820) (bN : ∀ k, k ≤ m → (digs (fS D (shL x (dn : Int) τ nL m) L nL k).1.natAbs).length ≤ 8388608) (bq : ∀ k, k ≤ m → (digs (qF D (shL x (dn : Int) τ nL m) L nL dn k)).length ≤ 8388608) :
  CG 10 #[u, t, v] w (QQ ((fS D (shL x (dn : Int) τ nL m) L nL m).1) (qF D (shL x (dn : Int) τ nL m) L nL dn m)) := by
 have hgl := g.g.len
 have hgm := g.m
 have dD : Dl D K := by
  obtain ⟨cs, _, _, _, hp⟩ := h.now
  obtain ⟨v, _, hv⟩ := hp 0 _ rfl
  exact yhc hv
 have dL := ytq h.now
 refine yan (sl := [(0, (SF [(Vv nD D K), (Mv nL L K)])), (1, (QV nT ts Kt)), (2, (Vv m x Ks))]) Tryz.func10 rfl Tryz.ntmps10 (by simp) (yad rfl (h) (yad rfl (ht) (yad rfl (hv) yar))) ?_
 intro a0 S0
 refine wq [.new (.box 25 (SF [(Vv nD D K), (Mv nL L K)])), .new (.box 31 zR)] [.inl 0, .inl 1] [.inr 1, .inr 2] S0 ?_ ?_
 ·exact jj2 (bxA wA (oS 0 0) (ybw yas)) (nwA wA ya5)
 intro _ a1 _ (S1 : Zt [_,_] [_,_])
 refine wq [Fw (ZN (0)) w, Fw (QQ ((fS D (shL x (dn : Int) τ nL m) L nL 0).1) (qF D (shL x (dn : Int) τ nL m) L nL dn 0)) w, .new (.box 31 zR), .put (.inr 2) (.box 31 ((QQ ((fS D (shL x (dn : Int) τ nL m) L nL 0).1) (qF D (shL x (dn : Int) τ nL m) L nL dn 0)) w.heap.size))] [.inr 0, .inr 1, .inl 2] ur2 S1 ?_ ?_
 ·exact jj4 (cc1 wA (yab _) (yai _) (yki (0) (by omega) (by omega))) (cc1 wA (qO 0 11 rfl) (ybi _ _) (fun w u0 h0 => Gives.cast ((fun w u h => yry (A := 0) (k := 1) (by omega) w u (ya4 (by decide) _ _ h)) w u0 h0) (by exact ykz (ynw (sh := shL x (dn : Int) τ nL m) (k := 0) (n := nL) g.g (by omega) hdn (by omega)).1))) (nwA wA ya5) (puA 2 wA (oO 1 12) yaj ybk ybp)
 intro _ a2 _ (S2 : Zt [_,_,_] [_,_])
 refine wq [V (Part a2 3 1), V (Mv nL L K), V (iV (nL : Nat)), V (iV (nL : Nat))] ur3 (.inl 3 :: ur2) S2 ?_ ?_
 ·exact jj4 (ptA wA 0 yaz) (plA wA (oO 0 13) 0 rfl rfl (ploadS rfl ya1)) (lnA wA (oO 1 14) Tryz.underlying23) (mO 2 15)
 intro _ a3 _ (S3 : Zt [_,_,_] [_,_,_])
 refine wp_seq ?_
 refine wq [V (iV (nL : Nat)), V (Is (.int .i64 (((nL : Nat) : Int) - 1 - ((0 : Nat) : Int)))), V (Is (.int .i64 (((nL : Nat) : Int) - 1 - ((0 : Nat) : Int))))] ur3 (.inl 2 :: ur3) S3 ?_ ?_
 ·exact jj3 (mS 0 8) (yct wA (oO 0 16) (yab _)) (mO 1 17)
 intro B4 a4 _ (S4 : Zt [_,_,_] [_,_,_,_])
 refine wp_block ?_
 refine ya8 (fun (k0 : Nat) a W => (k0 ≤ m) ∧ ∃ Bq, Sta w 47 [(3, (.box 25 (SF [(Vv nD D K), (Mv nL L K)]))), (6, (.box 31 zR)), (7, (.box 31 ((QQ ((fS D (shL x (dn : Int) τ nL m) L nL k0).1) (qF D (shL x (dn : Int) τ nL m) L nL dn k0)) w.heap.size)))] [(9, Is (.int .i64 (((nL : Nat) : Int) - 1 - ((k0 : Nat) : Int)))), (8, iV (nL : Nat)), (1, (QV nT ts Kt)), (2, Vv m x Ks)] Bq a W) (fun (k0 : Nat) => m - k0) ?_ 0 ⟨zfq _, B4, S4.sub [0, 1, 2] [0, 1, 2, 3]⟩
 rintro k0 a5 _ ⟨hcond, _, S5⟩
 by_cases hlt : k0 < m
 ·rw [show ((nL : Nat) : Int) - 1 - ((k0 : Nat) : Int) = ((nL - 1 - k0 : Nat) : Int) by omega] at S5
  obtain ⟨hd0, hz0⟩ := ynj g.g (i := nL - 1 - k0) (by omega)
  obtain ⟨hd1, hz1⟩ := ynj g.g (i := nL - 1 - k0 + 1) (by omega)
  have bd0 : (digs (dN D (nL - 1 - k0))).length ≤ K := by have q := ybq dD (nL - 1 - k0); rw [hd0, zfn] at q; exact q
  have bd1 : (digs (dN D (nL - 1 - k0 + 1))).length ≤ K := by have q := ybq dD (nL - 1 - k0 + 1); rw [hd1, zfn] at q; exact q
  have hM : dn * dN D (nL - 1 - k0 + 1) ≠ 0 := zfu hdn hz1
  have bM : (digs (dn * dN D (nL - 1 - k0 + 1))).length ≤ 2097152 := ze6 (yam bdn bd1) (by omega)
  have bw := bW k0 (by omega)
  obtain ⟨hq0, _⟩ := ynw (sh := shL x (dn : Int) τ nL m) g.g (k := k0) (n := nL) (by omega) hdn (by omega)
  have bww : (digs (fW D (shL x (dn : Int) τ nL m) L nL k0 * fW D (shL x (dn : Int) τ nL m) L nL k0).natAbs).length ≤ 6291640 := ze6 (yco bw bw) (by omega)
  have bMM : (digs (dn * dN D (nL - 1 - k0 + 1) * (dn * dN D (nL - 1 - k0 + 1)))).length ≤ 4194304 := ze6 (yam bM bM) (by omega)
  have bFm : (digs (sumZ (fbL (shL x (dn : Int) τ nL m) L nL (nL - 1 - k0) k0)).natAbs).length ≤ 8388608 := by have q := yh3 (yl1 bsh dL nL (nL - 1 - k0) k0) k0; rw [ze9 (by rw [yei]; omega)] at q; omega
  refine wp_seq ?_
  refine wq [V (iV ((nL - 1 - k0 : Nat) : Int)), V (iV (nL : Nat)), V (Vv m x Ks), V (iV (m : Nat)), V (iV ((nL - m : Nat) : Int)), kT] ur3 (.inl 5 :: ur4) S5 ?_ ?_
  ·exact jj6 (mS 0 9) (mS 1 8) (mS 3 2) (lnA wA (oO 2 20) Tryz.underlying22) (yct wA (oO 1 19) (oO 3 21)) (yne wA (oO 0 18) (oO 4 22))
  intro B6 a6 W6 (S6 : Zt [_,_,_] [_,_,_,_,_])
  refine wp_cond_true (S6.bool 0 23 rfl) (wp_skip (thenN (wp_seq (wp_block ?_))))
  refine wq [V (SF [(Vv nD D K), (Mv nL L K)]), V (QV nT ts Kt), V (Vv m x Ks), V (iV ((nL - 1 - k0 : Nat) : Int)), Fw (QQ ((shL x (dn : Int) τ nL m).getD k0 0) dn) w, V (SF [(Vv nD D K), (Mv nL L K)]), V (QV nT ts Kt), V (Vv m x Ks), V (iV ((nL - 1 - k0 : Nat) : Int)), Fw (QQ (sumZ (fbL (shL x (dn : Int) τ nL m) L nL (nL - 1 - k0) k0)) (dn * dN D (nL - 1 - k0 + 1))) w, Fw (QQ (fW D (shL x (dn : Int) τ nL m) L nL k0) (dn * dN D (nL - 1 - k0 + 1))) w, .new (.box 31 zR), .put (.inr 11) (.box 31 ((QQ (fW D (shL x (dn : Int) τ nL m) L nL k0) (dn * dN D (nL - 1 - k0 + 1))) w.heap.size))] [.inr 0, .inr 1, .inr 2, .inl 11] [.inr 1, .inr 2, .inr 3, .inr 4] S6 ?_ ?_
  ·exact ⟨⟨⟨⟨⟨jj8 (loA 0 wA yat yas) (mS 3 1) (mS 4 2) (mS 1 9) (ybj rfl wA rfl (oO 0 26) (oO 1 27) (oO 2 28) (oO 3 29) (ybi _ _) rfl (fun args w => by go_simp) (fun w u0 u1 u2 u3 h0 h1 h2 h3 => by obtain rfl : u3 = _ := h3.now; exact ytu w u0 u1 u2 nD nL nT K Kt m Ks D L ts x h0 h1 h2 hD hL hT hm0 hK hKt hKs lD lL lT lx g τ dn hdn bdn tok Kz hKz bsh k0 (by omega))) (loA 0 wA yat yas) (mS 3 1) (mS 4 2), mS 1 9⟩, ybj rfl wA rfl (oO 5 31) (oO 6 32) (oO 7 33) (oO 8 34) (ybi _ _) rfl (fun args w => by go_simp) (fun w u0 u1 u2 u3 h0 h1 h2 h3 => by obtain rfl : u3 = _ := h3.now; exact zce w u0 u1 u2 nD nL nT K Kt m Ks D L ts x h0 h1 h2 hD hL hT hm0 hK hKt hKs lD lL lT lx g τ dn hdn bdn tok Kz hKz bsh k0 (by omega) (by omega))⟩, cc2 wA (qO 4 30 rfl) (qO 9 35 rfl) (ybi _ _) (fun w u v h1 h2 => Gives.cast (ψ := (QQ (fW D (shL x (dn : Int) τ nL m) L nL k0) (dn * dN D (nL - 1 - k0 + 1)))) (ysx (k := 8388608) (k' := 8388608) hdn hM (ze6 (ybq bsh _) (by omega)) (by omega) bFm (by omega) (ze5 _) (ze5 _) w u v h1 h2) (zex hdn hz1 hd1))⟩, nwA wA ya5⟩, puA 11 wA (oO 10 36) yaj ybk ybp⟩
  intro B7 a7 W7 (S7 : Zt [_,_,_,_] [_,_,_,_])
  refine wr [Fw (QQ ((fS D (shL x (dn : Int) τ nL m) L nL k0).1) (qF D (shL x (dn : Int) τ nL m) L nL dn k0)) w, Fw (QQ (fW D (shL x (dn : Int) τ nL m) L nL k0) (dn * dN D (nL - 1 - k0 + 1))) w, Fw (QQ (fW D (shL x (dn : Int) τ nL m) L nL k0) (dn * dN D (nL - 1 - k0 + 1))) w, Fw (QQ (fW D (shL x (dn : Int) τ nL m) L nL k0 * fW D (shL x (dn : Int) τ nL m) L nL k0) (dn * dN D (nL - 1 - k0 + 1) * (dn * dN D (nL - 1 - k0 + 1)))) w, V (SF [(Vv nD D K), (Mv nL L K)]), V (iV ((nL - 1 - k0 : Nat) : Int)), Fw (QQ (D.getD (nL - 1 - k0 + 1) 0) (dN D (nL - 1 - k0))) w, Fw (QQ (fW D (shL x (dn : Int) τ nL m) L nL k0 * fW D (shL x (dn : Int) τ nL m) L nL k0 * D.getD (nL - 1 - k0 + 1) 0) (dn * dN D (nL - 1 - k0 + 1) * (dn * dN D (nL - 1 - k0 + 1)) * dN D (nL - 1 - k0))) w, Fw (QQ ((fS D (shL x (dn : Int) τ nL m) L nL (k0 + 1)).1) (qF D (shL x (dn : Int) τ nL m) L nL dn (k0 + 1))) w, .put (.inl 7) (.box 31 ((QQ ((fS D (shL x (dn : Int) τ nL m) L nL (k0 + 1)).1) (qF D (shL x (dn : Int) τ nL m) L nL dn (k0 + 1))) w.heap.size))] ur3 ur4 S7 ?_ ?_
  ·exact ⟨⟨jj8 (loA 2 wA yaj ybp) (loA 3 wA yaj ybp) (loA 3 wA yaj ybp) (cc2 wA (qO 1 38 rfl) (qO 2 39 rfl) (ybi _ _) (fun w u v h1 h2 => ysy (k := 8388608) (k' := 8388608) hM hM (by omega) (by omega) (by omega) (by omega) (ze5 _) (ze5 _) w u v h1 h2)) (loA 0 wA yat yas) (mS 0 9) (ch2 wA (qO 4 41 rfl) (qO 5 42 rfl) (ybi _ _) (fun w u0 u1 h0 h1 => by obtain rfl : u1 = _ := h1.now; exact yzn w u0 nD nL K D L h0 hD hL hK lD lL (nL - 1 - k0) (dN D (nL - 1 - k0)) g.g (by omega) hd0 hz0)) (cc2 wA (qO 3 40 rfl) (qO 6 43 rfl) (ybi _ _) (fun w u v h1 h2 => ysy (k := 8388608) (k' := 8388608) (zfu hM hM) hz0 (by omega) (by omega) (ze6 (ybq dD _) (by omega)) (by omega) (ze5 _) (ze5 _) w u v h1 h2)), cc2 wA (qO 0 37 rfl) (qO 7 44 rfl) (ybi _ _) (fun w u v h1 h2 => Gives.cast (ψ := (QQ ((fS D (shL x (dn : Int) τ nL m) L nL (k0 + 1)).1) (qF D (shL x (dn : Int) τ nL m) L nL dn (k0 + 1)))) (ysx (k := 8388608) (k' := 8388608) hq0 (zfu (zfu hM hM) hz0) (bN k0 (by omega)) (bq k0 (by omega)) (ze6 (yco bww (ybq dD _)) (by omega)) (ze6 (yam bMM bd0) (by omega)) (ze5 _) (ze5 _) w u v h1 h2) (ysk g.g (by omega) hdn (by omega)))⟩, seA 2 wA (oO 8 45) yaj ybp ybp⟩
  intro _ a8 _ (S8 : Zt [_,_,_] [_,_,_,_])
  refine inBlkN (thenN ?_)
  refine wr [V (iV ((nL - 1 - k0 : Nat) : Int)), V (Is (.int .i64 (((nL : Nat) : Int) - 1 - ((k0 + 1 : Nat) : Int)))), V (Is (.int .i64 (((nL : Nat) : Int) - 1 - ((k0 + 1 : Nat) : Int))))] ur3 [.inl 2, .inr 1, .inr 2, .inr 3] S8 ?_ ?_
  ·exact jj3 (mS 0 9) (yct wA (oO 0 24) (yab _)) (mO 1 25)
  intro B9 a9 _ (S9 : Zt [_,_,_] [_,_,_,_])
  refine thenN ?_
  exact ⟨k0 + 1, ⟨by omega, B9, S9.sub [0, 1, 2] [0, 1, 2, 3]⟩, by omega⟩
 ·have ek : k0 = m := by omega
  rw [ek] at S5
  refine wp_seq ?_
  refine wq [V (Is (.int .i64 (((nL : Nat) : Int) - 1 - ((m : Nat) : Int)))), V (iV (nL : Nat)), V (Vv m x Ks), V (iV (m : Nat)), V (iV ((nL - m : Nat) : Int)), kF] ur3 (.inl 5 :: ur4) S5 ?_ ?_
  ·exact jj6 (mS 0 9) (mS 1 8) (mS 3 2) (lnA wA (oO 2 20) Tryz.underlying22) (yct wA (oO 1 19) (oO 3 21)) (yh7 wA (oO 0 18) (oO 4 22))
  intro B6 a6 W6 (S6 : Zt [_,_,_] [_,_,_,_,_])
  refine wp_cond_false (S6.bool 0 23 rfl) (wp_exit (thenX (thenX (inBlkE (thenN ?_)))))
  refine wq [Fw (QQ ((fS D (shL x (dn : Int) τ nL m) L nL m).1) (qF D (shL x (dn : Int) τ nL m) L nL dn m)) w, .put (.inl 6) (.box 31 ((QQ ((fS D (shL x (dn : Int) τ nL m) L nL m).1) (qF D (shL x (dn : Int) τ nL m) L nL dn m)) w.heap.size))] ur3 [.inr 1, .inr 2, .inr 3, .inr 4] S6 ?_ ?_
  ·exact jj2 (loA 2 wA yaj ybp) (seA 1 wA (oO 0 46) yaj ybk ybp)
  intro B7 a7 W7 (S7 : Zt [_,_,_] [_,_,_,_])
  refine wp_ret ?_
  exact yav S7 rfl (yau S7 1 6 rfl yaj ybp)
abbrev yjs (w : World) (nL : Nat) (m : Nat) (D : List Int) (L : List (List Int)) (x : List Int) (τ : List Int) (dn : Nat) : Pr := (QQ (τ.getD (nL - 1 - m) 0 * D.getD (nL - 1 - m + 1) 0 - fB (shL x (dn : Int) τ nL m) L nL m) (dn * dN D (nL - 1 - m + 1))) w.heap.size
theorem yzf (w : World) (u t v : Value) (nD nL nT K Kt m Ks : Nat) (D : List Int) (L : List (List Int)) (ts : List (Int × Int)) (x : List Int) (h : Hs w (SF [Vv nD D K, Mv nL L K]) u) (ht : Hs w (QV nT ts Kt) t) (hv : Hs w (Vv m x Ks) v) (hD : nD ≤ 1048576) (hL : nL ≤ 1048576) (hT : nT ≤ 1048576) (hm0 : m ≤ 1048577) (hK : K ≤ 1048576) (hKt : Kt ≤ 1048576) (hKs : Ks ≤ 4194304) (lD : D.length = nD) (lL : L.length = nL) (lT : ts.length = nT) (lx : x.length = m) (g : FGood D L ts [] m) (τ : List Int) (dn : Nat) (hdn : dn ≠ 0) (bdn : (digs dn).length ≤ 1048576) (tok : TauOk ts τ dn) (Kz : Nat) (hKz : Kz ≤ 4194304) (bsh : Dl (shL x (dn : Int) τ nL m) Kz) (hml : m < nL) :
  CG 12 #[u, t, v] w (QQ (τ.getD (nL - 1 - m) 0 * D.getD (nL - 1 - m + 1) 0 - fB (shL x (dn : Int) τ nL m) L nL m) (dn * dN D (nL - 1 - m + 1))) := by
 have hgl := g.g.len
 have hgm := g.m
 have dD : Dl D K := by
  obtain ⟨cs, _, _, _, hp⟩ := h.now
  obtain ⟨v, _, hv⟩ := hp 0 _ rfl
  exact yhc hv
 have dL := ytq h.now
 obtain ⟨hd1, hz1⟩ := ynj g.g (i := nL - 1 - m + 1) (by omega)
 have bd1 : (digs (dN D (nL - 1 - m + 1))).length ≤ K := by have q := ybq dD (nL - 1 - m + 1); rw [hd1, zfn] at q; exact q
 have hM : dn * dN D (nL - 1 - m + 1) ≠ 0 := zfu hdn hz1
 have bM : (digs (dn * dN D (nL - 1 - m + 1))).length ≤ 2097152 := ze6 (yam bdn bd1) (by omega)
 have bFm : (digs (fB (shL x (dn : Int) τ nL m) L nL m).natAbs).length ≤ 8388607 := ze6 (yx5 bsh dL) (by omega)
 have bF2 : (digs (-(fB (shL x (dn : Int) τ nL m) L nL m)).natAbs).length ≤ 8388608 := by rw [Int.natAbs_neg]; omega
 have eF : sumZ (fbL (shL x (dn : Int) τ nL m) L nL (nL - 1 - m) m) = fB (shL x (dn : Int) τ nL m) L nL m := by rw [fB, if_neg (by omega)]
 refine yan (sl := [(0, (SF [(Vv nD D K), (Mv nL L K)])), (1, (QV nT ts Kt)), (2, (Vv m x Ks))]) Tryz.func12 rfl Tryz.ntmps12 (by simp) (yad rfl (h) (yad rfl (ht) (yad rfl (hv) yar))) ?_
 intro a0 S0
 refine wq [.new (.box 25 (SF [(Vv nD D K), (Mv nL L K)])), .new (.box 31 zR)] [.inl 0, .inl 1] [.inr 1, .inr 2] S0 ?_ ?_
 ·exact jj2 (bxA wA (oS 0 0) (ybw yas)) (nwA wA ya5)
 intro _ a1 _ (S1 : Zt [_,_] [_,_])
 refine wq [V (Part a1 3 1), V (Mv nL L K), V (iV (nL : Nat)), V (iV ((nL - 1 : Nat) : Int)), V (Vv m x Ks), V (iV (m : Nat)), V (iV ((nL - 1 - m : Nat) : Int)), V (iV ((nL - 1 - m : Nat) : Int))] ur2 (.inl 7 :: ur2) S1 ?_ ?_
 ·repeat' refine And.intro ?_ ?_
  ·trivial
  ·exact ptA wA 0 yaz
  ·exact plA wA (oO 0 9) 0 rfl rfl (ploadS rfl ya1)
  ·exact lnA wA (oO 1 10) Tryz.underlying23
  ·exact yct wA (oO 2 11) (yab _)
  ·exact mS 1 2
  ·exact lnA wA (oO 4 13) Tryz.underlying22
  ·exact yct wA (oO 3 12) (oO 5 14)
  ·exact mO 6 15
 intro _ a2 _ (S2 : Zt [_,_] [_,_,_])
 refine wq [V (SF [(Vv nD D K), (Mv nL L K)]), V (QV nT ts Kt), V (Vv m x Ks), V (iV ((nL - 1 - m : Nat) : Int)), Fw (QQ (fB (shL x (dn : Int) τ nL m) L nL m) (dn * dN D (nL - 1 - m + 1))) w, Fw (QQ (-(fB (shL x (dn : Int) τ nL m) L nL m)) (dn * dN D (nL - 1 - m + 1))) w, .new (.box 31 zR), .put (.inr 6) (.box 31 ((QQ (-(fB (shL x (dn : Int) τ nL m) L nL m)) (dn * dN D (nL - 1 - m + 1))) w.heap.size))] [.inr 0, .inr 1, .inl 6] ur2 S2 ?_ ?_
 ·repeat' refine And.intro ?_ ?_
  ·trivial
  ·exact loA 0 wA yat yas
  ·exact mS 1 1
  ·exact mS 2 2
  ·exact mS 0 7
  ·exact ybj rfl wA rfl (oO 0 16) (oO 1 17) (oO 2 18) (oO 3 19) (ybi _ _) rfl (fun args w => by go_simp) (fun w u0 u1 u2 u3 h0 h1 h2 h3 => by obtain rfl : u3 = _ := h3.now; exact Gives.cast (zce w u0 u1 u2 nD nL nT K Kt m Ks D L ts x h0 h1 h2 hD hL hT hm0 hK hKt hKs lD lL lT lx g τ dn hdn bdn tok Kz hKz bsh m (by omega) (by omega)) (by rw [eF]))
  ·exact cc1 wA (qO 4 20 rfl) (ybi _ _) (fun w u h1 => zcg (k := 8388608) hM (by omega) (by omega) (ze5 _) w u _ h1)
  ·exact nwA wA ya5
  ·exact puA 6 wA (oO 5 21) yaj ybk ybp
 intro _ a3 _ (S3 : Sta w 32 [(3, (.box 25 (SF [(Vv nD D K), (Mv nL L K)]))), (6, (.box 31 zR)), (8, (.box 31 ((QQ (-(fB (shL x (dn : Int) τ nL m) L nL m)) (dn * dN D (nL - 1 - m + 1))) w.heap.size)))] [(7, iV ((nL - 1 - m : Nat) : Int)), (1, (QV nT ts Kt))] _ _ _)
 by_cases h0 : nT = 0
 ·skip
  rw [show -(fB (shL x (dn : Int) τ nL m) L nL m) = τ.getD (nL - 1 - m) 0 * D.getD (nL - 1 - m + 1) 0 - fB (shL x (dn : Int) τ nL m) L nL m from by rw [tok.1 (by omega), Int.zero_mul]; omega] at S3
  refine wp_seq ?_
  refine wq [V (QV nT ts Kt), V (iV (nT : Nat)), kF] ur3 (.inl 2 :: ur2) S3 ?_ ?_
  ·exact jj3 (mS 1 1) (lnA wA (oO 0 22) Tryz.underlying26) (ycr wA (oO 1 23) (yab _))
  intro B4 a4 W4 (S4 : Zt [_,_,_] [_,_,_])
  refine wp_cond_false (S4.bool 0 24 rfl) (wp_skip (thenN ?_))
  refine wq [V (yjs w nL m D L x τ dn), .put (.inl 6) (.box 31 (yjs w nL m D L x τ dn))] ur2 [] S4 ?_ ?_
  ·exact jj2 (loA 2 wA yaj ybp) (seA 1 wA (oO 0 31) yaj ybk ybp)
  intro B5 a5 W5 (S5 : Zt [_,_] [])
  refine wp_ret ?_
  exact yav S5 rfl (yau S5 1 6 rfl yaj ybp)
 ·skip
  have hlen := g.len
  have hd := g.t (nL - 1 - m) (by omega)
  have hdz : (ts.getD (nL - 1 - m) (0, 0)).2.toNat ≠ 0 := by omega
  have hTk := tok.2 (nL - 1 - m) (by omega)
  rw [show (ts.getD (nL - 1 - m) (0, 0)).2 = (((ts.getD (nL - 1 - m) (0, 0)).2.toNat : Nat) : Int) by omega] at hTk
  refine wp_seq ?_
  refine wq [V (QV nT ts Kt), V (iV (nT : Nat)), kT] ur3 (.inl 2 :: ur2) S3 ?_ ?_
  ·exact jj3 (mS 1 1) (lnA wA (oO 0 22) Tryz.underlying26) (ycy wA (oO 1 23) (yab _))
  intro B4 a4 W4 (S4 : Zt [_,_,_] [_,_,_])
  refine wp_cond_true (S4.bool 0 24 rfl) ?_
  refine wr [Fw (QQ (-(fB (shL x (dn : Int) τ nL m) L nL m)) (dn * dN D (nL - 1 - m + 1))) w, V (QV nT ts Kt), V (iV ((nL - 1 - m : Nat) : Int)), V (AtE 4 (PR (Zv ((ts.getD ((nL - 1 - m)) (0, 0)).1) Kt) (Zv ((ts.getD ((nL - 1 - m)) (0, 0)).2) Kt))), V (PR (Zv ((ts.getD ((nL - 1 - m)) (0, 0)).1) Kt) (Zv ((ts.getD ((nL - 1 - m)) (0, 0)).2) Kt)), V (yjs w nL m D L x τ dn), .put (.inl 8) (.box 31 (yjs w nL m D L x τ dn))] ur3 [] S4 ?_ ?_
  ·repeat' refine And.intro ?_ ?_
   ·trivial
   ·exact loA 2 wA yaj ybp
   ·exact mS 2 1
   ·exact mS 1 7
   ·exact axA wA yc8 (oO 1 26) (oO 2 27) (yht (by omega)) rfl
   ·exact alC wA ydi (ya2 yak yak) (oO 3 28)
   ·exact cc2 wA (qO 0 25 rfl) (qO 4 29 rfl) (ybi _ _) (fun w u v h1 h2 => Gives.cast (ψ := (QQ (τ.getD (nL - 1 - m) 0 * D.getD (nL - 1 - m + 1) 0 - fB (shL x (dn : Int) τ nL m) L nL m) (dn * dN D (nL - 1 - m + 1)))) (yzc (k := 8388608) (k' := Kt) hM hdz (ze5 _) (by omega) w u v (zcj hM bF2 (by omega) _ _ h1) (ywz hd _ _ h2)) (yxu hdn hz1 hdz hd1 hTk))
   ·exact seA 2 wA (oO 5 30) yaj ybp ybp
  intro B5 a5 W5 (S5 : Zt [_,_,_] [])
  refine thenN ?_
  refine wq [V (yjs w nL m D L x τ dn), .put (.inl 6) (.box 31 (yjs w nL m D L x τ dn))] ur2 [] S5 ?_ ?_
  ·exact jj2 (loA 2 wA yaj ybp) (seA 1 wA (oO 0 31) yaj ybk ybp)
  intro _ a6 _ (S6 : Zt [_,_] [])
  refine wp_ret ?_
  exact yav S6 rfl (yau S6 1 6 rfl yaj ybp)
end Go.Proofs.YtbkobojhkhiohaaGreat
