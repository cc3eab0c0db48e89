import Derived.Test.YtdnindaohpdblaaGreatRsK
set_option linter.all false
namespace Go.Proofs.YtdnindaohpdblaaGreat
open Go Go.RowKit Nt
set_option maxRecDepth 20000
set_option maxHeartbeats 16000000
theorem yyw {x : Int} (h : 0 ≤ x) : 0 ≤ x.sign := by
 rcases Int.lt_or_eq_of_le h with h | h
 ·rw [zd9 h]; decide
 ·rw [← h]; decide
theorem yyx {x : Int} (h : 0 < x) : 0 < x.sign := by rw [zd9 h]; decide
theorem yso {x : Int} (h : x < 0) : x.sign < 0 := by rw [zd8 h]; decide
theorem yyn (w : World) (A : Int) (D k1 k2 : Nat) (u : Value) (h : Rv A (D : Int) k1 k2 u w) (hk1 : k1 ≤ 8388608) (hk2 : k2 ≤ 8388608) (hD : D ≠ 0) (hs : A.sign < 0) :
  CG 21 #[u] w (RN (nR (-A) D) (dR (-A) D)) := by
 refine yap (sl := [(0, (PR (Zv A k1) (Zv ((D : Int)) k2)))]) Tryz.func21 rfl Tryz.ntmps21 (by simp) (yai rfl (yoy h) yat) ?_
 intro a0 S0
 refine wq [.new (.box 26 (PR (Zv A k1) (Zv ((D : Int)) k2))), .new (.box 26 zR)] [.inl 0, .inl 1] [] S0 ?_ ?_
 ·exact jj2 (bxA wA (oS 0 0) (ydg (yay yaj yaj))) (nwA wA yb4)
 intro _ a1 _ (S1 : Zt [_,_] [])
 refine wp_seq ?_
 refine wq [V (Part a1 1 0), V (Zv A k1), V (iV ((A).sign)), kT] ur2 [.inl 3] S1 ?_ ?_
 ·exact jj4 (ptZ wA 0 ycx) (plA wA (oO 0 3) 0 rfl rfl yde) (cc1 wA (qO 1 4 rfl) (yah _) (fun w u h1 => ym0 (by omega) w u ((fun _ _ h => h) _ _ h1))) (ybu wA (oO 2 5) (yac _) (h := hs))
 intro _ a2 _ (S2 : Zt [_,_] [_])
 refine wp_cond_true (S2.bool 0 6 rfl) ?_
 refine wq [V (PR (Zv A k1) (Zv ((D : Int)) k2)), Fw (RN (nR (-A) D) (dR (-A) D)) w, .put (.inl 2) (.box 26 ((RN (nR (-A) D) (dR (-A) D)) w.heap.size))] ur2 [.inr 0] S2 ?_ ?_
 ·exact jj3 (loA 0 wA yas (yay yaj yaj)) (cc1 wA (qO 0 7 rfl) (ybx _ _) (fun w u h1 => yxq (by assumption) (by omega) (by omega) w u ((yl2 (fun _ _ h => h) (fun _ _ h => h)) _ _ h1))) (seA 1 wA (oO 1 8) yas yd7 (yay yae yae))
 intro _ a3 _ (S3 : Zt [_,_] [_])
 refine wp_ret (thenR ?_)
 exact ya3 S3 rfl (ya2 S3 1 2 rfl yas (yay yae yae))
theorem yyo (w : World) (A : Int) (D k1 k2 : Nat) (u : Value) (h : Rv A (D : Int) k1 k2 u w) (hk1 : k1 ≤ 8388608) (hk2 : k2 ≤ 8388608) (hD : D ≠ 0) (hs : 0 ≤ A.sign) :
  CG 21 #[u] w (RN (nR A D) (dR A D)) := by
 refine yap (sl := [(0, (PR (Zv A k1) (Zv ((D : Int)) k2)))]) Tryz.func21 rfl Tryz.ntmps21 (by simp) (yai rfl (yoy h) yat) ?_
 intro a0 S0
 refine wq [.new (.box 26 (PR (Zv A k1) (Zv ((D : Int)) k2))), .new (.box 26 zR)] [.inl 0, .inl 1] [] S0 ?_ ?_
 ·exact jj2 (bxA wA (oS 0 0) (ydg (yay yaj yaj))) (nwA wA yb4)
 intro _ a1 _ (S1 : Zt [_,_] [])
 refine wp_seq ?_
 refine wq [V (Part a1 1 0), V (Zv A k1), V (iV ((A).sign)), kF] ur2 [.inl 3] S1 ?_ ?_
 ·exact jj4 (ptZ wA 0 ycx) (plA wA (oO 0 3) 0 rfl rfl yde) (cc1 wA (qO 1 4 rfl) (yah _) (fun w u h1 => ym0 (by omega) w u ((fun _ _ h => h) _ _ h1))) (ya8 wA (oO 2 5) (yac _) (h := hs))
 intro _ a2 _ (S2 : Zt [_,_] [_])
 refine wp_cond_false (S2.bool 0 6 rfl) (wp_skip (thenN ?_))
 refine wq [V (Part a2 1 0), V (Zv A k1), V (Part a2 1 2), V (Zv ((D : Int)) k2), Fw (RN (nR A D) (dR A D)) w, .put (.inl 2) (.box 26 ((RN (nR A D) (dR A D)) w.heap.size))] ur2 [.inr 0] S2 ?_ ?_
 ·exact jj6 (ptZ wA 0 ycx) (plA wA (oO 0 9) 0 rfl rfl yde) (ptA wA 0 yco) (plA wA (oO 2 11) 0 rfl rfl ycp) (cc2 wA (qO 1 10 rfl) (qO 3 12 rfl) (ybx _ _) (fun w u v h1 h2 => yxp (by assumption) (by omega) (by omega) w u v ((fun _ _ h => h) _ _ h1) ((fun _ _ h => h) _ _ h2))) (seA 1 wA (oO 4 13) yas yd7 (yay yae yae))
 intro _ a3 _ (S3 : Zt [_,_] [_])
 refine wp_ret ?_
 exact ya3 S3 rfl (ya2 S3 1 2 rfl yas (yay yae yae))
theorem yjz {P : Int} {Y k1 k2 : Nat} {A : Int} {D : Nat} (hY : Y ≠ 0) (e1 : nR P Y = A) (e2 : dR P Y = D) (hk1 : k1 ≤ 8388608) (hk2 : k2 ≤ 8388608) : ∀ w u, Rv A (D : Int) k1 k2 u w → CG 21 #[u] w (RN ((A.natAbs : Nat) : Int) D) := fun w u h => by
 have hD : D ≠ 0 := e2 ▸ ygm hY
 have t := yrh (P := P) hY
 rw [e1, e2] at t
 by_cases hs : A < 0
 ·refine Gives.cast (yyn w A D k1 k2 u h hk1 hk2 hD (yso hs)) ?_
  rw [zap, yzx, t.1, t.2, show ((A.natAbs : Nat) : Int) = -A from by omega]
 ·refine Gives.cast (yyo w A D k1 k2 u h hk1 hk2 hD (yyw (by omega))) ?_
  rw [t.1, t.2, show ((A.natAbs : Nat) : Int) = A from by omega]
end Go.Proofs.YtdnindaohpdblaaGreat
