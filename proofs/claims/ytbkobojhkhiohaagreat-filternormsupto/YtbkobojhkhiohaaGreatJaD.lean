import Derived.Test.YtbkobojhkhiohaaGreatAmE
set_option linter.all false
namespace Go.Proofs.YtbkobojhkhiohaaGreat
open Go Go.RowKit Nt
set_option maxRecDepth 20000
set_option maxHeartbeats 16000000
section
variable {ops : Array Oper} {l : List Kd} {bx : Bxs} {sl : List (Tmp × Pr)} {i : Nat} {o : Oper} {Q : Exit → Act → World → Prop} {a0 : Act} {n : Nat} {w0 : World}
end
theorem zdy (w : World) (u t v : Value) (nD nL nT K Kt m Ks : Nat) (D : List Int) (L : List (List Int)) (ts : List (Int × Int)) (x : List Int) (h : Hs w (SF [Vv nD D K, Mv nL L K]) u) (ht : Hs w (QV nT ts Kt) t) (hv : Hs w (Vv m x Ks) v) (hD : nD ≤ 1048576) (hL : nL ≤ 1048576) (hT : nT ≤ 1048576) (hm0 : m ≤ 1048576) (hK : K ≤ 1048576) (hKt : Kt ≤ 1048576) (hKs : Ks ≤ 1048576) (lD : D.length = nD) (lL : L.length = nL) (lT : ts.length = nT) (lx : x.length = m) (e0 : Int) (he : e0 ≠ 0) (g : FRef D L ts [] m e0) :
  CG 11 #[u, t, v] w (TWO (IS (.agg #[.bool false, .slice none 0 0, .bool false, .slice none 0 0])) (IS (.int .i64 e0))) := by
 refine yan (sl := [(0, (SF [(Vv nD D K), (Mv nL L K)])), (1, (QV nT ts Kt)), (2, (Vv m x Ks))]) Tryz.func11 rfl Tryz.ntmps11 (by simp) (yad rfl (h) (yad rfl (ht) (yad rfl (hv) yar))) ?_
 intro a0 S0
 refine wq [.new (.box 25 (SF [(Vv nD D K), (Mv nL L K)])), .new (.box 31 zR), V (iV 0)] [.inl 0, .inl 1] [.inr 1, .inr 2] S0 ?_ ?_
 ·exact jj3 (bxA wA (oS 0 0) (ybw yas)) (nwA wA ya5) mC
 intro _ a1 _ (S1 : Zt [_,_] [_,_])
 refine wp_seq ?_
 refine wq [V (SF [(Vv nD D K), (Mv nL L K)]), V (QV nT ts Kt), V (Vv m x Ks), V (iV e0), V (iV e0)] ur2 (.inl 4 :: ur2) S1 ?_ ?_
 ·exact jj5 (loA 0 wA yat yas) (mS 0 1) (mS 1 2) (ybj rfl wA rfl (oO 0 10) (oO 1 11) (oO 2 12) ((yab _).imp ymc) (yaf _) rfl (fun args w => by go_simp) (fun w u0 u1 u2 u3 h0 h1 h2 h3 => ys9 w u0 u1 u2 u3 nD nL nT K Kt m Ks D L ts x h0 h1 h2 hD hL hT hm0 hK hKt hKs lD lL lT lx 0 0 [] h3 (by omega) (by omega) rfl e0 g)) (mO 3 13)
 intro _ a2 _ (S2 : Zt [_,_] [_,_,_])
 refine wq [V (iV e0), kT] ur2 (.inl 1 :: ur3) S2 ?_ ?_
 ·exact jj2 (mS 0 8) (yd0 wA (oO 0 14) (yab _) (h := he))
 intro _ a3 _ (S3 : Zt [_,_] [_,_,_,_])
 refine wp_cond_true (S3.bool 0 15 rfl) ?_
 refine wq [.val zR, V (iV e0), .put (.inl 6) (.box 31 zR), V (iV e0)] ur2 [.inl 3] S3 ?_ ?_
 ·exact jj4 (yda rfl wA rfl rfl) (mS 1 8) (seA 1 wA (oO 0 16) yaj ybk ybk) (mO 1 17)
 intro _ a4 _ (S4 : Zt [_,_] [_])
 refine wp_ret (thenR ?_)
 exact ydc S4 rfl (yau S4 1 6 rfl yaj ybk) (yaw S4 0 7 rfl)
theorem zdx (w : World) (u t v : Value) (nD nL nT K Kt m Ks : Nat) (D : List Int) (L : List (List Int)) (ts : List (Int × Int)) (x : List Int) (h : Hs w (SF [Vv nD D K, Mv nL L K]) u) (ht : Hs w (QV nT ts Kt) t) (hv : Hs w (Vv m x Ks) v) (hD : nD ≤ 1048576) (hL : nL ≤ 1048576) (hT : nT ≤ 1048576) (hm0 : m ≤ 1048576) (hK : K ≤ 1048576) (hKt : Kt ≤ 1048576) (hKs : Ks ≤ 1048576) (lD : D.length = nD) (lL : L.length = nL) (lT : ts.length = nT) (lx : x.length = m) (g : FGood D L ts [] m) (hml : m = nL) :
  CG 11 #[u, t, v] w (TWO (IS (.agg #[.bool false, .slice none 0 0, .bool false, .slice none 0 0])) (IS (.int .i64 1))) := by
 refine yan (sl := [(0, (SF [(Vv nD D K), (Mv nL L K)])), (1, (QV nT ts Kt)), (2, (Vv m x Ks))]) Tryz.func11 rfl Tryz.ntmps11 (by simp) (yad rfl (h) (yad rfl (ht) (yad rfl (hv) yar))) ?_
 intro a0 S0
 refine wq [.new (.box 25 (SF [(Vv nD D K), (Mv nL L K)])), .new (.box 31 zR), V (iV 0)] [.inl 0, .inl 1] [.inr 1, .inr 2] S0 ?_ ?_
 ·exact jj3 (bxA wA (oS 0 0) (ybw yas)) (nwA wA ya5) mC
 intro _ a1 _ (S1 : Zt [_,_] [_,_])
 refine wp_seq ?_
 refine wq [V (SF [(Vv nD D K), (Mv nL L K)]), V (QV nT ts Kt), V (Vv m x Ks), V (iV 0), V (iV 0)] ur2 (.inl 4 :: ur2) S1 ?_ ?_
 ·exact jj5 (loA 0 wA yat yas) (mS 0 1) (mS 1 2) (ybj rfl wA rfl (oO 0 10) (oO 1 11) (oO 2 12) ((yab _).imp ymc) (yaf _) rfl (fun args w => by go_simp) (fun w u0 u1 u2 u3 h0 h1 h2 h3 => ymo w u0 u1 u2 u3 nD nL nT K Kt m Ks D L ts x h0 h1 h2 hD hL hT hm0 hK hKt hKs lD lL lT lx 0 0 [] h3 (by omega) (by omega) rfl g)) (mO 3 13)
 intro _ a2 _ (S2 : Zt [_,_] [_,_,_])
 refine wq [V (iV 0), kF] ur2 (.inl 1 :: ur3) S2 ?_ ?_
 ·exact jj2 (mS 0 8) (ycj wA (oO 0 14) (yab _) (h := rfl))
 intro _ a3 _ (S3 : Zt [_,_] [_,_,_,_])
 refine wp_cond_false (S3.bool 0 15 rfl) (wp_skip (thenN (wp_seq ?_)))
 refine wq [V (Vv m x Ks), V (iV (m : Nat)), V (Part a3 3 1), V (Mv nL L K), V (iV (nL : Nat)), kT] ur2 [.inl 5, .inr 2, .inr 3] S3 ?_ ?_
 ·exact jj6 (mS 3 2) (lnA wA (oO 0 18) Tryz.underlying22) (ptA wA 0 yaz) (plA wA (oO 2 20) 0 rfl rfl (ploadS rfl ya1)) (lnA wA (oO 3 21) Tryz.underlying23) (ybm wA (oO 1 19) (oO 4 22))
 intro _ a4 _ (S4 : Zt [_,_] [_,_,_])
 refine wp_cond_true (S4.bool 0 23 rfl) ?_
 refine wq [.val zR, .put (.inl 6) (.box 31 zR), V (iV 1)] ur2 [.inl 2] S4 ?_ ?_
 ·exact jj3 (yda rfl wA rfl rfl) (seA 1 wA (oO 0 24) yaj ybk ybk) mC
 intro _ a5 _ (S5 : Zt [_,_] [_])
 refine wp_ret (thenR ?_)
 exact ydc S5 rfl (yau S5 1 6 rfl yaj ybk) (yaw S5 0 7 rfl)
theorem zdz (w : World) (u t v : Value) (nD nL nT K Kt m Ks : Nat) (D : List Int) (L : List (List Int)) (ts : List (Int × Int)) (x : List Int) (h : Hs w (SF [Vv nD D K, Mv nL L K]) u) (ht : Hs w (QV nT ts Kt) t) (hv : Hs w (Vv m x Ks) v) (hD : nD ≤ 1048576) (hL : nL ≤ 1048576) (hT : nT ≤ 1048576) (hm0 : m ≤ 1048576) (hK : K ≤ 1048576) (hKt : Kt ≤ 1048576) (hKs : Ks ≤ 1048576) (lD : D.length = nD) (lL : L.length = nL) (lT : ts.length = nT) (lx : x.length = m) (g : FGood D L ts [] m) (K2 : Nat) (τ : List Int) (dn : Int) (hK2 : K2 ≤ 16777216) (lτ : τ.length = nL) (hof : ∀ (B : Nat → Prop) (w : World) (u v : Value), (∀ k, B k → k < w.heap.size) → Has B w (SF [Vv nD D K, Mv nL L K]) u → Has B w (QV nT ts Kt) v → Calls Tryz.prog 19 #[u, v] w fun e w' => ∃ r, e = .returned r ∧ Below w.heap.size w w' ∧ Has B w' (APx nD nL nL K2 D L τ dn) r) (hN : ∀ k, k ≤ m → (digs (fS D (shL x dn τ nL m) L nL k).1.natAbs).length ≤ 67108864) (hR : ∀ k, k ≤ m → (digs (fS D (shL x dn τ nL m) L nL k).2.natAbs).length ≤ 67108864) (hml : m < nL) (T0 D1 cn cd : Int) (eT : τ.getD (nL - 1 - m) 0 = T0) (eD1 : D.getD (nL - 1 - m + 1) 0 = D1) (ecn : T0 * D1 - fB (shL x dn τ nL m) L nL m = cn) (ecd : dn * D1 = cd) (Kz : Nat) (hsd : Dl (shL x dn τ nL m) Kz) (hbB : (digs (fB (shL x dn τ nL m) L nL m).natAbs).length ≤ 134217728) (qc : Nat) (hq : cd = (qc : Int)) (hq0 : qc ≠ 0) (hqc : (digs qc).length ≤ 67108864) (hcn : (digs cn.natAbs).length ≤ 67108864) :
  CG 11 #[u, t, v] w (TWO (QQ cn qc) (IS (.int .i64 0))) := by
 have hgl := g.g.len
 have hNb : (digs (fS D (shL x dn τ nL m) L nL m).1.natAbs).length ≤ 67108864 := hN m (ze5 _)
 have hRb : (digs (fS D (shL x dn τ nL m) L nL m).2.natAbs).length ≤ 67108864 := hR m (ze5 _)
 have hcd : (digs cd.natAbs).length ≤ 67108864 := by rw [hq]; exact hqc
 refine yan (sl := [(0, (SF [(Vv nD D K), (Mv nL L K)])), (1, (QV nT ts Kt)), (2, (Vv m x Ks))]) Tryz.func11 rfl Tryz.ntmps11 (by simp) (yad rfl (h) (yad rfl (ht) (yad rfl (hv) yar))) ?_
 intro a0 S0
 refine wq [.new (.box 25 (SF [(Vv nD D K), (Mv nL L K)])), .new (.box 31 zR), V (iV 0)] [.inl 0, .inl 1] [.inr 1, .inr 2] S0 ?_ ?_
 ·exact jj3 (bxA wA (oS 0 0) (ybw yas)) (nwA wA ya5) mC
 intro _ a1 _ (S1 : Zt [_,_] [_,_])
 refine wp_seq ?_
 refine wq [V (SF [(Vv nD D K), (Mv nL L K)]), V (QV nT ts Kt), V (Vv m x Ks), V (iV 0), V (iV 0)] ur2 (.inl 4 :: ur2) S1 ?_ ?_
 ·exact jj5 (loA 0 wA yat yas) (mS 0 1) (mS 1 2) (ybj rfl wA rfl (oO 0 10) (oO 1 11) (oO 2 12) ((yab _).imp ymc) (yaf _) rfl (fun args w => by go_simp) (fun w u0 u1 u2 u3 h0 h1 h2 h3 => ymo w u0 u1 u2 u3 nD nL nT K Kt m Ks D L ts x h0 h1 h2 hD hL hT hm0 hK hKt hKs lD lL lT lx 0 0 [] h3 (by omega) (by omega) rfl g)) (mO 3 13)
 intro _ a2 _ (S2 : Zt [_,_] [_,_,_])
 refine wq [V (iV 0), kF] ur2 (.inl 1 :: ur3) S2 ?_ ?_
 ·exact jj2 (mS 0 8) (ycj wA (oO 0 14) (yab _) (h := rfl))
 intro _ a3 _ (S3 : Zt [_,_] [_,_,_,_])
 refine wp_cond_false (S3.bool 0 15 rfl) (wp_skip (thenN (wp_seq ?_)))
 refine wq [V (Vv m x Ks), V (iV (m : Nat)), V (Part a3 3 1), V (Mv nL L K), V (iV (nL : Nat)), kF] ur2 [.inl 5, .inr 2, .inr 3] S3 ?_ ?_
 ·exact jj6 (mS 3 2) (lnA wA (oO 0 18) Tryz.underlying22) (ptA wA 0 yaz) (plA wA (oO 2 20) 0 rfl rfl (ploadS rfl ya1)) (lnA wA (oO 3 21) Tryz.underlying23) (ybs wA (oO 1 19) (oO 4 22))
 intro _ a4 _ (S4 : Zt [_,_] [_,_,_])
 refine wp_cond_false (S4.bool 0 23 rfl) (wp_skip (thenN ?_))
 refine wq [V (SF [(Vv nD D K), (Mv nL L K)]), V (QV nT ts Kt), V (APx nD nL nL K2 D L τ dn), V (Vv m x Ks), V (SP (APx nD nL nL K2 D L τ dn) ((VN m (shL x dn τ nL m)) w.heap.size) ((ZN (fB (shL x dn τ nL m) L nL m)) w.heap.size) ((ZN ((fS D (shL x dn τ nL m) L nL m).1)) w.heap.size) ((ZN ((fS D (shL x dn τ nL m) L nL m).2)) w.heap.size)), Fw (PRF (ZN (cn)) (ZN (cd))) w, .new (.box 31 zR), .put (.inr 6) (.box 31 ((PRF (ZN (cn)) (ZN (cd))) w.heap.size))] [.inr 0, .inr 1, .inl 6] [] S4 ?_ ?_
 ·repeat' refine And.intro ?_ ?_
  ·trivial
  ·exact loA 0 wA yat yas
  ·exact mS 1 1
  ·exact ycb rfl wA rfl (oO 0 25) (oO 1 26) rfl (fun args w => by go_simp) (fun B w u v _ hB h1 h2 => hof B w u v hB h1 h2)
  ·exact mS 2 2
  ·exact ycb rfl wA rfl (oO 2 27) (oO 3 28) rfl (fun args w => by go_simp) (fun B w u v hlo hB h1 h2 => at_H (by omega) hL hL hK2 lD lL lτ lx (by omega) rfl (by omega) (fun j hj => g.g.row j (by omega)) (fun i hi => by have := g.g.pos i (by omega); omega) (by omega) (fun k hk => ze6 (hN k hk) (by omega)) (fun k hk => ze6 (hR k hk) (by omega)) B w u v hlo hB h1 h2)
  ·exact ch1 wA ((qO 4 29 rfl).imp (yga (fun v w h => h) (yvy hsd) (ya4 hbB) (ya4 hNb) (ya4 hRb))) (yff (yai _) (yai _)) (fun w u0 h0 => by obtain ⟨pa, h0⟩ := zc7 (fun v w h => h) h0; exact Gives.cast (zcy w pa nD nL nL K2 D L τ dn (by omega) hL hL hK2 lD lL lτ u0 m Kz _ _ _ _ _ _ _ h0 hml (ydx _ _ _ _ _) rfl (by omega) T0 D1 eT eD1 (ze5 _)) (by rw [ecn, ecd]))
  ·exact nwA wA ya5
  ·exact puA 6 wA (oO 5 30) yaj ybk (ya2 yah yah)
 intro _ a5 _ (S5 : Zt [_,_,_] [])
 refine wq [V (Part a5 9 0), Fw (ZN (cn)) w, V (Part a5 9 2), Fw (ZN (cd)) w, Fw (TWO (QQ cn qc) (IS (.int .i64 0))) w, Fw (QQ cn qc) w, V (iV 0), .put (.inl 6) (.box 31 ((QQ cn qc) w.heap.size)), V (iV 0)] ur2 [.inl 8] S5 ?_ ?_
 ·exact ⟨jj8 (ptZ wA 2 ycu) (plA wA (oO 0 31) 2 rfl rfl yc6) (ptA wA 2 yby) (plA wA (oO 2 33) 2 rfl rfl yb1) (cc2 wA (qO 1 32 rfl) (qO 3 34 rfl) (ybv (ybi _ _) (yaf _)) (fun w u v h1 h2 => yl7 (k := 67108864) (k' := 67108864) hq0 (by omega) (by omega) w u v ((ya4 hcn) _ _ h1) (by rw [← hq]; exact (ya4 hcd) _ _ h2))) (e20 wA (oO 4 35)) (e21 wA (oO 4 35)) (seA 1 wA (oO 5 36) yaj ybk ybp), mO 6 37⟩
 intro _ a6 _ (S6 : Zt [_,_] [_])
 refine wp_ret ?_
 exact ydc S6 rfl (yau S6 1 6 rfl yaj ybp) (yaw S6 0 7 rfl)
theorem yx9 (w : World) (u t v r : Value) (nD nL nT K Kt m Ks : Nat) (D : List Int) (L : List (List Int)) (ts : List (Int × Int)) (x : List Int) (h : Hs w (SF [Vv nD D K, Mv nL L K]) u) (ht : Hs w (QV nT ts Kt) t) (hv : Hs w (Vv m x Ks) v) (hD : nD ≤ 1048576) (hL : nL ≤ 1048576) (hT : nT ≤ 1048576) (hm0 : m ≤ 1048576) (hK : K ≤ 1048576) (hKt : Kt ≤ 1048576) (hKs : Ks ≤ 1048576) (lD : D.length = nD) (lL : L.length = nL) (lT : ts.length = nT) (lx : x.length = m) (Kr : Nat) (rn rd : Int) (hr : Hs w (PR (Zv rn Kr) (Zv rd Kr)) r) (hKr : Kr ≤ 8388608) (e0 : Int) (he : e0 ≠ 0) (g : FRef D L ts [(rn, rd)] m e0) :
  CG 14 #[u, t, v, r] w (FOUR (IS (.agg #[.bool false, .slice none 0 0])) (IS (.agg #[.bool false, .slice none 0 0])) (IS (.bool false)) (IS (.int .i64 e0))) := by
 refine yan (sl := [(0, (SF [(Vv nD D K), (Mv nL L K)])), (1, (QV nT ts Kt)), (2, (Vv m x Ks)), (3, (PR (Zv rn Kr) (Zv rd Kr)))]) Tryz.func14 rfl Tryz.ntmps14 (by simp) (yad rfl (h) (yad rfl (ht) (yad rfl (hv) (yad rfl (hr) yar)))) ?_
 intro a0 S0
 refine wq [.new (.box 25 (SF [(Vv nD D K), (Mv nL L K)])), .new (.box 31 (PR (Zv rn Kr) (Zv rd Kr))), .new (.box 29 zI), .new (.box 29 zI), kF, V (iV 0)] [.inl 0, .inl 1, .inl 2, .inl 3] [.inr 1, .inr 2] S0 ?_ ?_
 ·exact jj6 (bxA wA (oS 0 0) (ybw yas)) (bxA wA (oS 3 3) (ycn (ya2 yak yak))) (nwA wA yal) (nwA wA yal) mC mC
 intro _ a1 _ (S1 : Zt [_,_,_,_] [_,_])
 refine wp_seq ?_
 refine wq [V (SF [(Vv nD D K), (Mv nL L K)]), V (QV nT ts Kt), V (Vv m x Ks), V (PR (Zv rn Kr) (Zv rd Kr)), V (Sng 31 4 (PR (Zv rn Kr) (Zv rd Kr)) w.heap.size), V (iV e0), V (iV e0)] ur4 (.inl 6 :: ur2) S1 ?_ ?_
 ·repeat' refine And.intro ?_ ?_
  ·trivial
  ·exact loA 0 wA yat yas
  ·exact mS 0 1
  ·exact mS 1 2
  ·exact loA 1 wA yaj (ya2 yak yak)
  ·exact yhi rfl wA rfl yhu (oO 3 19) (yc0 (by decide) (ya2 yak yak)) rfl
  ·exact ybj rfl wA rfl (oO 0 16) (oO 1 17) (oO 2 18) ((oO 4 20).imp yn7) (yaf _) rfl (fun args w => by go_simp) (fun w u0 u1 u2 u3 h0 h1 h2 h3 => ys9 w u0 u1 u2 u3 nD nL nT K Kt m Ks D L ts x h0 h1 h2 hD hL hT hm0 hK hKt hKs lD lL lT lx 1 Kr [(rn, rd)] h3 (by omega) (by omega) rfl e0 g)
  ·exact mO 5 21
 intro _ a2 _ (S2 : Zt [_,_,_,_] [_,_,_])
 refine wq [V (iV e0), kT] ur4 (.inl 1 :: ur3) S2 ?_ ?_
 ·exact jj2 (mS 0 12) (yd0 wA (oO 0 22) (yab _) (h := he))
 intro _ a3 _ (S3 : Zt [_,_,_,_] [_,_,_,_])
 refine wp_cond_true (S3.bool 0 23 rfl) ?_
 refine wq [.val zI, .val zI, V (iV e0), .put (.inl 8) (.box 29 zI), .put (.inl 9) (.box 29 zI), kF, V (iV e0)] [.inr 0, .inr 2, .inr 3] [.inl 5, .inl 6] S3 ?_ ?_
 ·repeat' refine And.intro ?_ ?_
  ·trivial
  ·exact ybd rfl wA rfl rfl
  ·exact ybd rfl wA rfl rfl
  ·exact mS 1 12
  ·exact seA 2 wA (oO 0 24) yaa yao yao
  ·exact seA 3 wA (oO 1 25) yaa yao yao
  ·exact mC
  ·exact mO 2 26
 intro _ a4 _ (S4 : Zt [_,_,_] [_,_])
 refine wp_ret (thenR ?_)
 exact ykf S4 rfl (yau S4 1 8 rfl yaa yao) (yau S4 2 9 rfl yaa yao) (yaw S4 0 10 rfl) (yaw S4 1 11 rfl)
theorem zd2 (w : World) (u t v r : Value) (nD nL nT K Kt m Ks : Nat) (D : List Int) (L : List (List Int)) (ts : List (Int × Int)) (x : List Int) (h : Hs w (SF [Vv nD D K, Mv nL L K]) u) (ht : Hs w (QV nT ts Kt) t) (hv : Hs w (Vv m x Ks) v) (hD : nD ≤ 1048576) (hL : nL ≤ 1048576) (hT : nT ≤ 1048576) (hm0 : m ≤ 1048576) (hK : K ≤ 1048576) (hKt : Kt ≤ 1048576) (hKs : Ks ≤ 1048576) (lD : D.length = nD) (lL : L.length = nL) (lT : ts.length = nT) (lx : x.length = m) (Kr : Nat) (rn rd : Int) (hr : Hs w (PR (Zv rn Kr) (Zv rd Kr)) r) (hKr : Kr ≤ 8388608) (g : FGood D L ts [(rn, rd)] m) (hml : m = nL) :
  CG 14 #[u, t, v, r] w (FOUR (IS (.agg #[.bool false, .slice none 0 0])) (IS (.agg #[.bool false, .slice none 0 0])) (IS (.bool false)) (IS (.int .i64 1))) := by
 refine yan (sl := [(0, (SF [(Vv nD D K), (Mv nL L K)])), (1, (QV nT ts Kt)), (2, (Vv m x Ks)), (3, (PR (Zv rn Kr) (Zv rd Kr)))]) Tryz.func14 rfl Tryz.ntmps14 (by simp) (yad rfl (h) (yad rfl (ht) (yad rfl (hv) (yad rfl (hr) yar)))) ?_
 intro a0 S0
 refine wq [.new (.box 25 (SF [(Vv nD D K), (Mv nL L K)])), .new (.box 31 (PR (Zv rn Kr) (Zv rd Kr))), .new (.box 29 zI), .new (.box 29 zI), kF, V (iV 0)] [.inl 0, .inl 1, .inl 2, .inl 3] [.inr 1, .inr 2] S0 ?_ ?_
 ·exact jj6 (bxA wA (oS 0 0) (ybw yas)) (bxA wA (oS 3 3) (ycn (ya2 yak yak))) (nwA wA yal) (nwA wA yal) mC mC
 intro _ a1 _ (S1 : Zt [_,_,_,_] [_,_])
 refine wp_seq ?_
 refine wq [V (SF [(Vv nD D K), (Mv nL L K)]), V (QV nT ts Kt), V (Vv m x Ks), V (PR (Zv rn Kr) (Zv rd Kr)), V (Sng 31 4 (PR (Zv rn Kr) (Zv rd Kr)) w.heap.size), V (iV 0), V (iV 0)] ur4 (.inl 6 :: ur2) S1 ?_ ?_
 ·repeat' refine And.intro ?_ ?_
  ·trivial
  ·exact loA 0 wA yat yas
  ·exact mS 0 1
  ·exact mS 1 2
  ·exact loA 1 wA yaj (ya2 yak yak)
  ·exact yhi rfl wA rfl yhu (oO 3 19) (yc0 (by decide) (ya2 yak yak)) rfl
  ·exact ybj rfl wA rfl (oO 0 16) (oO 1 17) (oO 2 18) ((oO 4 20).imp yn7) (yaf _) rfl (fun args w => by go_simp) (fun w u0 u1 u2 u3 h0 h1 h2 h3 => ymo w u0 u1 u2 u3 nD nL nT K Kt m Ks D L ts x h0 h1 h2 hD hL hT hm0 hK hKt hKs lD lL lT lx 1 Kr [(rn, rd)] h3 (by omega) (by omega) rfl g)
  ·exact mO 5 21
 intro _ a2 _ (S2 : Zt [_,_,_,_] [_,_,_])
 refine wq [V (iV 0), kF] ur4 (.inl 1 :: ur3) S2 ?_ ?_
 ·exact jj2 (mS 0 12) (ycj wA (oO 0 22) (yab _) (h := rfl))
 intro _ a3 _ (S3 : Zt [_,_,_,_] [_,_,_,_])
 refine wp_cond_false (S3.bool 0 23 rfl) (wp_skip (thenN (wp_seq ?_)))
 refine wq [V (Vv m x Ks), V (iV (m : Nat)), V (Part a3 4 1), V (Mv nL L K), V (iV (nL : Nat)), kT] ur4 [.inl 5, .inr 2, .inr 3] S3 ?_ ?_
 ·exact jj6 (mS 3 2) (lnA wA (oO 0 27) Tryz.underlying22) (ptA wA 0 yaz) (plA wA (oO 2 29) 0 rfl rfl (ploadS rfl ya1)) (lnA wA (oO 3 30) Tryz.underlying23) (ybm wA (oO 1 28) (oO 4 31))
 intro _ a4 _ (S4 : Zt [_,_,_,_] [_,_,_])
 refine wp_cond_true (S4.bool 0 32 rfl) ?_
 refine wq [.val zI, .val zI, .put (.inl 8) (.box 29 zI), .put (.inl 9) (.box 29 zI), kF, V (iV 1)] [.inr 0, .inr 2, .inr 3] [.inl 4, .inl 5] S4 ?_ ?_
 ·exact jj6 (ybd rfl wA rfl rfl) (ybd rfl wA rfl rfl) (seA 2 wA (oO 0 33) yaa yao yao) (seA 3 wA (oO 1 34) yaa yao yao) mC mC
 intro _ a5 _ (S5 : Zt [_,_,_] [_,_])
 refine wp_ret (thenR ?_)
 exact ykf S5 rfl (yau S5 1 8 rfl yaa yao) (yau S5 2 9 rfl yaa yao) (yaw S5 0 10 rfl) (yaw S5 1 11 rfl)




section
variable {n m Kb K : Nat} {Bm : List (List Int)} {ts : List (Int × Int)}
end
end Go.Proofs.YtbkobojhkhiohaaGreat
