import Derived.Test.YtdnindaohpdblaaGreatTzG
import Derived.Test.YtdnindaohpdblaaGreatFmC
set_option linter.all false
namespace Go.Proofs.YtdnindaohpdblaaGreat
open Go Go.RowKit Nt
set_option maxRecDepth 20000
set_option maxHeartbeats 16000000
theorem yuc : ∀ (i : Nat) ψ, ([IS (.int .i64 3), IS (.int .i64 5)] : List (Nat → Pr))[i]? = some ψ → Fresh ψ := fun i ψ h => by
 match i, h with
 | 0, h => simp at h; subst h; exact yaf _
 | 1, h => simp at h; subst h; exact yaf _
abbrev CL35 : Nat → Pr := LF 1 2 [IS (.int .i64 3), IS (.int .i64 5)]
theorem yp0 : Fresh CL35 := yhr (by decide) yuc
theorem yvk (w : World) :
  CG 9 #[] w (IS (.bool true)) := by
 refine yan (sl := []) Tryz.func9 rfl Tryz.ntmps9 (by simp) yar ?_
 intro a0 S0
 refine wq [kF] [] [] S0 ?_ ?_
 ·exact jj1 mC
 intro _ a1 _ (S1 : Zt [] [])
 refine wq [V (TnT w.heap.size), Fw (THREE CL35 (IS (.bool true)) (IS (.int .i64 0))) w, Fw (THREE CL35 (IS (.bool true)) (IS (.int .i64 0))) w, V (CL35 w.heap.size), kT, V (iV 0), V (CL35 w.heap.size), kT, V (iV 0)] [] [.inl 6, .inl 7, .inl 8] S1 ?_ ?_
 ·exact ⟨jj8 (yd3 rfl wA rfl  yue rfl (fun args w => by go_simp) (fun w => yzd w)) (ch2 wA ((qO 0 5 rfl).imp zb3) (yab _) (ybv yp0 (yaf _) (yaf _)) (fun w u v h1 h2 => by obtain rfl : v = _ := h2.now; exact ynx w u h1)) (mO 1 6) (e30 wA (oO 2 4)) (e31 wA (oO 2 4)) (e32 wA (oO 2 4)) (mO 3 7) (mO 4 8), mO 5 9⟩
 intro _ a2 _ (S2 : Zt [] [_,_,_])
 refine wq [V (iV 0), kT, kT, kT, kT, kT, V (CL35 w.heap.size), V (iV (2 : Nat)), kT, kT, kT, V (CL35 w.heap.size), V (AtE 1 (iV 3)), V (iV 3), kT, kT, kT, V (CL35 w.heap.size), V (AtE 1 (iV 5)), V (iV 5), kT, kT, kT] [] [.inl 22] S2 ?_ ?_
 ·exact ⟨⟨⟨⟨⟨⟨⟨⟨⟨⟨⟨⟨⟨⟨⟨jj8 (mS 2 3) (yci wA (oO 0 10) (yab _) (h := rfl)) (mO 1 11) (mW (wI 2 12) (oS 1 2)) (pT wA (oO 2 12) (oO 3 13)) (mO 4 14) (mW (wI 5 15) (oS 0 1)) (yio rfl (wI 5 15) rfl (oO 6 16) yl3 Tryz.underlying65 rfl), ybg (wI 5 15) (oO 7 17) (yab _) (h := rfl)⟩, pT wA (oO 5 15) (oO 8 18)⟩, mO 9 19⟩, mW (wI 10 20) (oS 0 1)⟩, axA (wI 10 20) ywg ((oO 11 21).imp yyc) (yab _) rfl rfl⟩, alA (wI 10 20) ywi (ylo rfl) (oO 12 22)⟩, ybg (wI 10 20) (oO 13 23) (yab _) (h := rfl)⟩, pT wA (oO 10 20) (oO 14 24)⟩, mO 15 25⟩, mW (wI 16 26) (oS 0 1)⟩, axA (wI 16 26) ywg ((oO 17 27).imp yyc) (yab _) rfl rfl⟩, alA (wI 16 26) ywi (ylo rfl) (oO 18 28)⟩, ybg (wI 16 26) (oO 19 29) (yab _) (h := rfl)⟩, pT wA (oO 16 26) (oO 20 30)⟩, mO 21 31⟩
 intro _ a3 _ (S3 : Zt [] [_])
 refine wp_ret ?_
 exact yaz S3 rfl (ya8 S3 0 0 rfl)
theorem yc7 {A N : Int} {D M k1 k2 k3 k4 : Nat} (hD : D ≠ 0) (hM : M ≠ 0) (b1 : k1 ≤ 8388608) (b2 : k2 ≤ 8388608) (b3 : k3 ≤ 8388608) (b4 : k4 ≤ 8388608) : ∀ w u v, Rv A (D : Int) k1 k2 u w → Rv N (M : Int) k3 k4 v w → CG 24 #[u, v] w (IS (.int .i64 (A * (M : Int) - N * (D : Int)).sign)) := by
 rintro w u v ⟨x0, x1, y0, y1, rfl, ⟨s, p, n, c, xs, ea, h, rfl, hn⟩, ⟨t, q, m, d, ys, eb, h', eD, hm⟩⟩ ⟨z0, z1, u0, u1, rfl, ⟨s', p', n', c', xs', ea', h2, rfl, hn'⟩, ⟨t', q', m', d', ys', eb', h2', eM, hm'⟩⟩
 simp at ea eb ea' eb'
 obtain ⟨rfl, rfl⟩ := ea
 obtain ⟨rfl, rfl⟩ := eb
 obtain ⟨rfl, rfl⟩ := ea'
 obtain ⟨rfl, rfl⟩ := eb'
 obtain ⟨rfl, rfl⟩ := yj6 eD hD
 obtain ⟨rfl, rfl⟩ := yj6 eM hM
 refine (yyz w s p n c xs q m d ys s' p' n' c' xs' q' m' d' ys' h h' h2 h2' hD hM (by omega) (by omega) (by omega) (by omega)).mono ?_
 rintro e w' ⟨rfl, hb⟩
 exact ⟨_, rfl, hb, rfl⟩
theorem yf0 (ρ : Operand → Value) (o : Oper) (x : Operand) (w : World) (a r : Int) (h : -a = r ∧ -9223372036854775808 ≤ r ∧ r ≤ 9223372036854775807) (h1 : ρ x = .int .i64 a) : (execOp ρ { o with op := .unOp .neg 2 x }).run Tryz.prog w = .ok (.value (.int .i64 r)) w := by
 obtain ⟨rfl, h3, h4⟩ := h
 have h5 : IntKind.i64.wrap (-a) = -a := ygy h3 h4
 unfold execOp
 go_simp
theorem yhe : ∀ v w, Is (.agg #[.bool false, .slice none 0 0]) v w → Nmx false [] v w := fun v w e => ⟨none, 0, 0, e, Sl.none w⟩
theorem ytq {z : Int} {lo : Nat} : ∀ v w, ZN z lo v w → Nmx (ng z) (digs z.natAbs) v w := fun v w ⟨r, c, e, h, _⟩ => ⟨r, _, c, e, h⟩
theorem yu8 (w : World) (u : Value) (A N : Int) (D k1 k2 : Nat) (h : Hs w (Rv A (D : Int) k1 k2) u) (hk1 : k1 ≤ 1048577) (hk2 : k2 ≤ 1048577) (hD : D ≠ 0) (eN : nr A (D : Int) = N) (hN : (digs N.natAbs).length ≤ 8388608) (k : Nat) (hk : k ≤ 1073741824) (hc : N * (D : Int) < A) (ho : k % 2 = 1) :
  CG 10 #[u, .int .i64 ((k : Nat) : Int)] w (ZN (N + ((((k + 1) / 2 : Nat) : Int)))) := by
 have hs : (N * (D : Int) - A * ((1 : Nat) : Int)).sign = -1 := zen (by omega)
 have dS : (digs ((((k + 1) / 2 : Nat) : Int)).natAbs).length ≤ 1 := yam (by rw [zgk]; omega)
 refine yan (sl := [(0, (PR (Zv A k1) (Zv ((D : Int)) k2))), (1, (iV ((k : Nat) : Int)))]) Tryz.func10 rfl Tryz.ntmps10 (by simp) (yai rfl (h) (yai rfl (yb1 _) yar)) ?_
 intro a0 S0
 refine wq [.new (.box 26 (PR (Zv A k1) (Zv ((D : Int)) k2))), .new (.box 24 zI)] [.inl 0, .inl 1] [.inr 1] S0 ?_ ?_
 ·exact jj2 (bxA wA (oS 0 0) (yb6 (yau yah yah))) (nwA wA yak)
 intro _ a1 _ (S1 : Zt [_,_] [_])
 refine wq [V (PR (Zv A k1) (Zv ((D : Int)) k2)), Fw (ZN (N)) w, .new (.box 24 zI), .put (.inr 2) (.box 24 ((ZN (N)) w.heap.size))] [.inr 0, .inr 1, .inl 2] [.inr 0] S1 ?_ ?_
 ·exact jj4 (loA 0 wA yaq (yau yah yah)) (cc1 wA (qO 0 8 rfl) (yae _) (fun w u h1 => Gives.cast (ψ := (ZN (N))) (yfe hD hk1 hk2 w u h1) (by rw [eN]))) (nwA wA yak) (puA 2 wA (oO 1 9) yaa yao yad)
 intro _ a2 _ (S2 : Zt [_,_,_] [_])
 refine wq [Fw (ZN (N)) w, Fw (RN N 1) w, V (PR (Zv A k1) (Zv ((D : Int)) k2)), V (Is (.int .i64 (N * (D : Int) - A * ((1 : Nat) : Int)).sign)), kT, kT] ur3 [.inl 5, .inr 0] S2 ?_ ?_
 ·exact jj6 (loA 2 wA yaa yad) (cc1 wA (qO 0 10 rfl) (yb3 _ _) (fun w u h1 => ye2 (k := 8388608) (by omega) w u (yax hN _ _ h1))) (loA 0 wA yaq (yau yah yah)) (cc2 wA (qO 1 11 rfl) (qO 2 12 rfl) (yaf _) (fun w u v h1 h2 => yc7 (k1 := 8388608) (k2 := 1) (by decide) hD (by omega) (by omega) (by omega) (by omega) w u v (yfm hN ydc _ _ h1) h2)) (ybh wA (oO 3 13) (yab _) (h := by rw [hs]; decide)) (mO 4 14)
 intro _ a3 _ (S3 : Zt [_,_,_] [_,_])
 refine wq [V (iV ((k : Nat) : Int)), V (iV ((k + 1 : Nat) : Int)), V (Is (.int .i64 (((k + 1) / 2 : Nat) : Int))), V (Is (.int .i64 (((k + 1) / 2 : Nat) : Int)))] ur3 (.inl 3 :: ur2) S3 ?_ ?_
 ·exact jj4 (mS 1 1) (ya7 wA (oO 0 15) (yab _)) (yay rfl wA rfl (oO 1 16) (yab _) rfl (fun ρ w h1 h2 => by exact ycb ρ _ _ _ w _ _ _ ⟨by omega, by omega, by omega, by omega⟩ h1 h2)) (mO 2 17)
 intro _ a4 _ (S4 : Zt [_,_,_] [_,_,_])
 refine wp_seq ?_
 refine wq [Fw (ZN (N)) w, Fw (RN N 1) w, V (PR (Zv A k1) (Zv ((D : Int)) k2)), V (Is (.int .i64 (N * (D : Int) - A * ((1 : Nat) : Int)).sign)), kF] [.inr 1, .inr 2] (.inl 4 :: ur3) S4 ?_ ?_
 ·exact jj5 (loA 2 wA yaa yad) (cc1 wA (qO 0 18 rfl) (yb3 _ _) (fun w u h1 => ye2 (k := 8388608) (by omega) w u (yax hN _ _ h1))) (loA 0 wA yaq (yau yah yah)) (cc2 wA (qO 1 19 rfl) (qO 2 20 rfl) (yaf _) (fun w u v h1 h2 => yc7 (k1 := 8388608) (k2 := 1) (by decide) hD (by omega) (by omega) (by omega) (by omega) w u v (yfm hN ydc _ _ h1) h2)) (ybf wA (oO 3 21) (yab _) (h := by rw [hs]; decide))
 intro _ a5 _ (S5 : Zt [_,_] [_,_,_,_])
 refine wp_cond_false (S5.bool 0 22 rfl) (wp_skip (thenN (wp_seq ?_)))
 refine wq [V (iV ((k : Nat) : Int)), V (iV ((k % 2 : Nat) : Int)), kT, kT, kF] ur2 [.inl 4, .inr 1] S5 ?_ ?_
 ·exact jj5 (mS 3 1) (yay rfl wA rfl (oO 0 23) (yab _) rfl (fun ρ w h1 h2 => by exact ybn ρ _ _ _ w _ _ _ ⟨by omega, by omega, by omega, by omega⟩ h1 h2)) (ybg wA (oO 1 24) (yab _)) (mS 2 6) (yay rfl wA rfl (oO 2 25) (oO 3 26) rfl (fun ρ w h1 h2 => by exact ycy ρ _ _ _ w true true h1 h2))
 intro _ a6 _ (S6 : Zt [_,_] [_,_])
 refine wp_cond_false (S6.bool 0 27 rfl) (wp_skip (thenN ?_))
 refine wq [Fw (ZN (N)) w, V (Is (.int .i64 (((k + 1) / 2 : Nat) : Int))), Fw (ZN ((((k + 1) / 2 : Nat) : Int))) w, Fw (ZN (N + ((((k + 1) / 2 : Nat) : Int)))) w, .put (.inl 4) (.box 24 ((ZN (N + ((((k + 1) / 2 : Nat) : Int)))) w.heap.size))] [.inr 0] [] S6 ?_ ?_
 ·exact jj5 (loA 1 wA yaa yad) (mS 1 7) (cc1 wA (qO 1 31 rfl) (yae _) (yki ((((k + 1) / 2 : Nat) : Int)) (by omega) (by omega))) (cc2 wA (qO 0 30 rfl) (qO 2 32 rfl) (yae _) (fun w u v h1 h2 => yic (by omega) (by omega) w u v (yax hN _ _ h1) (yax dS _ _ h2))) (seA 0 wA (oO 3 33) yaa yao yad)
 intro _ a7 _ (S7 : Zt [_] [])
 refine wp_ret ?_
 exact yaz S7 rfl (yaw S7 0 4 rfl yaa yad)
theorem yu7 (w : World) (u : Value) (A N : Int) (D k1 k2 : Nat) (h : Hs w (Rv A (D : Int) k1 k2) u) (hk1 : k1 ≤ 1048577) (hk2 : k2 ≤ 1048577) (hD : D ≠ 0) (eN : nr A (D : Int) = N) (hN : (digs N.natAbs).length ≤ 8388608) (k : Nat) (hk : k ≤ 1073741824) (hc : N * (D : Int) < A) (ho : k % 2 = 0) :
  CG 10 #[u, .int .i64 ((k : Nat) : Int)] w (ZN (N + (-(((k + 1) / 2 : Nat) : Int)))) := by
 have hs : (N * (D : Int) - A * ((1 : Nat) : Int)).sign = -1 := zen (by omega)
 have dS : (digs (-(((k + 1) / 2 : Nat) : Int)).natAbs).length ≤ 1 := yam (by rw [zgk]; omega)
 refine yan (sl := [(0, (PR (Zv A k1) (Zv ((D : Int)) k2))), (1, (iV ((k : Nat) : Int)))]) Tryz.func10 rfl Tryz.ntmps10 (by simp) (yai rfl (h) (yai rfl (yb1 _) yar)) ?_
 intro a0 S0
 refine wq [.new (.box 26 (PR (Zv A k1) (Zv ((D : Int)) k2))), .new (.box 24 zI)] [.inl 0, .inl 1] [.inr 1] S0 ?_ ?_
 ·exact jj2 (bxA wA (oS 0 0) (yb6 (yau yah yah))) (nwA wA yak)
 intro _ a1 _ (S1 : Zt [_,_] [_])
 refine wq [V (PR (Zv A k1) (Zv ((D : Int)) k2)), Fw (ZN (N)) w, .new (.box 24 zI), .put (.inr 2) (.box 24 ((ZN (N)) w.heap.size))] [.inr 0, .inr 1, .inl 2] [.inr 0] S1 ?_ ?_
 ·exact jj4 (loA 0 wA yaq (yau yah yah)) (cc1 wA (qO 0 8 rfl) (yae _) (fun w u h1 => Gives.cast (ψ := (ZN (N))) (yfe hD hk1 hk2 w u h1) (by rw [eN]))) (nwA wA yak) (puA 2 wA (oO 1 9) yaa yao yad)
 intro _ a2 _ (S2 : Zt [_,_,_] [_])
 refine wq [Fw (ZN (N)) w, Fw (RN N 1) w, V (PR (Zv A k1) (Zv ((D : Int)) k2)), V (Is (.int .i64 (N * (D : Int) - A * ((1 : Nat) : Int)).sign)), kT, kT] ur3 [.inl 5, .inr 0] S2 ?_ ?_
 ·exact jj6 (loA 2 wA yaa yad) (cc1 wA (qO 0 10 rfl) (yb3 _ _) (fun w u h1 => ye2 (k := 8388608) (by omega) w u (yax hN _ _ h1))) (loA 0 wA yaq (yau yah yah)) (cc2 wA (qO 1 11 rfl) (qO 2 12 rfl) (yaf _) (fun w u v h1 h2 => yc7 (k1 := 8388608) (k2 := 1) (by decide) hD (by omega) (by omega) (by omega) (by omega) w u v (yfm hN ydc _ _ h1) h2)) (ybh wA (oO 3 13) (yab _) (h := by rw [hs]; decide)) (mO 4 14)
 intro _ a3 _ (S3 : Zt [_,_,_] [_,_])
 refine wq [V (iV ((k : Nat) : Int)), V (iV ((k + 1 : Nat) : Int)), V (Is (.int .i64 (((k + 1) / 2 : Nat) : Int))), V (Is (.int .i64 (((k + 1) / 2 : Nat) : Int)))] ur3 (.inl 3 :: ur2) S3 ?_ ?_
 ·exact jj4 (mS 1 1) (ya7 wA (oO 0 15) (yab _)) (yay rfl wA rfl (oO 1 16) (yab _) rfl (fun ρ w h1 h2 => by exact ycb ρ _ _ _ w _ _ _ ⟨by omega, by omega, by omega, by omega⟩ h1 h2)) (mO 2 17)
 intro _ a4 _ (S4 : Zt [_,_,_] [_,_,_])
 refine wp_seq ?_
 refine wq [Fw (ZN (N)) w, Fw (RN N 1) w, V (PR (Zv A k1) (Zv ((D : Int)) k2)), V (Is (.int .i64 (N * (D : Int) - A * ((1 : Nat) : Int)).sign)), kF] [.inr 1, .inr 2] (.inl 4 :: ur3) S4 ?_ ?_
 ·exact jj5 (loA 2 wA yaa yad) (cc1 wA (qO 0 18 rfl) (yb3 _ _) (fun w u h1 => ye2 (k := 8388608) (by omega) w u (yax hN _ _ h1))) (loA 0 wA yaq (yau yah yah)) (cc2 wA (qO 1 19 rfl) (qO 2 20 rfl) (yaf _) (fun w u v h1 h2 => yc7 (k1 := 8388608) (k2 := 1) (by decide) hD (by omega) (by omega) (by omega) (by omega) w u v (yfm hN ydc _ _ h1) h2)) (ybf wA (oO 3 21) (yab _) (h := by rw [hs]; decide))
 intro _ a5 _ (S5 : Zt [_,_] [_,_,_,_])
 refine wp_cond_false (S5.bool 0 22 rfl) (wp_skip (thenN (wp_seq ?_)))
 refine wq [V (iV ((k : Nat) : Int)), V (iV ((k % 2 : Nat) : Int)), kF, kT, kT] ur2 [.inl 4, .inr 1] S5 ?_ ?_
 ·exact jj5 (mS 3 1) (yay rfl wA rfl (oO 0 23) (yab _) rfl (fun ρ w h1 h2 => by exact ybn ρ _ _ _ w _ _ _ ⟨by omega, by omega, by omega, by omega⟩ h1 h2)) (ybf wA (oO 1 24) (yab _)) (mS 2 6) (yay rfl wA rfl (oO 2 25) (oO 3 26) rfl (fun ρ w h1 h2 => by exact ycy ρ _ _ _ w false true h1 h2))
 intro _ a6 _ (S6 : Zt [_,_] [_,_])
 refine wp_cond_true (S6.bool 0 27 rfl) ?_
 refine wr [V (Is (.int .i64 (((k + 1) / 2 : Nat) : Int))), V (Is (.int .i64 (-(((k + 1) / 2 : Nat) : Int)))), V (Is (.int .i64 (-(((k + 1) / 2 : Nat) : Int))))] ur2 [.inl 2] S6 ?_ ?_
 ·exact jj3 (mS 1 7) (yox (x := .tmp 28) rfl wA rfl (oO 0 28) rfl (fun ρ w h1 => yf0 ρ _ _ w _ _ ⟨rfl, by omega, by omega⟩ h1)) (mO 1 29)
 intro _ a7 _ (S7 : Zt [_,_] [_])
 refine thenN ?_
 refine wq [Fw (ZN (N)) w, V (Is (.int .i64 (-(((k + 1) / 2 : Nat) : Int)))), Fw (ZN (-(((k + 1) / 2 : Nat) : Int))) w, Fw (ZN (N + (-(((k + 1) / 2 : Nat) : Int)))) w, .put (.inl 4) (.box 24 ((ZN (N + (-(((k + 1) / 2 : Nat) : Int)))) w.heap.size))] [.inr 0] [] S7 ?_ ?_
 ·exact jj5 (loA 1 wA yaa yad) (mS 0 7) (cc1 wA (qO 1 31 rfl) (yae _) (yki (-(((k + 1) / 2 : Nat) : Int)) (by omega) (by omega))) (cc2 wA (qO 0 30 rfl) (qO 2 32 rfl) (yae _) (fun w u v h1 h2 => yic (by omega) (by omega) w u v (yax hN _ _ h1) (yax dS _ _ h2))) (seA 0 wA (oO 3 33) yaa yao yad)
 intro _ a8 _ (S8 : Zt [_] [])
 refine wp_ret ?_
 exact yaz S8 rfl (yaw S8 0 4 rfl yaa yad)
theorem yu4 (w : World) (u : Value) (A N : Int) (D k1 k2 : Nat) (h : Hs w (Rv A (D : Int) k1 k2) u) (hk1 : k1 ≤ 1048577) (hk2 : k2 ≤ 1048577) (hD : D ≠ 0) (eN : nr A (D : Int) = N) (hN : (digs N.natAbs).length ≤ 8388608) (k : Nat) (hk : k ≤ 1073741824) (hc : N * (D : Int) = A) (ho : k % 2 = 1) :
  CG 10 #[u, .int .i64 ((k : Nat) : Int)] w (ZN (N + ((((k + 1) / 2 : Nat) : Int)))) := by
 have hs : (N * (D : Int) - A * ((1 : Nat) : Int)).sign = 0 := by rw [show N * (D : Int) - A * ((1 : Nat) : Int) = 0 by omega]; rfl
 have dS : (digs ((((k + 1) / 2 : Nat) : Int)).natAbs).length ≤ 1 := yam (by rw [zgk]; omega)
 refine yan (sl := [(0, (PR (Zv A k1) (Zv ((D : Int)) k2))), (1, (iV ((k : Nat) : Int)))]) Tryz.func10 rfl Tryz.ntmps10 (by simp) (yai rfl (h) (yai rfl (yb1 _) yar)) ?_
 intro a0 S0
 refine wq [.new (.box 26 (PR (Zv A k1) (Zv ((D : Int)) k2))), .new (.box 24 zI)] [.inl 0, .inl 1] [.inr 1] S0 ?_ ?_
 ·exact jj2 (bxA wA (oS 0 0) (yb6 (yau yah yah))) (nwA wA yak)
 intro _ a1 _ (S1 : Zt [_,_] [_])
 refine wq [V (PR (Zv A k1) (Zv ((D : Int)) k2)), Fw (ZN (N)) w, .new (.box 24 zI), .put (.inr 2) (.box 24 ((ZN (N)) w.heap.size))] [.inr 0, .inr 1, .inl 2] [.inr 0] S1 ?_ ?_
 ·exact jj4 (loA 0 wA yaq (yau yah yah)) (cc1 wA (qO 0 8 rfl) (yae _) (fun w u h1 => Gives.cast (ψ := (ZN (N))) (yfe hD hk1 hk2 w u h1) (by rw [eN]))) (nwA wA yak) (puA 2 wA (oO 1 9) yaa yao yad)
 intro _ a2 _ (S2 : Zt [_,_,_] [_])
 refine wq [Fw (ZN (N)) w, Fw (RN N 1) w, V (PR (Zv A k1) (Zv ((D : Int)) k2)), V (Is (.int .i64 (N * (D : Int) - A * ((1 : Nat) : Int)).sign)), kF, kF] ur3 [.inl 5, .inr 0] S2 ?_ ?_
 ·exact jj6 (loA 2 wA yaa yad) (cc1 wA (qO 0 10 rfl) (yb3 _ _) (fun w u h1 => ye2 (k := 8388608) (by omega) w u (yax hN _ _ h1))) (loA 0 wA yaq (yau yah yah)) (cc2 wA (qO 1 11 rfl) (qO 2 12 rfl) (yaf _) (fun w u v h1 h2 => yc7 (k1 := 8388608) (k2 := 1) (by decide) hD (by omega) (by omega) (by omega) (by omega) w u v (yfm hN ydc _ _ h1) h2)) (ya3 wA (oO 3 13) (yab _) (h := by rw [hs]; decide)) (mO 4 14)
 intro _ a3 _ (S3 : Zt [_,_,_] [_,_])
 refine wq [V (iV ((k : Nat) : Int)), V (iV ((k + 1 : Nat) : Int)), V (Is (.int .i64 (((k + 1) / 2 : Nat) : Int))), V (Is (.int .i64 (((k + 1) / 2 : Nat) : Int)))] ur3 (.inl 3 :: ur2) S3 ?_ ?_
 ·exact jj4 (mS 1 1) (ya7 wA (oO 0 15) (yab _)) (yay rfl wA rfl (oO 1 16) (yab _) rfl (fun ρ w h1 h2 => by exact ycb ρ _ _ _ w _ _ _ ⟨by omega, by omega, by omega, by omega⟩ h1 h2)) (mO 2 17)
 intro _ a4 _ (S4 : Zt [_,_,_] [_,_,_])
 refine wp_seq ?_
 refine wq [Fw (ZN (N)) w, Fw (RN N 1) w, V (PR (Zv A k1) (Zv ((D : Int)) k2)), V (Is (.int .i64 (N * (D : Int) - A * ((1 : Nat) : Int)).sign)), kT] [.inr 1, .inr 2] (.inl 4 :: ur3) S4 ?_ ?_
 ·exact jj5 (loA 2 wA yaa yad) (cc1 wA (qO 0 18 rfl) (yb3 _ _) (fun w u h1 => ye2 (k := 8388608) (by omega) w u (yax hN _ _ h1))) (loA 0 wA yaq (yau yah yah)) (cc2 wA (qO 1 19 rfl) (qO 2 20 rfl) (yaf _) (fun w u v h1 h2 => yc7 (k1 := 8388608) (k2 := 1) (by decide) hD (by omega) (by omega) (by omega) (by omega) w u v (yfm hN ydc _ _ h1) h2)) (ybg wA (oO 3 21) (yab _) (h := hs))
 intro _ a5 _ (S5 : Zt [_,_] [_,_,_,_])
 refine wp_cond_true (S5.bool 0 22 rfl) ?_
 refine wr [kT] ur2 [.inl 0, .inr 1, .inr 3] S5 ?_ ?_
 ·exact jj1 mC
 intro _ a6 _ (S6 : Zt [_,_] [_,_,_])
 refine thenN (wp_seq ?_)
 refine wq [V (iV ((k : Nat) : Int)), V (iV ((k % 2 : Nat) : Int)), kT, kT, kF] ur2 [.inl 4, .inr 1] S6 ?_ ?_
 ·exact jj5 (mS 2 1) (yay rfl wA rfl (oO 0 23) (yab _) rfl (fun ρ w h1 h2 => by exact ybn ρ _ _ _ w _ _ _ ⟨by omega, by omega, by omega, by omega⟩ h1 h2)) (ybg wA (oO 1 24) (yab _)) (mS 0 6) (yay rfl wA rfl (oO 2 25) (oO 3 26) rfl (fun ρ w h1 h2 => by exact ycy ρ _ _ _ w true true h1 h2))
 intro _ a7 _ (S7 : Zt [_,_] [_,_])
 refine wp_cond_false (S7.bool 0 27 rfl) (wp_skip (thenN ?_))
 refine wq [Fw (ZN (N)) w, V (Is (.int .i64 (((k + 1) / 2 : Nat) : Int))), Fw (ZN ((((k + 1) / 2 : Nat) : Int))) w, Fw (ZN (N + ((((k + 1) / 2 : Nat) : Int)))) w, .put (.inl 4) (.box 24 ((ZN (N + ((((k + 1) / 2 : Nat) : Int)))) w.heap.size))] [.inr 0] [] S7 ?_ ?_
 ·exact jj5 (loA 1 wA yaa yad) (mS 1 7) (cc1 wA (qO 1 31 rfl) (yae _) (yki ((((k + 1) / 2 : Nat) : Int)) (by omega) (by omega))) (cc2 wA (qO 0 30 rfl) (qO 2 32 rfl) (yae _) (fun w u v h1 h2 => yic (by omega) (by omega) w u v (yax hN _ _ h1) (yax dS _ _ h2))) (seA 0 wA (oO 3 33) yaa yao yad)
 intro _ a8 _ (S8 : Zt [_] [])
 refine wp_ret ?_
 exact yaz S8 rfl (yaw S8 0 4 rfl yaa yad)
theorem yu3 (w : World) (u : Value) (A N : Int) (D k1 k2 : Nat) (h : Hs w (Rv A (D : Int) k1 k2) u) (hk1 : k1 ≤ 1048577) (hk2 : k2 ≤ 1048577) (hD : D ≠ 0) (eN : nr A (D : Int) = N) (hN : (digs N.natAbs).length ≤ 8388608) (k : Nat) (hk : k ≤ 1073741824) (hc : N * (D : Int) = A) (ho : k % 2 = 0) :
  CG 10 #[u, .int .i64 ((k : Nat) : Int)] w (ZN (N + (-(((k + 1) / 2 : Nat) : Int)))) := by
 have hs : (N * (D : Int) - A * ((1 : Nat) : Int)).sign = 0 := by rw [show N * (D : Int) - A * ((1 : Nat) : Int) = 0 by omega]; rfl
 have dS : (digs (-(((k + 1) / 2 : Nat) : Int)).natAbs).length ≤ 1 := yam (by rw [zgk]; omega)
 refine yan (sl := [(0, (PR (Zv A k1) (Zv ((D : Int)) k2))), (1, (iV ((k : Nat) : Int)))]) Tryz.func10 rfl Tryz.ntmps10 (by simp) (yai rfl (h) (yai rfl (yb1 _) yar)) ?_
 intro a0 S0
 refine wq [.new (.box 26 (PR (Zv A k1) (Zv ((D : Int)) k2))), .new (.box 24 zI)] [.inl 0, .inl 1] [.inr 1] S0 ?_ ?_
 ·exact jj2 (bxA wA (oS 0 0) (yb6 (yau yah yah))) (nwA wA yak)
 intro _ a1 _ (S1 : Zt [_,_] [_])
 refine wq [V (PR (Zv A k1) (Zv ((D : Int)) k2)), Fw (ZN (N)) w, .new (.box 24 zI), .put (.inr 2) (.box 24 ((ZN (N)) w.heap.size))] [.inr 0, .inr 1, .inl 2] [.inr 0] S1 ?_ ?_
 ·exact jj4 (loA 0 wA yaq (yau yah yah)) (cc1 wA (qO 0 8 rfl) (yae _) (fun w u h1 => Gives.cast (ψ := (ZN (N))) (yfe hD hk1 hk2 w u h1) (by rw [eN]))) (nwA wA yak) (puA 2 wA (oO 1 9) yaa yao yad)
 intro _ a2 _ (S2 : Zt [_,_,_] [_])
 refine wq [Fw (ZN (N)) w, Fw (RN N 1) w, V (PR (Zv A k1) (Zv ((D : Int)) k2)), V (Is (.int .i64 (N * (D : Int) - A * ((1 : Nat) : Int)).sign)), kF, kF] ur3 [.inl 5, .inr 0] S2 ?_ ?_
 ·exact jj6 (loA 2 wA yaa yad) (cc1 wA (qO 0 10 rfl) (yb3 _ _) (fun w u h1 => ye2 (k := 8388608) (by omega) w u (yax hN _ _ h1))) (loA 0 wA yaq (yau yah yah)) (cc2 wA (qO 1 11 rfl) (qO 2 12 rfl) (yaf _) (fun w u v h1 h2 => yc7 (k1 := 8388608) (k2 := 1) (by decide) hD (by omega) (by omega) (by omega) (by omega) w u v (yfm hN ydc _ _ h1) h2)) (ya3 wA (oO 3 13) (yab _) (h := by rw [hs]; decide)) (mO 4 14)
 intro _ a3 _ (S3 : Zt [_,_,_] [_,_])
 refine wq [V (iV ((k : Nat) : Int)), V (iV ((k + 1 : Nat) : Int)), V (Is (.int .i64 (((k + 1) / 2 : Nat) : Int))), V (Is (.int .i64 (((k + 1) / 2 : Nat) : Int)))] ur3 (.inl 3 :: ur2) S3 ?_ ?_
 ·exact jj4 (mS 1 1) (ya7 wA (oO 0 15) (yab _)) (yay rfl wA rfl (oO 1 16) (yab _) rfl (fun ρ w h1 h2 => by exact ycb ρ _ _ _ w _ _ _ ⟨by omega, by omega, by omega, by omega⟩ h1 h2)) (mO 2 17)
 intro _ a4 _ (S4 : Zt [_,_,_] [_,_,_])
 refine wp_seq ?_
 refine wq [Fw (ZN (N)) w, Fw (RN N 1) w, V (PR (Zv A k1) (Zv ((D : Int)) k2)), V (Is (.int .i64 (N * (D : Int) - A * ((1 : Nat) : Int)).sign)), kT] [.inr 1, .inr 2] (.inl 4 :: ur3) S4 ?_ ?_
 ·exact jj5 (loA 2 wA yaa yad) (cc1 wA (qO 0 18 rfl) (yb3 _ _) (fun w u h1 => ye2 (k := 8388608) (by omega) w u (yax hN _ _ h1))) (loA 0 wA yaq (yau yah yah)) (cc2 wA (qO 1 19 rfl) (qO 2 20 rfl) (yaf _) (fun w u v h1 h2 => yc7 (k1 := 8388608) (k2 := 1) (by decide) hD (by omega) (by omega) (by omega) (by omega) w u v (yfm hN ydc _ _ h1) h2)) (ybg wA (oO 3 21) (yab _) (h := hs))
 intro _ a5 _ (S5 : Zt [_,_] [_,_,_,_])
 refine wp_cond_true (S5.bool 0 22 rfl) ?_
 refine wr [kT] ur2 [.inl 0, .inr 1, .inr 3] S5 ?_ ?_
 ·exact jj1 mC
 intro _ a6 _ (S6 : Zt [_,_] [_,_,_])
 refine thenN (wp_seq ?_)
 refine wq [V (iV ((k : Nat) : Int)), V (iV ((k % 2 : Nat) : Int)), kF, kT, kT] ur2 [.inl 4, .inr 1] S6 ?_ ?_
 ·exact jj5 (mS 2 1) (yay rfl wA rfl (oO 0 23) (yab _) rfl (fun ρ w h1 h2 => by exact ybn ρ _ _ _ w _ _ _ ⟨by omega, by omega, by omega, by omega⟩ h1 h2)) (ybf wA (oO 1 24) (yab _)) (mS 0 6) (yay rfl wA rfl (oO 2 25) (oO 3 26) rfl (fun ρ w h1 h2 => by exact ycy ρ _ _ _ w false true h1 h2))
 intro _ a7 _ (S7 : Zt [_,_] [_,_])
 refine wp_cond_true (S7.bool 0 27 rfl) ?_
 refine wr [V (Is (.int .i64 (((k + 1) / 2 : Nat) : Int))), V (Is (.int .i64 (-(((k + 1) / 2 : Nat) : Int)))), V (Is (.int .i64 (-(((k + 1) / 2 : Nat) : Int))))] ur2 [.inl 2] S7 ?_ ?_
 ·exact jj3 (mS 1 7) (yox (x := .tmp 28) rfl wA rfl (oO 0 28) rfl (fun ρ w h1 => yf0 ρ _ _ w _ _ ⟨rfl, by omega, by omega⟩ h1)) (mO 1 29)
 intro _ a8 _ (S8 : Zt [_,_] [_])
 refine thenN ?_
 refine wq [Fw (ZN (N)) w, V (Is (.int .i64 (-(((k + 1) / 2 : Nat) : Int)))), Fw (ZN (-(((k + 1) / 2 : Nat) : Int))) w, Fw (ZN (N + (-(((k + 1) / 2 : Nat) : Int)))) w, .put (.inl 4) (.box 24 ((ZN (N + (-(((k + 1) / 2 : Nat) : Int)))) w.heap.size))] [.inr 0] [] S8 ?_ ?_
 ·exact jj5 (loA 1 wA yaa yad) (mS 0 7) (cc1 wA (qO 1 31 rfl) (yae _) (yki (-(((k + 1) / 2 : Nat) : Int)) (by omega) (by omega))) (cc2 wA (qO 0 30 rfl) (qO 2 32 rfl) (yae _) (fun w u v h1 h2 => yic (by omega) (by omega) w u v (yax hN _ _ h1) (yax dS _ _ h2))) (seA 0 wA (oO 3 33) yaa yao yad)
 intro _ a9 _ (S9 : Zt [_] [])
 refine wp_ret ?_
 exact yaz S9 rfl (yaw S9 0 4 rfl yaa yad)
theorem yu6 (w : World) (u : Value) (A N : Int) (D k1 k2 : Nat) (h : Hs w (Rv A (D : Int) k1 k2) u) (hk1 : k1 ≤ 1048577) (hk2 : k2 ≤ 1048577) (hD : D ≠ 0) (eN : nr A (D : Int) = N) (hN : (digs N.natAbs).length ≤ 8388608) (k : Nat) (hk : k ≤ 1073741824) (hc : A < N * (D : Int)) (ho : k % 2 = 1) :
  CG 10 #[u, .int .i64 ((k : Nat) : Int)] w (ZN (N + (-(((k + 1) / 2 : Nat) : Int)))) := by
 have hs : (N * (D : Int) - A * ((1 : Nat) : Int)).sign = 1 := zes (by omega)
 have dS : (digs (-(((k + 1) / 2 : Nat) : Int)).natAbs).length ≤ 1 := yam (by rw [zgk]; omega)
 refine yan (sl := [(0, (PR (Zv A k1) (Zv ((D : Int)) k2))), (1, (iV ((k : Nat) : Int)))]) Tryz.func10 rfl Tryz.ntmps10 (by simp) (yai rfl (h) (yai rfl (yb1 _) yar)) ?_
 intro a0 S0
 refine wq [.new (.box 26 (PR (Zv A k1) (Zv ((D : Int)) k2))), .new (.box 24 zI)] [.inl 0, .inl 1] [.inr 1] S0 ?_ ?_
 ·exact jj2 (bxA wA (oS 0 0) (yb6 (yau yah yah))) (nwA wA yak)
 intro _ a1 _ (S1 : Zt [_,_] [_])
 refine wq [V (PR (Zv A k1) (Zv ((D : Int)) k2)), Fw (ZN (N)) w, .new (.box 24 zI), .put (.inr 2) (.box 24 ((ZN (N)) w.heap.size))] [.inr 0, .inr 1, .inl 2] [.inr 0] S1 ?_ ?_
 ·exact jj4 (loA 0 wA yaq (yau yah yah)) (cc1 wA (qO 0 8 rfl) (yae _) (fun w u h1 => Gives.cast (ψ := (ZN (N))) (yfe hD hk1 hk2 w u h1) (by rw [eN]))) (nwA wA yak) (puA 2 wA (oO 1 9) yaa yao yad)
 intro _ a2 _ (S2 : Zt [_,_,_] [_])
 refine wq [Fw (ZN (N)) w, Fw (RN N 1) w, V (PR (Zv A k1) (Zv ((D : Int)) k2)), V (Is (.int .i64 (N * (D : Int) - A * ((1 : Nat) : Int)).sign)), kF, kF] ur3 [.inl 5, .inr 0] S2 ?_ ?_
 ·exact jj6 (loA 2 wA yaa yad) (cc1 wA (qO 0 10 rfl) (yb3 _ _) (fun w u h1 => ye2 (k := 8388608) (by omega) w u (yax hN _ _ h1))) (loA 0 wA yaq (yau yah yah)) (cc2 wA (qO 1 11 rfl) (qO 2 12 rfl) (yaf _) (fun w u v h1 h2 => yc7 (k1 := 8388608) (k2 := 1) (by decide) hD (by omega) (by omega) (by omega) (by omega) w u v (yfm hN ydc _ _ h1) h2)) (ya3 wA (oO 3 13) (yab _) (h := by rw [hs]; decide)) (mO 4 14)
 intro _ a3 _ (S3 : Zt [_,_,_] [_,_])
 refine wq [V (iV ((k : Nat) : Int)), V (iV ((k + 1 : Nat) : Int)), V (Is (.int .i64 (((k + 1) / 2 : Nat) : Int))), V (Is (.int .i64 (((k + 1) / 2 : Nat) : Int)))] ur3 (.inl 3 :: ur2) S3 ?_ ?_
 ·exact jj4 (mS 1 1) (ya7 wA (oO 0 15) (yab _)) (yay rfl wA rfl (oO 1 16) (yab _) rfl (fun ρ w h1 h2 => by exact ycb ρ _ _ _ w _ _ _ ⟨by omega, by omega, by omega, by omega⟩ h1 h2)) (mO 2 17)
 intro _ a4 _ (S4 : Zt [_,_,_] [_,_,_])
 refine wp_seq ?_
 refine wq [Fw (ZN (N)) w, Fw (RN N 1) w, V (PR (Zv A k1) (Zv ((D : Int)) k2)), V (Is (.int .i64 (N * (D : Int) - A * ((1 : Nat) : Int)).sign)), kF] [.inr 1, .inr 2] (.inl 4 :: ur3) S4 ?_ ?_
 ·exact jj5 (loA 2 wA yaa yad) (cc1 wA (qO 0 18 rfl) (yb3 _ _) (fun w u h1 => ye2 (k := 8388608) (by omega) w u (yax hN _ _ h1))) (loA 0 wA yaq (yau yah yah)) (cc2 wA (qO 1 19 rfl) (qO 2 20 rfl) (yaf _) (fun w u v h1 h2 => yc7 (k1 := 8388608) (k2 := 1) (by decide) hD (by omega) (by omega) (by omega) (by omega) w u v (yfm hN ydc _ _ h1) h2)) (ybf wA (oO 3 21) (yab _) (h := by rw [hs]; decide))
 intro _ a5 _ (S5 : Zt [_,_] [_,_,_,_])
 refine wp_cond_false (S5.bool 0 22 rfl) (wp_skip (thenN (wp_seq ?_)))
 refine wq [V (iV ((k : Nat) : Int)), V (iV ((k % 2 : Nat) : Int)), kT, kF, kT] ur2 [.inl 4, .inr 1] S5 ?_ ?_
 ·exact jj5 (mS 3 1) (yay rfl wA rfl (oO 0 23) (yab _) rfl (fun ρ w h1 h2 => by exact ybn ρ _ _ _ w _ _ _ ⟨by omega, by omega, by omega, by omega⟩ h1 h2)) (ybg wA (oO 1 24) (yab _)) (mS 2 6) (yay rfl wA rfl (oO 2 25) (oO 3 26) rfl (fun ρ w h1 h2 => by exact ycy ρ _ _ _ w true false h1 h2))
 intro _ a6 _ (S6 : Zt [_,_] [_,_])
 refine wp_cond_true (S6.bool 0 27 rfl) ?_
 refine wr [V (Is (.int .i64 (((k + 1) / 2 : Nat) : Int))), V (Is (.int .i64 (-(((k + 1) / 2 : Nat) : Int)))), V (Is (.int .i64 (-(((k + 1) / 2 : Nat) : Int))))] ur2 [.inl 2] S6 ?_ ?_
 ·exact jj3 (mS 1 7) (yox (x := .tmp 28) rfl wA rfl (oO 0 28) rfl (fun ρ w h1 => yf0 ρ _ _ w _ _ ⟨rfl, by omega, by omega⟩ h1)) (mO 1 29)
 intro _ a7 _ (S7 : Zt [_,_] [_])
 refine thenN ?_
 refine wq [Fw (ZN (N)) w, V (Is (.int .i64 (-(((k + 1) / 2 : Nat) : Int)))), Fw (ZN (-(((k + 1) / 2 : Nat) : Int))) w, Fw (ZN (N + (-(((k + 1) / 2 : Nat) : Int)))) w, .put (.inl 4) (.box 24 ((ZN (N + (-(((k + 1) / 2 : Nat) : Int)))) w.heap.size))] [.inr 0] [] S7 ?_ ?_
 ·exact jj5 (loA 1 wA yaa yad) (mS 0 7) (cc1 wA (qO 1 31 rfl) (yae _) (yki (-(((k + 1) / 2 : Nat) : Int)) (by omega) (by omega))) (cc2 wA (qO 0 30 rfl) (qO 2 32 rfl) (yae _) (fun w u v h1 h2 => yic (by omega) (by omega) w u v (yax hN _ _ h1) (yax dS _ _ h2))) (seA 0 wA (oO 3 33) yaa yao yad)
 intro _ a8 _ (S8 : Zt [_] [])
 refine wp_ret ?_
 exact yaz S8 rfl (yaw S8 0 4 rfl yaa yad)
theorem yu5 (w : World) (u : Value) (A N : Int) (D k1 k2 : Nat) (h : Hs w (Rv A (D : Int) k1 k2) u) (hk1 : k1 ≤ 1048577) (hk2 : k2 ≤ 1048577) (hD : D ≠ 0) (eN : nr A (D : Int) = N) (hN : (digs N.natAbs).length ≤ 8388608) (k : Nat) (hk : k ≤ 1073741824) (hc : A < N * (D : Int)) (ho : k % 2 = 0) :
  CG 10 #[u, .int .i64 ((k : Nat) : Int)] w (ZN (N + ((((k + 1) / 2 : Nat) : Int)))) := by
 have hs : (N * (D : Int) - A * ((1 : Nat) : Int)).sign = 1 := zes (by omega)
 have dS : (digs ((((k + 1) / 2 : Nat) : Int)).natAbs).length ≤ 1 := yam (by rw [zgk]; omega)
 refine yan (sl := [(0, (PR (Zv A k1) (Zv ((D : Int)) k2))), (1, (iV ((k : Nat) : Int)))]) Tryz.func10 rfl Tryz.ntmps10 (by simp) (yai rfl (h) (yai rfl (yb1 _) yar)) ?_
 intro a0 S0
 refine wq [.new (.box 26 (PR (Zv A k1) (Zv ((D : Int)) k2))), .new (.box 24 zI)] [.inl 0, .inl 1] [.inr 1] S0 ?_ ?_
 ·exact jj2 (bxA wA (oS 0 0) (yb6 (yau yah yah))) (nwA wA yak)
 intro _ a1 _ (S1 : Zt [_,_] [_])
 refine wq [V (PR (Zv A k1) (Zv ((D : Int)) k2)), Fw (ZN (N)) w, .new (.box 24 zI), .put (.inr 2) (.box 24 ((ZN (N)) w.heap.size))] [.inr 0, .inr 1, .inl 2] [.inr 0] S1 ?_ ?_
 ·exact jj4 (loA 0 wA yaq (yau yah yah)) (cc1 wA (qO 0 8 rfl) (yae _) (fun w u h1 => Gives.cast (ψ := (ZN (N))) (yfe hD hk1 hk2 w u h1) (by rw [eN]))) (nwA wA yak) (puA 2 wA (oO 1 9) yaa yao yad)
 intro _ a2 _ (S2 : Zt [_,_,_] [_])
 refine wq [Fw (ZN (N)) w, Fw (RN N 1) w, V (PR (Zv A k1) (Zv ((D : Int)) k2)), V (Is (.int .i64 (N * (D : Int) - A * ((1 : Nat) : Int)).sign)), kF, kF] ur3 [.inl 5, .inr 0] S2 ?_ ?_
 ·exact jj6 (loA 2 wA yaa yad) (cc1 wA (qO 0 10 rfl) (yb3 _ _) (fun w u h1 => ye2 (k := 8388608) (by omega) w u (yax hN _ _ h1))) (loA 0 wA yaq (yau yah yah)) (cc2 wA (qO 1 11 rfl) (qO 2 12 rfl) (yaf _) (fun w u v h1 h2 => yc7 (k1 := 8388608) (k2 := 1) (by decide) hD (by omega) (by omega) (by omega) (by omega) w u v (yfm hN ydc _ _ h1) h2)) (ya3 wA (oO 3 13) (yab _) (h := by rw [hs]; decide)) (mO 4 14)
 intro _ a3 _ (S3 : Zt [_,_,_] [_,_])
 refine wq [V (iV ((k : Nat) : Int)), V (iV ((k + 1 : Nat) : Int)), V (Is (.int .i64 (((k + 1) / 2 : Nat) : Int))), V (Is (.int .i64 (((k + 1) / 2 : Nat) : Int)))] ur3 (.inl 3 :: ur2) S3 ?_ ?_
 ·exact jj4 (mS 1 1) (ya7 wA (oO 0 15) (yab _)) (yay rfl wA rfl (oO 1 16) (yab _) rfl (fun ρ w h1 h2 => by exact ycb ρ _ _ _ w _ _ _ ⟨by omega, by omega, by omega, by omega⟩ h1 h2)) (mO 2 17)
 intro _ a4 _ (S4 : Zt [_,_,_] [_,_,_])
 refine wp_seq ?_
 refine wq [Fw (ZN (N)) w, Fw (RN N 1) w, V (PR (Zv A k1) (Zv ((D : Int)) k2)), V (Is (.int .i64 (N * (D : Int) - A * ((1 : Nat) : Int)).sign)), kF] [.inr 1, .inr 2] (.inl 4 :: ur3) S4 ?_ ?_
 ·exact jj5 (loA 2 wA yaa yad) (cc1 wA (qO 0 18 rfl) (yb3 _ _) (fun w u h1 => ye2 (k := 8388608) (by omega) w u (yax hN _ _ h1))) (loA 0 wA yaq (yau yah yah)) (cc2 wA (qO 1 19 rfl) (qO 2 20 rfl) (yaf _) (fun w u v h1 h2 => yc7 (k1 := 8388608) (k2 := 1) (by decide) hD (by omega) (by omega) (by omega) (by omega) w u v (yfm hN ydc _ _ h1) h2)) (ybf wA (oO 3 21) (yab _) (h := by rw [hs]; decide))
 intro _ a5 _ (S5 : Zt [_,_] [_,_,_,_])
 refine wp_cond_false (S5.bool 0 22 rfl) (wp_skip (thenN (wp_seq ?_)))
 refine wq [V (iV ((k : Nat) : Int)), V (iV ((k % 2 : Nat) : Int)), kF, kF, kF] ur2 [.inl 4, .inr 1] S5 ?_ ?_
 ·exact jj5 (mS 3 1) (yay rfl wA rfl (oO 0 23) (yab _) rfl (fun ρ w h1 h2 => by exact ybn ρ _ _ _ w _ _ _ ⟨by omega, by omega, by omega, by omega⟩ h1 h2)) (ybf wA (oO 1 24) (yab _)) (mS 2 6) (yay rfl wA rfl (oO 2 25) (oO 3 26) rfl (fun ρ w h1 h2 => by exact ycy ρ _ _ _ w false false h1 h2))
 intro _ a6 _ (S6 : Zt [_,_] [_,_])
 refine wp_cond_false (S6.bool 0 27 rfl) (wp_skip (thenN ?_))
 refine wq [Fw (ZN (N)) w, V (Is (.int .i64 (((k + 1) / 2 : Nat) : Int))), Fw (ZN ((((k + 1) / 2 : Nat) : Int))) w, Fw (ZN (N + ((((k + 1) / 2 : Nat) : Int)))) w, .put (.inl 4) (.box 24 ((ZN (N + ((((k + 1) / 2 : Nat) : Int)))) w.heap.size))] [.inr 0] [] S6 ?_ ?_
 ·exact jj5 (loA 1 wA yaa yad) (mS 1 7) (cc1 wA (qO 1 31 rfl) (yae _) (yki ((((k + 1) / 2 : Nat) : Int)) (by omega) (by omega))) (cc2 wA (qO 0 30 rfl) (qO 2 32 rfl) (yae _) (fun w u v h1 h2 => yic (by omega) (by omega) w u v (yax hN _ _ h1) (yax dS _ _ h2))) (seA 0 wA (oO 3 33) yaa yao yad)
 intro _ a7 _ (S7 : Zt [_] [])
 refine wp_ret ?_
 exact yaz S7 rfl (yaw S7 0 4 rfl yaa yad)
theorem zbi (w : World) (u : Value) (A N : Int) (D k1 k2 : Nat) (h : Hs w (Rv A (D : Int) k1 k2) u) (hk1 : k1 ≤ 1048577) (hk2 : k2 ≤ 1048577) (hD : D ≠ 0) (eN : nr A (D : Int) = N) (hN : (digs N.natAbs).length ≤ 8388608) (k : Nat) (hk : k ≤ 1073741824) (up : Bool) (hu : (up = true ∧ N * (D : Int) ≤ A) ∨ (up = false ∧ A < N * (D : Int))) : CG 10 #[u, .int .i64 ((k : Nat) : Int)] w (ZN (zgN N up k)) := by
 have e : k / 2 + k % 2 = (k + 1) / 2 := by omega
 rcases hu with ⟨rfl, hu⟩ | ⟨rfl, hu⟩
 ·rcases zg6 k with ho | ho
  ·rw [show zgN N true k = N + -(((k + 1) / 2 : Nat) : Int) by unfold zgN; rw [e, ho, if_neg (by decide)]; exact zhd]
   rcases Int.lt_or_eq_of_le hu with hc | hc
   ·exact yu7 w u A N D k1 k2 h hk1 hk2 hD eN hN k hk hc ho
   ·exact yu3 w u A N D k1 k2 h hk1 hk2 hD eN hN k hk hc ho
  ·rw [show zgN N true k = N + (((k + 1) / 2 : Nat) : Int) by unfold zgN; rw [e, ho, if_pos (by decide)]]
   rcases Int.lt_or_eq_of_le hu with hc | hc
   ·exact yu8 w u A N D k1 k2 h hk1 hk2 hD eN hN k hk hc ho
   ·exact yu4 w u A N D k1 k2 h hk1 hk2 hD eN hN k hk hc ho
 ·rcases zg6 k with ho | ho
  ·rw [show zgN N false k = N + (((k + 1) / 2 : Nat) : Int) by unfold zgN; rw [e, ho, if_pos (by decide)]]
   exact yu5 w u A N D k1 k2 h hk1 hk2 hD eN hN k hk hu ho
  ·rw [show zgN N false k = N + -(((k + 1) / 2 : Nat) : Int) by unfold zgN; rw [e, ho, if_neg (by decide)]; exact zhd]
   exact yu6 w u A N D k1 k2 h hk1 hk2 hD eN hN k hk hu ho
theorem zc6 (w : World) (u : Value) (A D0 : Int) (K : Nat) (h : Hs w (Rv A D0 K K) u) (hK : K ≤ 1048576) (hp : D0 ≤ 0) (k : Int) :
  CG 6 #[u, .int .i64 k] w (TWO (IS (.agg #[.bool false, .slice none 0 0])) (IS (.int .i64 30))) := by
 refine yan (sl := [(0, (PR (Zv A K) (Zv D0 K))), (1, (iV k))]) Tryz.func6 rfl Tryz.ntmps6 (by simp) (yai rfl (h) (yai rfl (yb1 _) yar)) ?_
 intro a0 S0
 refine wq [.new (.box 26 (PR (Zv A K) (Zv D0 K))), .new (.box 24 zI), V (iV 0)] [.inl 0, .inl 1] [.inr 1] S0 ?_ ?_
 ·exact jj3 (bxA wA (oS 0 0) (yb6 (yau yah yah))) (nwA wA yak) mC
 intro _ a1 _ (S1 : Zt [_,_] [_])
 refine wp_seq (wp_block ?_)
 refine wq [V (PR (Zv A K) (Zv D0 K)), V (Sng 26 4 (PR (Zv A K) (Zv D0 K)) w.heap.size), kF, kT, kT] ur2 [.inl 4, .inr 0] S1 ?_ ?_
 ·exact jj5 (loA 0 wA yaq (yau yah yah)) (ygl rfl wA rfl yfd (oO 0 7) (ybd (by decide) (yau yah yah)) rfl) (ch1 wA ((qO 1 8 rfl).imp yha) (yaf _) (fun w u h => zaw w u 1 K [(A, D0)] h (by omega) (by omega) rfl 0 (by omega) (fun i hi => absurd hi (by omega)) hp)) (yfl wA (oO 2 9)) (mO 3 10)
 intro _ a2 _ (S2 : Zt [_,_] [_,_])
 refine wp_cond_true (S2.bool 0 6 rfl) ?_
 refine wq [.val zI, .put (.inl 4) (.box 24 zI), V (iV 30)] [.inr 1] [.inl 2] S2 ?_ ?_
 ·exact jj3 (ybm rfl wA rfl rfl) (seA 1 wA (oO 0 11) yaa yao yao) mC
 intro _ a3 _ (S3 : Zt [_] [_])
 refine wp_ret (inBlkR (thenR ?_))
 exact ycv S3 rfl (yaw S3 0 4 rfl yaa yao) (ya8 S3 0 5 rfl)
theorem zc8 (w : World) (u : Value) (A D0 : Int) (K : Nat) (h : Hs w (Rv A D0 K K) u) (hK : K ≤ 1048576) (hp : 0 < D0) (k : Int) (hk : k < 0) :
  CG 6 #[u, .int .i64 k] w (TWO (IS (.agg #[.bool false, .slice none 0 0])) (IS (.int .i64 1))) := by
 refine yan (sl := [(0, (PR (Zv A K) (Zv D0 K))), (1, (iV k))]) Tryz.func6 rfl Tryz.ntmps6 (by simp) (yai rfl (h) (yai rfl (yb1 _) yar)) ?_
 intro a0 S0
 refine wq [.new (.box 26 (PR (Zv A K) (Zv D0 K))), .new (.box 24 zI), V (iV 0)] [.inl 0, .inl 1] [.inr 1] S0 ?_ ?_
 ·exact jj3 (bxA wA (oS 0 0) (yb6 (yau yah yah))) (nwA wA yak) mC
 intro _ a1 _ (S1 : Zt [_,_] [_])
 refine wp_seq (wp_block ?_)
 refine wq [V (PR (Zv A K) (Zv D0 K)), V (Sng 26 4 (PR (Zv A K) (Zv D0 K)) w.heap.size), kT, kF, kF] ur2 [.inl 4, .inr 0] S1 ?_ ?_
 ·exact jj5 (loA 0 wA yaq (yau yah yah)) (ygl rfl wA rfl yfd (oO 0 7) (ybd (by decide) (yau yah yah)) rfl) (ch1 wA ((qO 1 8 rfl).imp yha) (yaf _) (fun w u h => yij w u 1 K [(A, D0)] h (by omega) (by omega) rfl (yl6 hp))) (yfl wA (oO 2 9)) (mO 3 10)
 intro _ a2 _ (S2 : Zt [_,_] [_,_])
 refine wp_cond_false (S2.bool 0 6 rfl) ?_
 refine wq [V (iV k), kT, kT, .off, .off, kT, kT] ur2 [.inl 6, .inr 1] S2 ?_ ?_
 ·repeat' refine And.intro ?_ ?_
  ·trivial
  ·exact mS 1 1
  ·exact ybh wA (oO 0 13) (yab _) (h := hk)
  ·exact mO 1 14
  ·exact oF 2 15
  ·exact oF 2 15
  ·exact pT wA (oO 2 15) (yab _)
  ·exact mO 5 18
 intro _ a3 _ (S3 : Zt [_,_] [_,_])
 refine wp_cond_true (S3.bool 0 12 rfl) ?_
 refine wq [.val zI, .put (.inl 4) (.box 24 zI), V (iV 1)] [.inr 1] [.inl 2] S3 ?_ ?_
 ·exact jj3 (ybm rfl wA rfl rfl) (seA 1 wA (oO 0 19) yaa yao yao) mC
 intro _ a4 _ (S4 : Zt [_] [_])
 refine wp_ret (inBlkR (thenR ?_))
 exact ycv S4 rfl (yaw S4 0 4 rfl yaa yao) (ya8 S4 0 5 rfl)
theorem zc7 (w : World) (u : Value) (A D0 : Int) (K : Nat) (h : Hs w (Rv A D0 K K) u) (hK : K ≤ 1048576) (hp : 0 < D0) (k : Int) (hk : 1073741824 < k) :
  CG 6 #[u, .int .i64 k] w (TWO (IS (.agg #[.bool false, .slice none 0 0])) (IS (.int .i64 1))) := by
 refine yan (sl := [(0, (PR (Zv A K) (Zv D0 K))), (1, (iV k))]) Tryz.func6 rfl Tryz.ntmps6 (by simp) (yai rfl (h) (yai rfl (yb1 _) yar)) ?_
 intro a0 S0
 refine wq [.new (.box 26 (PR (Zv A K) (Zv D0 K))), .new (.box 24 zI), V (iV 0)] [.inl 0, .inl 1] [.inr 1] S0 ?_ ?_
 ·exact jj3 (bxA wA (oS 0 0) (yb6 (yau yah yah))) (nwA wA yak) mC
 intro _ a1 _ (S1 : Zt [_,_] [_])
 refine wp_seq (wp_block ?_)
 refine wq [V (PR (Zv A K) (Zv D0 K)), V (Sng 26 4 (PR (Zv A K) (Zv D0 K)) w.heap.size), kT, kF, kF] ur2 [.inl 4, .inr 0] S1 ?_ ?_
 ·exact jj5 (loA 0 wA yaq (yau yah yah)) (ygl rfl wA rfl yfd (oO 0 7) (ybd (by decide) (yau yah yah)) rfl) (ch1 wA ((qO 1 8 rfl).imp yha) (yaf _) (fun w u h => yij w u 1 K [(A, D0)] h (by omega) (by omega) rfl (yl6 hp))) (yfl wA (oO 2 9)) (mO 3 10)
 intro _ a2 _ (S2 : Zt [_,_] [_,_])
 refine wp_cond_false (S2.bool 0 6 rfl) ?_
 refine wq [V (iV k), kF, kF, V (iV k), kT, kT, kT] ur2 [.inl 6, .inr 1] S2 ?_ ?_
 ·repeat' refine And.intro ?_ ?_
  ·trivial
  ·exact mS 1 1
  ·exact ya3 wA (oO 0 13) (yab _)
  ·exact mO 1 14
  ·exact mW (wI 2 15) (oS 1 1)
  ·exact ydz (wI 2 15) (oO 3 16) (yab _) (h := hk)
  ·exact pF wA (oO 2 15) (oO 4 17)
  ·exact mO 5 18
 intro _ a3 _ (S3 : Zt [_,_] [_,_])
 refine wp_cond_true (S3.bool 0 12 rfl) ?_
 refine wq [.val zI, .put (.inl 4) (.box 24 zI), V (iV 1)] [.inr 1] [.inl 2] S3 ?_ ?_
 ·exact jj3 (ybm rfl wA rfl rfl) (seA 1 wA (oO 0 19) yaa yao yao) mC
 intro _ a4 _ (S4 : Zt [_] [_])
 refine wp_ret (inBlkR (thenR ?_))
 exact ycv S4 rfl (yaw S4 0 4 rfl yaa yao) (ya8 S4 0 5 rfl)
theorem zdt (w : World) (u : Value) (A N : Int) (D k1 k2 : Nat) (h : Hs w (Rv A (D : Int) k1 k2) u) (hk1 : k1 ≤ 8388608) (hk2 : k2 ≤ 8388608) (hD : D ≠ 0) (eN : nr A (D : Int) = N) (hN : (digs N.natAbs).length ≤ 8388608) (up : Bool) (hu : (up = true ∧ N * (D : Int) ≤ A) ∨ (up = false ∧ A < N * (D : Int))) : CG 27 #[u] w (ZGN (ZN N) (IS (.bool up))) := by
 rcases hu with ⟨rfl, hu⟩ | ⟨rfl, hu⟩
 ·exact zch w u A N D k1 k2 h hk1 hk2 hD eN hN hu
 ·exact zds w u A N D k1 k2 h hk1 hk2 hD eN hN hu
theorem zc9 (w : World) (u : Value) (A N : Int) (D K : Nat) (h : Hs w (Rv A (D : Int) K K) u) (hK : K ≤ 1048576) (hD : D ≠ 0) (eN : nr A (D : Int) = N) (hN : (digs N.natAbs).length ≤ 8388608) (k : Nat) (hk : k ≤ 1073741824) (up : Bool) (hu : (up = true ∧ N * (D : Int) ≤ A) ∨ (up = false ∧ A < N * (D : Int))) :
  CG 6 #[u, .int .i64 ((k : Nat) : Int)] w (TWO (ZN (zgN N up k)) (IS (.int .i64 0))) := by
 refine yan (sl := [(0, (PR (Zv A K) (Zv ((D : Int)) K))), (1, (iV ((k : Nat) : Int)))]) Tryz.func6 rfl Tryz.ntmps6 (by simp) (yai rfl (h) (yai rfl (yb1 _) yar)) ?_
 intro a0 S0
 refine wq [.new (.box 26 (PR (Zv A K) (Zv ((D : Int)) K))), .new (.box 24 zI), V (iV 0)] [.inl 0, .inl 1] [.inr 1] S0 ?_ ?_
 ·exact jj3 (bxA wA (oS 0 0) (yb6 (yau yah yah))) (nwA wA yak) mC
 intro _ a1 _ (S1 : Zt [_,_] [_])
 refine wp_seq (wp_block ?_)
 refine wq [V (PR (Zv A K) (Zv ((D : Int)) K)), V (Sng 26 4 (PR (Zv A K) (Zv ((D : Int)) K)) w.heap.size), kT, kF, kF] ur2 [.inl 4, .inr 0] S1 ?_ ?_
 ·exact jj5 (loA 0 wA yaq (yau yah yah)) (ygl rfl wA rfl yfd (oO 0 7) (ybd (by decide) (yau yah yah)) rfl) (ch1 wA ((qO 1 8 rfl).imp yha) (yaf _) (fun w u h => yij w u 1 K [(A, (D : Int))] h (by omega) (by omega) rfl (yl6 (by omega)))) (yfl wA (oO 2 9)) (mO 3 10)
 intro _ a2 _ (S2 : Zt [_,_] [_,_])
 refine wp_cond_false (S2.bool 0 6 rfl) ?_
 refine wq [V (iV ((k : Nat) : Int)), kF, kF, V (iV ((k : Nat) : Int)), kF, kF, kF] ur2 [.inl 6, .inr 1] S2 ?_ ?_
 ·repeat' refine And.intro ?_ ?_
  ·trivial
  ·exact mS 1 1
  ·exact ya3 wA (oO 0 13) (yab _)
  ·exact mO 1 14
  ·exact mW (wI 2 15) (oS 1 1)
  ·exact ycj (wI 2 15) (oO 3 16) (yab _)
  ·exact pF wA (oO 2 15) (oO 4 17)
  ·exact mO 5 18
 intro _ a3 _ (S3 : Zt [_,_] [_,_])
 refine wp_cond_false (S3.bool 0 12 rfl) (wp_skip (inBlkN (thenN ?_)))
 refine wq [V (PR (Zv A K) (Zv ((D : Int)) K)), V (ZG ((ZN (N)) w.heap.size) (Is (.bool up))), V (iV ((k : Nat) : Int)), Fw (ZN (zgN N up k)) w, .put (.inl 4) (.box 24 ((ZN (zgN N up k)) w.heap.size)), V (iV 0)] [.inr 1] [.inl 5] S3 ?_ ?_
 ·exact jj6 (loA 0 wA yaq (yau yah yah)) (ch1 wA (qO 0 20 rfl) (yge (yae _) (yaf _)) (fun w u h1 => zdt w u A N D K K h1 (by omega) (by omega) hD eN hN up hu)) (mS 1 1) (ch2 wA ((qO 1 21 rfl).imp (yw9 hN)) (qO 2 22 rfl) (yae _) (fun w u v h1 h2 => zat w u v N 8388608 up k h1 h2 (by omega) hk)) (seA 1 wA (oO 3 23) yaa yao yad) mC
 intro _ a4 _ (S4 : Zt [_] [_])
 refine wp_ret ?_
 exact ycv S4 rfl (yaw S4 0 4 rfl yaa yad) (ya8 S4 0 5 rfl)
theorem tz_b (w : World) (u : Value) (A D0 : Int) (K : Nat) (h : Hs w (Rv A D0 K K) u) (hK : K ≤ 1048576) (hp : D0 ≤ 0) (hv : decide (0 < D0.sign) = false) (k : Int) :
  CG 3 #[u, .int .i64 k] w (IS (.bool true)) := by
 refine yan (sl := [(0, (PR (Zv A K) (Zv D0 K))), (1, (iV k))]) Tryz.func3 rfl Tryz.ntmps3 (by simp) (yai rfl (h) (yai rfl (yb1 _) yar)) ?_
 intro a0 S0
 refine wq [.new (.box 26 (PR (Zv A K) (Zv D0 K))), kF] [.inl 0] [.inr 1] S0 ?_ ?_
 ·exact jj2 (bxA wA (oS 0 0) (yb6 (yau yah yah))) mC
 intro _ a1 _ (S1 : Zt [_] [_])
 refine wq [V (PR (Zv A K) (Zv D0 K)), V (iV k), Fw (TWO (IS (.agg #[.bool false, .slice none 0 0])) (IS (.int .i64 30))) w, Fw (TWO (IS (.agg #[.bool false, .slice none 0 0])) (IS (.int .i64 30))) w, .val zI, V (iV 30), .new (.box 24 zI), .put (.inr 6) (.box 24 zI), V (iV 30)] [.inr 0, .inl 6] [.inl 8, .inr 0] S1 ?_ ?_
 ·exact ⟨jj8 (loA 0 wA yaq (yau yah yah)) (mS 0 1) (ch2 wA (qO 0 8 rfl) (qO 1 9 rfl) (ybl (yaf _) (yaf _)) (fun w u v h1 h2 => by obtain rfl : v = _ := h2.now; exact zc6 w u A D0 K h1 hK hp k)) (mO 2 10) (e20 wA (oO 3 7)) (e21 wA (oO 3 7)) (nwA wA yak) (puA 6 wA (oO 4 11) yaa yao yao), mO 5 12⟩
 intro _ a2 _ (S2 : Zt [_,_] [_,_])
 refine wp_seq ?_
 refine wq [V (PR (Zv A K) (Zv D0 K)), kF, kT] ur2 (.inl 2 :: ur2) S2 ?_ ?_
 ·exact jj3 (loA 0 wA yaq (yau yah yah)) (cc1 wA (qO 0 13 rfl) (yaf _) (fun w u h1 => Gives.cast (ψ := IS (.bool false)) (yhs (by omega) (by omega) w u h1) (by rw [hv]))) (yfl wA (oO 1 14))
 intro _ a3 _ (S3 : Zt [_,_] [_,_,_])
 refine wp_cond_true (S3.bool 0 15 rfl) ?_
 refine wq [V (iV 30), kT, kT, .val zI, .val zI, kT, kT, kT, kT, kT, kT] [] [.inl 10] S3 ?_ ?_
 ·exact ⟨⟨⟨jj8 (mS 1 6) (yci wA (oO 0 16) (yab _) (h := rfl)) (mO 1 17) (loA 1 (wI 2 18) yaa yao) (ybm rfl (wI 2 18) rfl rfl) (ch2 (wI 2 18) ((qO 3 19 rfl).imp yhe) ((qO 4 20 rfl).imp yhe) (yaf _) (fun w u v h1 h2 => h_eq w u v h1.now h2.now)) (pT wA (oO 2 18) (oO 5 21)) (mO 6 22), yd3 rfl (wI 7 23) rfl  (yaf _) rfl (fun args w => by go_simp) (fun w => yvk w)⟩, pT wA (oO 7 23) (oO 8 24)⟩, mO 9 25⟩
 intro _ a4 _ (S4 : Zt [] [_])
 refine wp_ret (thenR ?_)
 exact yaz S4 rfl (ya8 S4 0 4 rfl)
theorem tz_n (w : World) (u : Value) (A D0 : Int) (K : Nat) (h : Hs w (Rv A D0 K K) u) (hK : K ≤ 1048576) (hp : 0 < D0) (hv : decide (0 < D0.sign) = true) (k : Int) (hk : k < 0) :
  CG 3 #[u, .int .i64 k] w (IS (.bool true)) := by
 refine yan (sl := [(0, (PR (Zv A K) (Zv D0 K))), (1, (iV k))]) Tryz.func3 rfl Tryz.ntmps3 (by simp) (yai rfl (h) (yai rfl (yb1 _) yar)) ?_
 intro a0 S0
 refine wq [.new (.box 26 (PR (Zv A K) (Zv D0 K))), kF] [.inl 0] [.inr 1] S0 ?_ ?_
 ·exact jj2 (bxA wA (oS 0 0) (yb6 (yau yah yah))) mC
 intro _ a1 _ (S1 : Zt [_] [_])
 refine wq [V (PR (Zv A K) (Zv D0 K)), V (iV k), Fw (TWO (IS (.agg #[.bool false, .slice none 0 0])) (IS (.int .i64 1))) w, Fw (TWO (IS (.agg #[.bool false, .slice none 0 0])) (IS (.int .i64 1))) w, .val zI, V (iV 1), .new (.box 24 zI), .put (.inr 6) (.box 24 zI), V (iV 1)] [.inr 0, .inl 6] [.inl 8, .inr 0] S1 ?_ ?_
 ·exact ⟨jj8 (loA 0 wA yaq (yau yah yah)) (mS 0 1) (ch2 wA (qO 0 8 rfl) (qO 1 9 rfl) (ybl (yaf _) (yaf _)) (fun w u v h1 h2 => by obtain rfl : v = _ := h2.now; exact zc8 w u A D0 K h1 hK hp k hk)) (mO 2 10) (e20 wA (oO 3 7)) (e21 wA (oO 3 7)) (nwA wA yak) (puA 6 wA (oO 4 11) yaa yao yao), mO 5 12⟩
 intro _ a2 _ (S2 : Zt [_,_] [_,_])
 refine wp_seq ?_
 refine wq [V (PR (Zv A K) (Zv D0 K)), kT, kF] ur2 (.inl 2 :: ur2) S2 ?_ ?_
 ·exact jj3 (loA 0 wA yaq (yau yah yah)) (cc1 wA (qO 0 13 rfl) (yaf _) (fun w u h1 => Gives.cast (ψ := IS (.bool true)) (yhs (by omega) (by omega) w u h1) (by rw [hv]))) (yfl wA (oO 1 14))
 intro _ a3 _ (S3 : Zt [_,_] [_,_,_])
 refine wp_cond_false (S3.bool 0 15 rfl) (wp_skip (thenN (wp_seq ?_)))
 refine wq [V (iV k), kT, kT, .off, .off, kT] ur2 [.inl 5, .inr 1, .inr 2] S3 ?_ ?_
 ·exact jj6 (mS 2 1) (ybh wA (oO 0 26) (yab _) (h := hk)) (mO 1 27) (oF 2 28) (oF 2 28) (pT wA (oO 2 28) (yab _))
 intro _ a4 _ (S4 : Zt [_,_] [_,_,_])
 refine wp_cond_true (S4.bool 0 31 rfl) ?_
 refine wq [V (iV 1), kT, kT, .val zI, .val zI, kT, kT, kT, kT, kT, kT] [] [.inl 10] S4 ?_ ?_
 ·exact ⟨⟨⟨jj8 (mS 1 6) (yci wA (oO 0 32) (yab _) (h := rfl)) (mO 1 33) (loA 1 (wI 2 34) yaa yao) (ybm rfl (wI 2 34) rfl rfl) (ch2 (wI 2 34) ((qO 3 35 rfl).imp yhe) ((qO 4 36 rfl).imp yhe) (yaf _) (fun w u v h1 h2 => h_eq w u v h1.now h2.now)) (pT wA (oO 2 34) (oO 5 37)) (mO 6 38), yd3 rfl (wI 7 39) rfl  (yaf _) rfl (fun args w => by go_simp) (fun w => yvk w)⟩, pT wA (oO 7 39) (oO 8 40)⟩, mO 9 41⟩
 intro _ a5 _ (S5 : Zt [] [_])
 refine wp_ret (thenR ?_)
 exact yaz S5 rfl (ya8 S5 0 4 rfl)
theorem tz_m (w : World) (u : Value) (A D0 : Int) (K : Nat) (h : Hs w (Rv A D0 K K) u) (hK : K ≤ 1048576) (hp : 0 < D0) (hv : decide (0 < D0.sign) = true) (k : Int) (hk : 1073741824 < k) :
  CG 3 #[u, .int .i64 k] w (IS (.bool true)) := by
 refine yan (sl := [(0, (PR (Zv A K) (Zv D0 K))), (1, (iV k))]) Tryz.func3 rfl Tryz.ntmps3 (by simp) (yai rfl (h) (yai rfl (yb1 _) yar)) ?_
 intro a0 S0
 refine wq [.new (.box 26 (PR (Zv A K) (Zv D0 K))), kF] [.inl 0] [.inr 1] S0 ?_ ?_
 ·exact jj2 (bxA wA (oS 0 0) (yb6 (yau yah yah))) mC
 intro _ a1 _ (S1 : Zt [_] [_])
 refine wq [V (PR (Zv A K) (Zv D0 K)), V (iV k), Fw (TWO (IS (.agg #[.bool false, .slice none 0 0])) (IS (.int .i64 1))) w, Fw (TWO (IS (.agg #[.bool false, .slice none 0 0])) (IS (.int .i64 1))) w, .val zI, V (iV 1), .new (.box 24 zI), .put (.inr 6) (.box 24 zI), V (iV 1)] [.inr 0, .inl 6] [.inl 8, .inr 0] S1 ?_ ?_
 ·exact ⟨jj8 (loA 0 wA yaq (yau yah yah)) (mS 0 1) (ch2 wA (qO 0 8 rfl) (qO 1 9 rfl) (ybl (yaf _) (yaf _)) (fun w u v h1 h2 => by obtain rfl : v = _ := h2.now; exact zc7 w u A D0 K h1 hK hp k hk)) (mO 2 10) (e20 wA (oO 3 7)) (e21 wA (oO 3 7)) (nwA wA yak) (puA 6 wA (oO 4 11) yaa yao yao), mO 5 12⟩
 intro _ a2 _ (S2 : Zt [_,_] [_,_])
 refine wp_seq ?_
 refine wq [V (PR (Zv A K) (Zv D0 K)), kT, kF] ur2 (.inl 2 :: ur2) S2 ?_ ?_
 ·exact jj3 (loA 0 wA yaq (yau yah yah)) (cc1 wA (qO 0 13 rfl) (yaf _) (fun w u h1 => Gives.cast (ψ := IS (.bool true)) (yhs (by omega) (by omega) w u h1) (by rw [hv]))) (yfl wA (oO 1 14))
 intro _ a3 _ (S3 : Zt [_,_] [_,_,_])
 refine wp_cond_false (S3.bool 0 15 rfl) (wp_skip (thenN (wp_seq ?_)))
 refine wq [V (iV k), kF, kF, V (iV k), kT, kT] ur2 [.inl 5, .inr 1, .inr 2] S3 ?_ ?_
 ·exact jj6 (mS 2 1) (ya3 wA (oO 0 26) (yab _)) (mO 1 27) (mW (wI 2 28) (oS 2 1)) (ydz (wI 2 28) (oO 3 29) (yab _) (h := hk)) (pF wA (oO 2 28) (oO 4 30))
 intro _ a4 _ (S4 : Zt [_,_] [_,_,_])
 refine wp_cond_true (S4.bool 0 31 rfl) ?_
 refine wq [V (iV 1), kT, kT, .val zI, .val zI, kT, kT, kT, kT, kT, kT] [] [.inl 10] S4 ?_ ?_
 ·exact ⟨⟨⟨jj8 (mS 1 6) (yci wA (oO 0 32) (yab _) (h := rfl)) (mO 1 33) (loA 1 (wI 2 34) yaa yao) (ybm rfl (wI 2 34) rfl rfl) (ch2 (wI 2 34) ((qO 3 35 rfl).imp yhe) ((qO 4 36 rfl).imp yhe) (yaf _) (fun w u v h1 h2 => h_eq w u v h1.now h2.now)) (pT wA (oO 2 34) (oO 5 37)) (mO 6 38), yd3 rfl (wI 7 39) rfl  (yaf _) rfl (fun args w => by go_simp) (fun w => yvk w)⟩, pT wA (oO 7 39) (oO 8 40)⟩, mO 9 41⟩
 intro _ a5 _ (S5 : Zt [] [_])
 refine wp_ret (thenR ?_)
 exact yaz S5 rfl (ya8 S5 0 4 rfl)
theorem tz_g (w : World) (u : Value) (A N : Int) (D K : Nat) (h : Hs w (Rv A (D : Int) K K) u) (hK : K ≤ 1048576) (hD : D ≠ 0) (eN : nr A (D : Int) = N) (hN : (digs N.natAbs).length ≤ 8388608) (k : Nat) (hk : k ≤ 1073741824) (up : Bool) (hu : (up = true ∧ N * (D : Int) ≤ A) ∨ (up = false ∧ A < N * (D : Int))) (hv : decide (0 < ((D : Nat) : Int).sign) = true) :
  CG 3 #[u, .int .i64 ((k : Nat) : Int)] w (IS (.bool true)) := by
 refine yan (sl := [(0, (PR (Zv A K) (Zv ((D : Int)) K))), (1, (iV ((k : Nat) : Int)))]) Tryz.func3 rfl Tryz.ntmps3 (by simp) (yai rfl (h) (yai rfl (yb1 _) yar)) ?_
 intro a0 S0
 refine wq [.new (.box 26 (PR (Zv A K) (Zv ((D : Int)) K))), kF] [.inl 0] [.inr 1] S0 ?_ ?_
 ·exact jj2 (bxA wA (oS 0 0) (yb6 (yau yah yah))) mC
 intro _ a1 _ (S1 : Zt [_] [_])
 refine wq [V (PR (Zv A K) (Zv ((D : Int)) K)), V (iV ((k : Nat) : Int)), Fw (TWO (ZN (zgN N up k)) (IS (.int .i64 0))) w, Fw (TWO (ZN (zgN N up k)) (IS (.int .i64 0))) w, Fw (ZN (zgN N up k)) w, V (iV 0), .new (.box 24 zI), .put (.inr 6) (.box 24 ((ZN (zgN N up k)) w.heap.size)), V (iV 0)] [.inr 0, .inl 6] [.inl 8, .inr 0] S1 ?_ ?_
 ·exact ⟨jj8 (loA 0 wA yaq (yau yah yah)) (mS 0 1) (ch2 wA (qO 0 8 rfl) (qO 1 9 rfl) (ybl (yae _) (yaf _)) (fun w u v h1 h2 => by obtain rfl : v = _ := h2.now; exact zc9 w u A N D K h1 hK hD eN hN k hk up hu)) (mO 2 10) (e20 wA (oO 3 7)) (e21 wA (oO 3 7)) (nwA wA yak) (puA 6 wA (oO 4 11) yaa yao yad), mO 5 12⟩
 intro _ a2 _ (S2 : Zt [_,_] [_,_])
 refine wp_seq ?_
 refine wq [V (PR (Zv A K) (Zv ((D : Int)) K)), kT, kF] ur2 (.inl 2 :: ur2) S2 ?_ ?_
 ·exact jj3 (loA 0 wA yaq (yau yah yah)) (cc1 wA (qO 0 13 rfl) (yaf _) (fun w u h1 => Gives.cast (ψ := IS (.bool true)) (yhs (by omega) (by omega) w u h1) (by rw [hv]))) (yfl wA (oO 1 14))
 intro _ a3 _ (S3 : Zt [_,_] [_,_,_])
 refine wp_cond_false (S3.bool 0 15 rfl) (wp_skip (thenN (wp_seq ?_)))
 refine wq [V (iV ((k : Nat) : Int)), kF, kF, V (iV ((k : Nat) : Int)), kF, kF] ur2 [.inl 5, .inr 1, .inr 2] S3 ?_ ?_
 ·exact jj6 (mS 2 1) (ya3 wA (oO 0 26) (yab _)) (mO 1 27) (mW (wI 2 28) (oS 2 1)) (ycj (wI 2 28) (oO 3 29) (yab _)) (pF wA (oO 2 28) (oO 4 30))
 intro _ a4 _ (S4 : Zt [_,_] [_,_,_])
 refine wp_cond_false (S4.bool 0 31 rfl) (wp_skip (thenN ?_))
 refine wq [V (iV 0), kT, kT, Fw (ZN (zgN N up k)) w, V (PR (Zv A K) (Zv ((D : Int)) K)), V (iV ((k : Nat) : Int)), Fw (ZN (zgN N up k)) w, kT, kT, kT, kT, kT, kT] [] [.inl 12] S4 ?_ ?_
 ·exact ⟨⟨⟨⟨⟨jj8 (mS 1 6) (yci wA (oO 0 42) (yab _) (h := rfl)) (mO 1 43) (loA 1 (wI 2 44) yaa yad) (loA 0 (wI 2 44) yaq (yau yah yah)) (mW (wI 2 44) (oS 2 1)) (ch2 (wI 2 44) (qO 4 46 rfl) (qO 5 47 rfl) (yae _) (fun w u v h1 h2 => by obtain rfl : v = _ := h2.now; exact zbi w u A N D K K h1 (by omega) (by omega) hD eN hN k hk up hu)) (ch2 (wI 2 44) ((qO 3 45 rfl).imp ytq) ((qO 6 48 rfl).imp ytq) (yaf _) (fun w u v h1 h2 => h_eq w u v h1.now h2.now)), pT wA (oO 2 44) (oO 7 49)⟩, mO 8 50⟩, yd3 rfl (wI 9 51) rfl  (yaf _) rfl (fun args w => by go_simp) (fun w => yvk w)⟩, pT wA (oO 9 51) (oO 10 52)⟩, mO 11 53⟩
 intro _ a5 _ (S5 : Zt [] [_])
 refine wp_ret ?_
 exact yaz S5 rfl (ya8 S5 0 4 rfl)
theorem za6 {A : Int} {D K : Nat} (hD : D ≠ 0) (hA : (digs A.natAbs).length ≤ K) (hd : (digs ((D : Int)).natAbs).length ≤ K) : (digs (nr A (D : Int)).natAbs).length ≤ K + 3 := by
 unfold nr
 have h1 : (digs (A + A).natAbs).length ≤ K + 1 := yh8 hA hA
 have h2 : (digs ((A + A) + (D : Int)).natAbs).length ≤ K + 2 := yh8 h1 (zdv hd (by omega))
 rw [show 2 * A + (D : Int) = (A + A) + (D : Int) by omega]
 exact yib (by omega) h2
theorem yxe {A : Int} {k : Nat} {u : Value} {w : World} (h : Zv A k u w) : (digs A.natAbs).length ≤ k := by
 obtain ⟨s, p, n, c, xs, rfl, h1, rfl, h2⟩ := h
 exact zdv (yf1 h1) h2
theorem yyq {A E : Int} {K : Nat} {s t : Bool} {p q : Option Addr} {n c m d : Nat} {xs ys : List Nat} {w : World} (h : Sl w p n c xs) (g : Sl w q m d ys) (eA : sg s (val xs) = A) (eE : sg t (val ys) = E) (hn : n ≤ K) (hm : m ≤ K) : Hs w (Rv A E K K) (.agg #[.bool s, .slice p n c, .bool t, .slice q m d]) := fun w' e => by
 have h' := ymu h (fun _ _ _ _ h => h) e
 have g' := ymu g (fun _ _ _ _ h => h) e
 exact ⟨_, _, _, _, rfl, ⟨s, p, n, c, xs, rfl, h', eA, hn⟩, ⟨t, q, m, d, ys, rfl, g', eE, hm⟩⟩
theorem yi4 (w : World) (s1 : Bool) (p1 : Option Addr) (n1 c1 : Nat) (xs1 : List Nat) (t1 : Bool) (q1 : Option Addr) (m1 d1 : Nat) (ys1 : List Nat) (k : Int)
  (h1 : Sl w p1 n1 c1 xs1) (g1 : Sl w q1 m1 d1 ys1) (b1 : c1 ≤ 1048576) (b2 : d1 ≤ 1048576) (_ : -9223372036854775808 ≤ k ∧ k ≤ 9223372036854775807) :
  Calls Tryz.prog 3 #[.agg #[.bool s1, .slice p1 n1 c1, .bool t1, .slice q1 m1 d1], .int .i64 k] w fun e w' => e = .returned (.bool true) ∧ Below w.heap.size w w' := by
 have e1 := h1.cap; have e2 := g1.cap
 have key : Calls Tryz.prog 3 #[.agg #[.bool s1, .slice p1 n1 c1, .bool t1, .slice q1 m1 d1], .int .i64 k] w (Gives (IS (.bool true)) w) := by
  obtain ⟨A, eA⟩ : ∃ A, sg s1 (val xs1) = A := ⟨_, rfl⟩
  obtain ⟨E, eE⟩ : ∃ E, sg t1 (val ys1) = E := ⟨_, rfl⟩
  have h := yyq h1 g1 eA eE (show n1 ≤ 1048576 by omega) (show m1 ≤ 1048576 by omega)
  cases hv : decide (0 < E.sign) with
  | false =>
   have hp : E ≤ 0 := by
    rcases Int.lt_or_le 0 E with q | q
    ·exact absurd (of_decide_eq_false hv) (by rw [zes q]; decide)
    ·exact q
   exact tz_b w _ A E 1048576 h (zdu _) hp hv k
  | true =>
   obtain ⟨D, rfl, hD⟩ := ynk hv
   by_cases c1 : k < 0
   ·exact tz_n w _ A _ 1048576 h (zdu _) (by omega) hv k c1
   ·by_cases c2 : 1073741824 < k
    ·exact tz_m w _ A _ 1048576 h (zdu _) (by omega) hv k c2
    ·obtain ⟨j, rfl⟩ : ∃ j : Nat, k = (j : Int) := ⟨k.toNat, by omega⟩
     obtain ⟨_, _, _, _, _, za, zd⟩ := h.now
     have hN := za6 hD (yxe za) (yxe zd)
     by_cases hu : nr A (D : Int) * (D : Int) ≤ A
     ·exact tz_g w _ A _ D 1048576 h (zdu _) hD rfl (by omega) j (by omega) true (Or.inl ⟨rfl, hu⟩) hv
     ·exact tz_g w _ A _ D 1048576 h (zdu _) hD rfl (by omega) j (by omega) false (Or.inr ⟨rfl, by omega⟩) hv
 refine key.mono ?_
 rintro e w' ⟨v, rfl, hb, hv⟩
 obtain rfl : v = _ := hv
 exact ⟨rfl, hb⟩
end Go.Proofs.YtdnindaohpdblaaGreat
