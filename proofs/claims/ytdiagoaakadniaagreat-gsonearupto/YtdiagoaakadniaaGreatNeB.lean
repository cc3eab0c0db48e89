import Derived.Test.YtdiagoaakadniaaGreatNeA
import Derived.Test.YtdiagoaakadniaaGreatGsD
import Derived.Test.YtdiagoaakadniaaGreatGlA
namespace Go.Proofs.YtdiagoaakadniaaGreat
open Go Go.RowKit Nt
set_option linter.unusedSimpArgs false
set_option linter.unusedVariables false
set_option maxRecDepth 20000
set_option maxHeartbeats 16000000
theorem gn_e (w : World) (u v : Value) (n m Kb K : Nat) (Bm : List (List Int)) (ts : List (Int × Int)) (h : Hs w (Mv n Bm Kb) u) (hv : Hs w (QV m ts K) v) (hn : n ≤ 1048576) (hm : m ≤ 1048576) (e0 : Int) (he : e0 ≠ 0) (hc : CoG n m Kb K Bm ts (CoE e0)) :
  Calls Tryz.prog 4 #[u, v] w (Gives (IS (.bool true)) w) := by
 refine yam (sl := [(0, (Mv n Bm Kb)), (1, (QV m ts K))]) Tryz.func4 rfl Tryz.ntmps4 (by simp) (yab rfl (h) (yab rfl (hv) yaq)) ?_
 intro a0 S0
 refine wq [kF] [] [.inr 0, .inr 1] S0 ?_ ?_
 ·apply jj1
  ·exact mC
 intro _ a1 _ (S1 : Sta w 132 [] [(0, Mv n Bm Kb), (1, (QV m ts K))] _ _ _)
 refine wp_seq ?_
 refine wq [kT, kF] [] [.inl 1, .inr 0, .inr 1] S1 ?_ ?_
 ·apply jj2
  ·exact yi3 rfl wA rfl  (yak _) rfl (fun args w => by go_simp) (fun w => ypi w)
  ·exact yie wA (oO 0 17)
 intro _ a2 _ (S2 : Sta w 132 [] [(18, bF), (0, Mv n Bm Kb), (1, (QV m ts K))] _ _ _)
 refine wp_cond_false (S2.bool 0 18 rfl) (wp_skip (thenN ?_))
 refine wq [.val (Mv n Bm Kb), .val (QV m ts K), .val ((THREE (IS (.slice none 0 0)) (IS (.agg #[.bool false, .slice none 0 0, .bool false, .slice none 0 0])) (IS (.int .i64 e0))) w.heap.size), .val ((THREE (IS (.slice none 0 0)) (IS (.agg #[.bool false, .slice none 0 0, .bool false, .slice none 0 0])) (IS (.int .i64 e0))) w.heap.size), .val (Is (.slice none 0 0)), .val zR, .val (iV e0), .new (.box 28 zR), .val (Is (.slice none 0 0)), .put (.inr 7) (.box 28 zR), .val (iV e0)] [.inl 7] [.inl 8, .inl 10, .inr 1, .inr 2] S2 ?_ ?_
 ·repeat' refine And.intro ?_ ?_
  ·trivial
  ·exact mS 1 0
  ·exact mS 2 1
  ·exact ch2 wA (qO 0 20 rfl) (qO 1 21 rfl) (ydd (yak _) (yak _) (yak _)) (fun w u v h1 h2 => hc w u v h1 h2)
  ·exact mO 2 22
  ·exact e30 wA (oO 3 19)
  ·exact e31 wA (oO 3 19)
  ·exact e32 wA (oO 3 19)
  ·exact yat rfl wA rfl rfl (fun ρ w => ybd ρ _ w)
  ·exact mO 4 23
  ·exact ybj 7 rfl wA rfl (by kernel_rfl) rfl (oO 5 24) (yaf yah ybr ybr) rfl
  ·exact mO 6 25
 intro _ a3 _ (S3 : Sta w 132 [(6, (.box 28 zR))] [(5, Is (.slice none 0 0)), (7, iV e0), (0, Mv n Bm Kb), (1, (QV m ts K))] _ _ _)
 refine wp_seq ?_
 refine wq [.val (iV e0), kT, kT, .off, .off, .off, .off, .off, kT] [.inr 0] [.inl 8, .inr 0, .inr 1, .inr 2, .inr 3] S3 ?_ ?_
 ·repeat' refine And.intro ?_ ?_
  ·trivial
  ·exact mS 1 7
  ·exact yge wA (oO 0 26) (yaa _) (h := he)
  ·exact mO 1 27
  ·exact oF 2 28
  ·exact oF 2 28
  ·exact oF 2 28
  ·exact oF 2 28
  ·exact oF 2 28
  ·exact pT wA (oO 2 28) (yaa _)
 intro _ a4 _ (S4 : Sta w 132 [(6, (.box 28 zR))] [(34, bT), (5, Is (.slice none 0 0)), (7, iV e0), (0, Mv n Bm Kb), (1, (QV m ts K))] _ _ _)
 refine wp_cond_true (S4.bool 0 34 rfl) ?_
 refine wq [.val (iV e0), kT, kT, .val (Is (.slice none 0 0)), .val (iV (0 : Nat)), kT, kT, kT] [] [.inl 7] S4 ?_ ?_
 ·repeat' refine And.intro ?_ ?_
  ·trivial
  ·exact mS 2 7
  ·exact yge wA (oO 0 35) (yaa _) (h := he)
  ·exact mO 1 36
  ·exact mW (wI 2 37) (oS 1 5)
  ·exact yal rfl (wI 2 37) rfl (oO 3 38) is_len Tryz.underlying23 rfl
  ·exact yd4 (wI 2 37) (oO 4 39) (yaa _) (h := rfl)
  ·exact pT wA (oO 2 37) (oO 5 40)
  ·exact mO 6 41
 intro _ a5 _ (S5 : Sta w 132 [] [(4, bT)] _ _ _)
 refine wp_ret (thenR ?_)
 exact ybe S5 rfl (yay S5 0 4 rfl)
abbrev qtf2g0 (w : World) (Q : Nat) (P : Int) : Rk := .box 28 ((QQ P Q) w.heap.size)
abbrev qtf2g1 (w : World) (n : Nat) (m : Nat) (D : Nat) (f : Nat → Nat → Int) : Pr := (LF 4 m (qs (nrL (fun k => f k n) D m))) w.heap.size
abbrev qtf2g2 (w : World) (n : Nat) (X : List Int) (D : Nat) : Pr := (LF 4 n (X.map (fun x => QQ x D))) w.heap.size
abbrev qtf2g3 (w : World) (n : Nat) (D : Nat) (f : Nat → Nat → Int) (k0 : Nat) : Rk := .row 28 4 k0 (CE 4 ((qs (nrL (fun k => f k n) D k0)).map (· w.heap.size)))
abbrev qtf2g4 (w : World) (n : Nat) (D : Nat) (f : Nat → Nat → Int) (k0 : Nat) : Rk := .row 28 4 (k0 + 1) (CE 4 ((qs (nrL (fun k => f k n) D (k0 + 1))).map (· w.heap.size)))
abbrev qtf2g5 (K : Nat) (ts : List (Int × Int)) (k0 : Nat) : Pr := PR (Zv ((ts.getD k0 (0, 0)).1) K) (Zv ((ts.getD k0 (0, 0)).2) K)
theorem gn_w (w : World) (u v : Value) (n m Kb K : Nat) (Bm : List (List Int)) (ts : List (Int × Int)) (h : Hs w (Mv n Bm Kb) u) (hv : Hs w (QV m ts K) v) (hn : n ≤ 1048576) (hm : m ≤ 1048576) (hK : K ≤ 1048576) (hKb : Kb ≤ 1048576) (lt : ts.length = m) (h0 : 0 < n) (h12 : n ≤ 12) (hm12 : m ≤ 12) (lB : Bm.length = n) (hrx : ∀ j, j < n → (Bm.getD j []).length = m) (ok : DenOk ts) (hdl : Mdl Bm Kb) (X : List Int) (lX : X.length = n) (D Q : Nat) (P : Int) (f : Nat → Nat → Int) (hD : D ≠ 0) (hDl : (digs D).length ≤ 1100000) (hXl : ∀ i, i < n → (digs (X.getD i 0).natAbs).length ≤ 2110000) (hf0 : ∀ k, k < m → f k 0 * (ts.getD k (0, 0)).2 = (ts.getD k (0, 0)).1 * (D : Int)) (hfs : ∀ k i, k < m → i < n → f k (i + 1) = f k i - X.getD i 0 * (Bm.getD i []).getD k 0) (hfl : ∀ k i, k < m → i ≤ n → (digs (f k i).natAbs).length ≤ 3200000) (hdz : ∀ i, i < n → Dt.sm (fun c => f c n * (Bm.getD i []).getD c 0) m = 0) (hdzl : ∀ i k, i < n → k ≤ m → (digs (Dt.sm (fun c => f c n * (Bm.getD i []).getD c 0) k).natAbs).length ≤ 4300000) (hfar : QQ (Dt.sm (fun c => f c n * f c n) m) (D * D) = QQ P Q) (hfal : ∀ k, k ≤ m → (digs (Dt.sm (fun c => f c n * f c n) k).natAbs).length ≤ 6500000) (hc : CoG n m Kb K Bm ts (CoP n X D P Q)) :
  Calls Tryz.prog 4 #[u, v] w (Gives (IS (.bool true)) w) := by
 have hDD : (digs (D * D)).length ≤ 2200000 := Nat.le_trans (yap hDl hDl) (by omega)
 have hDDz : D * D ≠ 0 := Nat.mul_ne_zero hD hD
 have hD1 : D * 1 ≠ 0 := Nat.mul_ne_zero hD (by decide)
 have hD1l : (digs (D * 1)).length ≤ 1100000 := by rw [Nat.mul_one]; exact hDl
 refine yam (sl := [(0, (Mv n Bm Kb)), (1, (QV m ts K))]) Tryz.func4 rfl Tryz.ntmps4 (by simp) (yab rfl (h) (yab rfl (hv) yaq)) ?_
 intro a0 S0
 refine wq [kF] [] [.inr 0, .inr 1] S0 ?_ ?_
 ·apply jj1
  ·exact mC
 intro _ a1 _ (S1 : Sta w 132 [] [(0, Mv n Bm Kb), (1, (QV m ts K))] _ _ _)
 refine wp_seq ?_
 refine wq [kT, kF] [] [.inl 1, .inr 0, .inr 1] S1 ?_ ?_
 ·apply jj2
  ·exact yi3 rfl wA rfl  (yak _) rfl (fun args w => by go_simp) (fun w => ypi w)
  ·exact yie wA (oO 0 17)
 intro _ a2 _ (S2 : Sta w 132 [] [(18, bF), (0, Mv n Bm Kb), (1, (QV m ts K))] _ _ _)
 refine wp_cond_false (S2.bool 0 18 rfl) (wp_skip (thenN ?_))
 refine wq [.val (Mv n Bm Kb), .val (QV m ts K), .val ((THREE (LF 4 n (X.map (fun x => QQ x D))) (QQ P Q) (IS (.int .i64 0))) w.heap.size), .val ((THREE (LF 4 n (X.map (fun x => QQ x D))) (QQ P Q) (IS (.int .i64 0))) w.heap.size), .val (qtf2g2 w n X D), .val ((QQ P Q) w.heap.size), .val (iV 0), .new (.box 28 zR), .val (qtf2g2 w n X D), .put (.inr 7) (qtf2g0 w Q P), .val (iV 0)] [.inl 7] [.inl 8, .inl 10, .inr 1, .inr 2] S2 ?_ ?_
 ·repeat' refine And.intro ?_ ?_
  ·trivial
  ·exact mS 1 0
  ·exact mS 2 1
  ·exact ch2 wA (qO 0 20 rfl) (qO 1 21 rfl) (ydd yph (ybh _ _) (yak _)) (fun w u v h1 h2 => hc w u v h1 h2)
  ·exact mO 2 22
  ·exact e30 wA (oO 3 19)
  ·exact e31 wA (oO 3 19)
  ·exact e32 wA (oO 3 19)
  ·exact yat rfl wA rfl rfl (fun ρ w => ybd ρ _ w)
  ·exact mO 4 23
  ·exact ybj 7 rfl wA rfl (by kernel_rfl) rfl (oO 5 24) (yaf yah ybr ya6) rfl
  ·exact mO 6 25
 intro _ a3 _ (S3 : Sta w 132 [(6, (qtf2g0 w Q P))] [(5, (qtf2g2 w n X D)), (7, iV 0), (0, Mv n Bm Kb), (1, (QV m ts K))] _ _ _)
 refine wp_seq ?_
 refine wq [.val (iV 0), kF, kF, .val (qtf2g2 w n X D), .val (iV (n : Nat)), .val (Mv n Bm Kb), .val (iV (n : Nat)), kF, kF] [.inr 0] [.inl 8, .inr 0, .inr 1, .inr 2, .inr 3] S3 ?_ ?_
 ·repeat' refine And.intro ?_ ?_
  ·trivial
  ·exact mS 1 7
  ·exact ydj wA (oO 0 26) (yaa _) (h := rfl)
  ·exact mO 1 27
  ·exact mW (wI 2 28) (oS 0 5)
  ·exact yal rfl (wI 2 28) rfl (oO 3 29) yj5 Tryz.underlying23 rfl
  ·exact mW (wI 2 28) (oS 2 0)
  ·exact yal rfl (wI 2 28) rfl (oO 5 31) yaw Tryz.underlying22 rfl
  ·exact ybm (wI 2 28) (oO 4 30) (oO 6 32) (h := rfl)
  ·exact pF wA (oO 2 28) (oO 7 33)
 intro _ a4 _ (S4 : Sta w 132 [(6, (qtf2g0 w Q P))] [(34, bF), (5, (qtf2g2 w n X D)), (7, iV 0), (0, Mv n Bm Kb), (1, (QV m ts K))] _ _ _)
 refine wp_cond_false (S4.bool 0 34 rfl) (wp_skip (thenN ?_))
 refine wq [.new (.row 28 4 0 (CE 4 ((qs (nrL (fun k => f k n) D 0)).map (· w.heap.size))))] [.inr 0, .inl 0] [.inr 1, .inr 3, .inr 4] S4 ?_ ?_
 ·apply jj1
  ·exact yj9 rfl wA rfl rfl yjx
 intro _ a5 _ (S5 : Sta w 132 [(6, (qtf2g0 w Q P)), (8, (.row 28 4 0 (CE 4 ((qs (nrL (fun k => f k n) D 0)).map (· w.heap.size)))))] [(5, (qtf2g2 w n X D)), (0, Mv n Bm Kb), (1, (QV m ts K))] _ _ _)
 refine wp_seq ?_
 refine wq [.val (iV 0)] [.inr 0, .inr 1] [.inl 0, .inr 0, .inr 1, .inr 2] S5 ?_ ?_
 ·apply jj1
  ·exact mC
 intro B6 a6 _ (S6 : Sta w 132 [(6, (qtf2g0 w Q P)), (8, (.row 28 4 0 (CE 4 ((qs (nrL (fun k => f k n) D 0)).map (· w.heap.size)))))] [(9, iV 0), (5, (qtf2g2 w n X D)), (0, Mv n Bm Kb), (1, (QV m ts K))] _ _ _)
 refine wp_block ?_
 refine yan (fun (k0 : Nat) a W => (k0 ≤ m) ∧ ∃ Bq, Sta w 132 [(6, (qtf2g0 w Q P)), (8, (qtf2g3 w n D f k0))] [(9, iV (k0 : Nat)), (5, (qtf2g2 w n X D)), (0, Mv n Bm Kb), (1, (QV m ts K))] Bq a W) (fun (k0 : Nat) => m - k0) ?_ 0 ⟨Nat.zero_le _, B6, S6.sub [0, 1] [0, 1, 2, 3]⟩
 rintro k0 a7 _ ⟨hcond, _, S7⟩
 by_cases hlt : k0 < m
 ·have hd := ok k0 (by omega)
  refine wp_seq ?_
  refine wq [.val (iV (k0 : Nat)), .val (QV m ts K), .val (iV (m : Nat)), kT] [.inr 0, .inr 1] [.inl 3, .inr 0, .inr 1, .inr 2, .inr 3] S7 ?_ ?_
  ·apply jj4
   ·exact mS 0 9
   ·exact mS 3 1
   ·exact yal rfl wA rfl (oO 1 43) yaw Tryz.underlying23 rfl
   ·exact yar wA (oO 0 42) (oO 2 44)
  intro B8 a8 W8 (S8 : Sta w 132 [(6, (qtf2g0 w Q P)), (8, (qtf2g3 w n D f k0))] [(45, bT), (9, iV (k0 : Nat)), (5, (qtf2g2 w n X D)), (0, Mv n Bm Kb), (1, (QV m ts K))] _ _ _)
  refine wp_cond_true (S8.bool 0 45 rfl) (wp_skip (thenN (wp_seq (wp_block ?_))))
  refine wq [.val (QV m ts K), .val (iV (k0 : Nat)), .val (AtE 4 (qtf2g5 K ts k0)), .val (qtf2g5 K ts k0), .new (.box 28 zR), .put (.inr 4) (.box 28 (qtf2g5 K ts k0))] [.inr 0, .inr 1, .inl 4] [.inr 1, .inr 2, .inr 3, .inr 4] S8 ?_ ?_
  ·apply jj6
   ·exact mS 4 1
   ·exact mS 1 9
   ·exact yae rfl wA rfl ybs (oO 0 48) (oO 1 49) (yjd (by omega)) rfl
   ·exact yag rfl wA rfl ybz (by decide) (ya5 (by decide) (ych ybc ybc)) (oO 2 50) rfl
   ·exact yat rfl wA rfl rfl (fun ρ w => ybd ρ _ w)
   ·exact ybj 4 rfl wA rfl (by kernel_rfl) rfl (oO 3 51) (yaf yah ybr (ych ybc ybc)) rfl
  intro B9 a9 W9 (S9 : Sta w 132 [(6, (qtf2g0 w Q P)), (8, (qtf2g3 w n D f k0)), (10, (.box 28 (qtf2g5 K ts k0)))] [(9, iV (k0 : Nat)), (5, (qtf2g2 w n X D)), (0, Mv n Bm Kb), (1, (QV m ts K))] _ _ _)
  refine wp_seq ?_
  replace S9 : Sta w 132 [(6, (qtf2g0 w Q P)), (8, (qtf2g3 w n D f k0)), (10, (.box 28 (nrR ((ts.getD k0 (0, 0)).1) ((ts.getD k0 (0, 0)).2) K (f k0 0) D 0 w.heap.size)))] [(9, iV (k0 : Nat)), (5, (qtf2g2 w n X D)), (0, Mv n Bm Kb), (1, (QV m ts K))] B9 a9 W9 := S9.reboxS 2 rfl nr_0
  refine wq [.val (iV 0)] [.inr 0, .inr 1, .inr 2] [.inl 0, .inr 0, .inr 1, .inr 2, .inr 3] S9 ?_ ?_
  ·apply jj1
   ·exact mC
  intro B10 a10 W10 (S10 : Sta w 132 [(6, (qtf2g0 w Q P)), (8, (qtf2g3 w n D f k0)), (10, (.box 28 (nrR ((ts.getD k0 (0, 0)).1) ((ts.getD k0 (0, 0)).2) K (f k0 0) D 0 w.heap.size)))] [(11, iV 0), (9, iV (k0 : Nat)), (5, (qtf2g2 w n X D)), (0, Mv n Bm Kb), (1, (QV m ts K))] _ _ _)
  refine wp_block ?_
  refine yan (fun (i0 : Nat) a W => (i0 ≤ n) ∧ ∃ Bq, Sta w 132 [(6, (qtf2g0 w Q P)), (8, (qtf2g3 w n D f k0)), (10, (.box 28 (nrR ((ts.getD k0 (0, 0)).1) ((ts.getD k0 (0, 0)).2) K (f k0 i0) D i0 w.heap.size)))] [(11, iV (i0 : Nat)), (9, iV (k0 : Nat)), (5, (qtf2g2 w n X D)), (0, Mv n Bm Kb), (1, (QV m ts K))] Bq a W) (fun (i0 : Nat) => n - i0) ?_ 0 ⟨Nat.zero_le _, B10, S10.sub [0, 1, 2] [0, 1, 2, 3, 4]⟩
  rintro i0 a11 W11 ⟨hcond, B11, S11⟩
  by_cases hli : i0 < n
  ·have hri := hrx i0 (by omega)
   have hbl := ydc (hdl i0 _ (gD (d := []) (show i0 < Bm.length by omega))) k0
   have hml : (digs (X.getD i0 0 * ((Bm.getD i0 []).getD k0 0)).natAbs).length ≤ 8388608 := by rw [Int.natAbs_mul]; exact Nat.le_trans (yap (hXl i0 (by omega)) hbl) (by omega)
   refine wp_seq ?_
   refine wq [.val (iV (i0 : Nat)), .val (Mv n Bm Kb), .val (iV (n : Nat)), kT] [.inr 0, .inr 1, .inr 2] [.inl 3, .inr 0, .inr 1, .inr 2, .inr 3, .inr 4] S11 ?_ ?_
   ·apply jj4
    ·exact mS 0 11
    ·exact mS 3 0
    ·exact yal rfl wA rfl (oO 1 53) yaw Tryz.underlying22 rfl
    ·exact yar wA (oO 0 52) (oO 2 54)
   intro B12 a12 W12 (S12 : Sta w 132 [(6, (qtf2g0 w Q P)), (8, (qtf2g3 w n D f k0)), (10, (.box 28 (nrR ((ts.getD k0 (0, 0)).1) ((ts.getD k0 (0, 0)).2) K (f k0 i0) D i0 w.heap.size)))] [(55, bT), (11, iV (i0 : Nat)), (9, iV (k0 : Nat)), (5, (qtf2g2 w n X D)), (0, Mv n Bm Kb), (1, (QV m ts K))] _ _ _)
   refine wp_cond_true (S12.bool 0 55 rfl) (wp_skip (thenN (wp_seq (wp_block ?_))))
   refine wr [.val (nrR ((ts.getD k0 (0, 0)).1) ((ts.getD k0 (0, 0)).2) K (f k0 i0) D i0 w.heap.size), .val (qtf2g2 w n X D), .val (iV (i0 : Nat)), .val (AtE 4 ((QQ (X.getD i0 0) D) w.heap.size)), .val ((QQ (X.getD i0 0) D) w.heap.size), .val (Mv n Bm Kb), .val (iV (i0 : Nat)), .val (AtE 1 (Vv m (Bm.getD i0 []) Kb)), .val (Vv m (Bm.getD i0 []) Kb), .val (iV (k0 : Nat)), .val (AtE 2 (Zv ((Bm.getD i0 []).getD k0 0) Kb)), .val (Zv ((Bm.getD i0 []).getD k0 0) Kb), .val ((QQ (((Bm.getD i0 []).getD k0 0)) 1) w.heap.size), .val ((QQ (X.getD i0 0 * ((Bm.getD i0 []).getD k0 0)) (D * 1)) w.heap.size), .val ((QQ (f k0 (i0 + 1)) D) w.heap.size), .put (.inl 10) (.box 28 ((QQ (f k0 (i0 + 1)) D) w.heap.size))] [.inr 0, .inr 1, .inr 2] [.inr 1, .inr 2, .inr 3, .inr 4, .inr 5] S12 ?_ ?_
   ·repeat' refine And.intro ?_ ?_
    ·trivial
    ·exact lod 2 wA (yau yah shp_nr)
    ·exact mS 3 5
    ·exact mS 1 11
    ·exact yae rfl wA rfl ybs ((oO 1 59).imp yg8) (oO 2 60) (yas (· w.heap.size) (yas (fun x => QQ x D) (gD (l := X) (d := 0) (by omega)))) rfl
    ·exact yag rfl wA rfl ybz (by decide) (ya5 (by decide) ya6) (oO 3 61) rfl
    ·exact mS 4 0
    ·exact mS 1 11
    ·exact yae rfl wA rfl ya8 (oO 5 63) (oO 6 64) (by have q := yda (A := Bm) (K := Kb) (k := i0) (by omega); rw [hri] at q; exact q) rfl
    ·exact yag rfl wA rfl ya9 (by decide) yb3 (oO 7 65) rfl
    ·exact mS 2 9
    ·exact yae rfl wA rfl yby (oO 8 66) (oO 9 67) (yhj (by omega)) rfl
    ·exact yag rfl wA rfl ycp (by decide) (ya5 (by decide) ybc) (oO 10 68) rfl
    ·exact cc1 wA (qO 11 69 rfl) (ybh _ _) (fun w u h1 => Gives.cast (ymt (A := ((Bm.getD i0 []).getD k0 0)) (k := Kb) (by omega) w u h1) (qq_1 _))
    ·exact cc2 wA (qO 4 62 rfl) (qO 12 70 rfl) (ybh _ _) (fun w u v h1 h2 => yi8 (k := 2110000) (k' := 1048576) hD (by decide) (hXl i0 (by omega)) (Nat.le_trans hDl (by omega)) (Nat.le_trans hbl (by omega)) (Nat.le_trans one_dl (by omega)) (by omega) (by omega) w u v h1 h2)
    ·exact yd3 rfl wA rfl ((oO 0 58).imp (nr_qw hd (by omega) hD (fun e => by subst e; exact hf0 k0 hlt) (Nat.le_trans (hfl k0 i0 hlt (by omega)) (by omega)) (Nat.le_trans hDl (by omega)))) ((oO 13 71).imp (qw_qq (k := 8388608) hD1 hml (Nat.le_trans hD1l (by omega)))) (ybh _ _) rfl (fun args w => by go_simp) (fun w u v h1 h2 => Gives.cast (ψ := QQ (f k0 (i0 + 1)) D) (qw_rsub hD hD1 (by omega) (by omega) w u v h1.now h2.now) (by rw [nr_step hD, hfs k0 i0 hlt hli]))
    ·exact ya7 rfl wA rfl (k := 2) rfl (by kernel_rfl) (oO 14 72) (yaf yah shp_nr ya6) rfl
   intro B13 a13 W13 (S13 : Sta w 132 [(6, (qtf2g0 w Q P)), (8, (qtf2g3 w n D f k0)), (10, (.box 28 ((QQ (f k0 (i0 + 1)) D) w.heap.size)))] [(11, iV (i0 : Nat)), (9, iV (k0 : Nat)), (5, (qtf2g2 w n X D)), (0, Mv n Bm Kb), (1, (QV m ts K))] _ _ _)
   refine inBlkN (thenN ?_)
   replace S13 : Sta w 132 [(6, (qtf2g0 w Q P)), (8, (qtf2g3 w n D f k0)), (10, (.box 28 (nrR ((ts.getD k0 (0, 0)).1) ((ts.getD k0 (0, 0)).2) K (f k0 (i0 + 1)) D (i0 + 1) w.heap.size)))] [(11, iV (i0 : Nat)), (9, iV (k0 : Nat)), (5, (qtf2g2 w n X D)), (0, Mv n Bm Kb), (1, (QV m ts K))] B13 a13 W13 := S13.reboxS 2 rfl nr_s
   refine wr [.val (iV (i0 : Nat)), .val (iV (i0 + 1 : Nat)), .val (iV (i0 + 1 : Nat))] [.inr 0, .inr 1, .inr 2] [.inl 2, .inr 1, .inr 2, .inr 3, .inr 4] S13 ?_ ?_
   ·apply jj3
    ·exact mS 0 11
    ·exact ya3 wA (oO 0 56) (yaa _)
    ·exact mO 1 57
   intro B14 a14 W14 (S14 : Sta w 132 [(6, (qtf2g0 w Q P)), (8, (qtf2g3 w n D f k0)), (10, (.box 28 (nrR ((ts.getD k0 (0, 0)).1) ((ts.getD k0 (0, 0)).2) K (f k0 (i0 + 1)) D (i0 + 1) w.heap.size)))] [(11, iV (i0 + 1 : Nat)), (9, iV (k0 : Nat)), (5, (qtf2g2 w n X D)), (0, Mv n Bm Kb), (1, (QV m ts K))] _ _ _)
   refine thenN ?_
   exact ⟨i0 + 1, ⟨by omega, B14, S14.sub [0, 1, 2] [0, 1, 2, 3, 4]⟩, by omega⟩
  ·have ek : i0 = n := by omega
   rw [ek] at S11
   refine wp_seq ?_
   refine wq [.val (iV (n : Nat)), .val (Mv n Bm Kb), .val (iV (n : Nat)), kF] [.inr 0, .inr 1, .inr 2] [.inl 3, .inr 0, .inr 1, .inr 2, .inr 3, .inr 4] S11 ?_ ?_
   ·apply jj4
    ·exact mS 0 11
    ·exact mS 3 0
    ·exact yal rfl wA rfl (oO 1 53) yaw Tryz.underlying22 rfl
    ·exact yaz wA (oO 0 52) (oO 2 54)
   intro B12 a12 W12 (S12 : Sta w 132 [(6, (qtf2g0 w Q P)), (8, (qtf2g3 w n D f k0)), (10, (.box 28 (nrR ((ts.getD k0 (0, 0)).1) ((ts.getD k0 (0, 0)).2) K (f k0 n) D n w.heap.size)))] [(55, bF), (11, iV (n : Nat)), (9, iV (k0 : Nat)), (5, (qtf2g2 w n X D)), (0, Mv n Bm Kb), (1, (QV m ts K))] _ _ _)
   refine wp_cond_false (S12.bool 0 55 rfl) (wp_exit (thenX (thenX (inBlkE (thenN ?_)))))
   replace S12 : Sta w 132 [(6, (qtf2g0 w Q P)), (8, (qtf2g3 w n D f k0)), (10, (.box 28 ((QQ (f k0 n) D) w.heap.size)))] [(55, bF), (11, iV (n : Nat)), (9, iV (k0 : Nat)), (5, (qtf2g2 w n X D)), (0, Mv n Bm Kb), (1, (QV m ts K))] B12 a12 W12 := S12.reboxS 2 rfl (nr_e h0)
   refine wr [.val (Is (a12.eval (.tmp 8))), .val ((QQ (f k0 n) D) w.heap.size), .val (Sng 28 4 ((QQ (f k0 n) D) w.heap.size) w.heap.size), .mov 8 (qtf2g4 w n D f k0), .ref 3] [.inr 0, .inr 2, .inl 4] [.inr 1, .inr 2, .inr 3, .inr 4, .inr 5] S12 ?_ ?_
   ·apply jj5
    ·exact yct rfl wA (Or.inl rfl) (by kernel_rfl) rfl
    ·exact lod 2 wA (yau yah ya6)
    ·exact ygp rfl wA rfl yks (oO 1 74) (ya5 (by decide) ya6) rfl
    ·exact yfy rfl wA rfl (oO 0 73) (k := 1) rfl (by kernel_rfl) ((oO 2 75).imp yhk) yim Tryz.underlying23 (by decide) ⟨by unfold maxLen; omega, by omega⟩ rfl (fun xs ys w h1 h2 => by simp only [nrL, List.map_append, List.map_cons, List.map_nil]; exact ydy _ _ _ h1 h2)
    ·exact yea 3 rfl wA (Or.inr rfl) (by kernel_rfl) rfl rfl
   intro B13 a13 W13 (S13 : Sta w 132 [(6, (qtf2g0 w Q P)), (10, (.box 28 ((QQ (f k0 n) D) w.heap.size))), (8, (qtf2g4 w n D f k0))] [(11, iV (n : Nat)), (9, iV (k0 : Nat)), (5, (qtf2g2 w n X D)), (0, Mv n Bm Kb), (1, (QV m ts K))] _ _ _)
   refine inBlkN (thenN ?_)
   refine wr [.val (iV (k0 : Nat)), .val (iV (k0 + 1 : Nat)), .val (iV (k0 + 1 : Nat))] [.inr 0, .inr 1, .inr 2] [.inl 2, .inr 0, .inr 2, .inr 3, .inr 4] S13 ?_ ?_
   ·apply jj3
    ·exact mS 1 9
    ·exact ya3 wA (oO 0 46) (yaa _)
    ·exact mO 1 47
   intro B14 a14 W14 (S14 : Sta w 132 [(6, (qtf2g0 w Q P)), (10, (.box 28 ((QQ (f k0 n) D) w.heap.size))), (8, (qtf2g4 w n D f k0))] [(9, iV (k0 + 1 : Nat)), (11, iV (n : Nat)), (5, (qtf2g2 w n X D)), (0, Mv n Bm Kb), (1, (QV m ts K))] _ _ _)
   refine thenN ?_
   exact ⟨k0 + 1, ⟨by omega, B14, S14.sub [0, 2] [0, 2, 3, 4]⟩, by omega⟩
 ·have ek : k0 = m := by omega
  rw [ek] at S7
  refine wp_seq ?_
  refine wq [.val (iV (m : Nat)), .val (QV m ts K), .val (iV (m : Nat)), kF] [.inr 0, .inr 1] [.inl 3, .inr 0, .inr 1, .inr 2, .inr 3] S7 ?_ ?_
  ·apply jj4
   ·exact mS 0 9
   ·exact mS 3 1
   ·exact yal rfl wA rfl (oO 1 43) yaw Tryz.underlying23 rfl
   ·exact yaz wA (oO 0 42) (oO 2 44)
  intro B8 a8 W8 (S8 : Sta w 132 [(6, (qtf2g0 w Q P)), (8, (.row 28 4 m (CE 4 ((qs (nrL (fun k => f k n) D m)).map (· w.heap.size)))))] [(45, bF), (9, iV (m : Nat)), (5, (qtf2g2 w n X D)), (0, Mv n Bm Kb), (1, (QV m ts K))] _ _ _)
  refine wp_cond_false (S8.bool 0 45 rfl) (wp_exit (thenX (thenX (inBlkE (thenN ?_)))))
  obtain ⟨B9, S9⟩ : ∃ Bq, Sta w 132 [(6, (qtf2g0 w Q P))] [(8, (qtf2g1 w n m D f)), (45, bF), (9, iV (m : Nat)), (5, (qtf2g2 w n X D)), (0, Mv n Bm Kb), (1, (QV m ts K))] Bq a8 W8 := ⟨_, S8.freeze 1 rfl (by simp) (fun v w' xs ho hc => ydi (by decide) v w' xs ho hc)⟩
  obtain ⟨a9, W9, e1, e2⟩ : ∃ a W, a8 = a ∧ W8 = W := ⟨_, _, rfl, rfl⟩
  rw [e1, e2] at S9 ⊢
  clear e1 e2
  refine wq [.val zI, .val ((QQ (Dt.sm (fun c => f c n * f c n) 0) (D * D)) w.heap.size), .new (.box 28 zR), .put (.inr 2) (.box 28 ((QQ (Dt.sm (fun c => f c n * f c n) 0) (D * D)) w.heap.size))] [.inr 0, .inl 2] [.inr 0, .inr 2, .inr 3, .inr 4, .inr 5] S9 ?_ ?_
  ·apply jj4
   ·exact ygq rfl wA rfl rfl
   ·exact cc1 wA (qO 0 77 rfl) (ybh _ _) (fun w u0 h0 => Gives.cast ((fun w u h => ymt (A := 0) (k := 0) (by omega) w u (zero_zv u w h)) w u0 h0) (by exact qq_zero hDDz))
   ·exact yat rfl wA rfl rfl (fun ρ w => ybd ρ _ w)
   ·exact ybj 2 rfl wA rfl (by kernel_rfl) rfl (oO 1 78) (yaf yah ybr ya6) rfl
  intro B10 a10 W10 (S10 : Sta w 132 [(6, (qtf2g0 w Q P)), (12, (.box 28 ((QQ (Dt.sm (fun c => f c n * f c n) 0) (D * D)) w.heap.size)))] [(8, (qtf2g1 w n m D f)), (9, iV (m : Nat)), (5, (qtf2g2 w n X D)), (0, Mv n Bm Kb), (1, (QV m ts K))] _ _ _)
  refine wp_seq ?_
  refine wq [.val (iV 0)] [.inr 0, .inr 1] [.inl 0, .inr 0, .inr 1, .inr 2, .inr 3, .inr 4] S10 ?_ ?_
  ·apply jj1
   ·exact mC
  intro B11 a11 W11 (S11 : Sta w 132 [(6, (qtf2g0 w Q P)), (12, (.box 28 ((QQ (Dt.sm (fun c => f c n * f c n) 0) (D * D)) w.heap.size)))] [(13, iV 0), (8, (qtf2g1 w n m D f)), (9, iV (m : Nat)), (5, (qtf2g2 w n X D)), (0, Mv n Bm Kb), (1, (QV m ts K))] _ _ _)
  refine wp_block ?_
  refine yan (fun (k0 : Nat) a W => (k0 ≤ m) ∧ ∃ Bq, Sta w 132 [(6, (qtf2g0 w Q P)), (12, (.box 28 ((QQ (Dt.sm (fun c => f c n * f c n) k0) (D * D)) w.heap.size)))] [(13, iV (k0 : Nat)), (8, (qtf2g1 w n m D f)), (0, Mv n Bm Kb)] Bq a W) (fun (k0 : Nat) => m - k0) ?_ 0 ⟨Nat.zero_le _, B11, S11.sub [0, 1] [0, 1, 4]⟩
  rintro k0 a12 W12 ⟨hcond, B12, S12⟩
  by_cases hlt : k0 < m
  ·have hff : (digs (f k0 n * f k0 n).natAbs).length ≤ 8388608 := by rw [Int.natAbs_mul]; exact Nat.le_trans (yap (hfl k0 n hlt (Nat.le_refl _)) (hfl k0 n hlt (Nat.le_refl _))) (by omega)
   refine wp_seq ?_
   refine wq [.val (iV (k0 : Nat)), .val (qtf2g1 w n m D f), .val (iV (m : Nat)), kT] [.inr 0, .inr 1] [.inl 3, .inr 0, .inr 1, .inr 2] S12 ?_ ?_
   ·apply jj4
    ·exact mS 0 13
    ·exact mS 1 8
    ·exact yal rfl wA rfl (oO 1 80) yj5 Tryz.underlying23 rfl
    ·exact yar wA (oO 0 79) (oO 2 81)
   intro B13 a13 W13 (S13 : Sta w 132 [(6, (qtf2g0 w Q P)), (12, (.box 28 ((QQ (Dt.sm (fun c => f c n * f c n) k0) (D * D)) w.heap.size)))] [(82, bT), (13, iV (k0 : Nat)), (8, (qtf2g1 w n m D f)), (0, Mv n Bm Kb)] _ _ _)
   refine wp_cond_true (S13.bool 0 82 rfl) (wp_skip (thenN (wp_seq (wp_block ?_))))
   refine wr [.val ((QQ (Dt.sm (fun c => f c n * f c n) k0) (D * D)) w.heap.size), .val (qtf2g1 w n m D f), .val (iV (k0 : Nat)), .val (AtE 4 ((QQ (f k0 n) D) w.heap.size)), .val ((QQ (f k0 n) D) w.heap.size), .val (qtf2g1 w n m D f), .val (iV (k0 : Nat)), .val (AtE 4 ((QQ (f k0 n) D) w.heap.size)), .val ((QQ (f k0 n) D) w.heap.size), .val ((QQ (f k0 n * f k0 n) (D * D)) w.heap.size), .val ((QQ (Dt.sm (fun c => f c n * f c n) ((k0 + 1))) (D * D)) w.heap.size), .put (.inl 12) (.box 28 ((QQ (Dt.sm (fun c => f c n * f c n) ((k0 + 1))) (D * D)) w.heap.size))] [.inr 0, .inr 1] [.inr 1, .inr 2, .inr 3] S13 ?_ ?_
   ·repeat' refine And.intro ?_ ?_
    ·trivial
    ·exact lod 1 wA (yau yah ya6)
    ·exact mS 2 8
    ·exact mS 1 13
    ·exact yae rfl wA rfl ybs ((oO 1 86).imp yg8) (oO 2 87) (yas (· w.heap.size) (yas (fun p : Int × Nat => QQ p.1 p.2) (nr_get (f := fun k => f k n) (Q := D) hlt))) rfl
    ·exact yag rfl wA rfl ybz (by decide) (ya5 (by decide) ya6) (oO 3 88) rfl
    ·exact mS 2 8
    ·exact mS 1 13
    ·exact yae rfl wA rfl ybs ((oO 5 90).imp yg8) (oO 6 91) (yas (· w.heap.size) (yas (fun p : Int × Nat => QQ p.1 p.2) (nr_get (f := fun k => f k n) (Q := D) hlt))) rfl
    ·exact yag rfl wA rfl ybz (by decide) (ya5 (by decide) ya6) (oO 7 92) rfl
    ·exact cc2 wA (qO 4 89 rfl) (qO 8 93 rfl) (ybh _ _) (fun w u v h1 h2 => yi8 (k := 3200000) (k' := 3200000) hD hD (hfl k0 n hlt (Nat.le_refl _)) (Nat.le_trans hDl (by omega)) (hfl k0 n hlt (Nat.le_refl _)) (Nat.le_trans hDl (by omega)) (by omega) (by omega) w u v h1 h2)
    ·exact cc2 wA (qO 0 85 rfl) (qO 9 94 rfl) (ybh _ _) (fun w u v h1 h2 => Gives.cast (ψ := (QQ (Dt.sm (fun c => f c n * f c n) ((k0 + 1))) (D * D))) (q_radd (k := 8388608) (k' := 8388608) hDDz hDDz (Nat.le_trans (hfal k0 (by omega)) (by omega)) (Nat.le_trans hDD (by omega)) hff (Nat.le_trans hDD (by omega)) (by omega) (by omega) w u v h1 h2) (sq_step (T := f k0 n) (N := f k0 n) hD hD rfl))
    ·exact ya7 rfl wA rfl (k := 1) rfl (by kernel_rfl) (oO 10 95) (yaf yah ya6 ya6) rfl
   intro B14 a14 W14 (S14 : Sta w 132 [(6, (qtf2g0 w Q P)), (12, (.box 28 ((QQ (Dt.sm (fun c => f c n * f c n) ((k0 + 1))) (D * D)) w.heap.size)))] [(13, iV (k0 : Nat)), (8, (qtf2g1 w n m D f)), (0, Mv n Bm Kb)] _ _ _)
   refine inBlkN (thenN ?_)
   refine wr [.val (iV (k0 : Nat)), .val (iV (k0 + 1 : Nat)), .val (iV (k0 + 1 : Nat))] [.inr 0, .inr 1] [.inl 2, .inr 1, .inr 2] S14 ?_ ?_
   ·apply jj3
    ·exact mS 0 13
    ·exact ya3 wA (oO 0 83) (yaa _)
    ·exact mO 1 84
   intro B15 a15 W15 (S15 : Sta w 132 [(6, (qtf2g0 w Q P)), (12, (.box 28 ((QQ (Dt.sm (fun c => f c n * f c n) ((k0 + 1))) (D * D)) w.heap.size)))] [(13, iV (k0 + 1 : Nat)), (8, (qtf2g1 w n m D f)), (0, Mv n Bm Kb)] _ _ _)
   refine thenN ?_
   exact ⟨k0 + 1, ⟨by omega, B15, S15.sub [0, 1] [0, 1, 2]⟩, by omega⟩
  ·have ek : k0 = m := by omega
   rw [ek, hfar] at S12
   refine wp_seq ?_
   refine wq [.val (iV (m : Nat)), .val (qtf2g1 w n m D f), .val (iV (m : Nat)), kF] [.inr 0, .inr 1] [.inl 3, .inr 0, .inr 1, .inr 2] S12 ?_ ?_
   ·apply jj4
    ·exact mS 0 13
    ·exact mS 1 8
    ·exact yal rfl wA rfl (oO 1 80) yj5 Tryz.underlying23 rfl
    ·exact yaz wA (oO 0 79) (oO 2 81)
   intro B13 a13 W13 (S13 : Sta w 132 [(6, (qtf2g0 w Q P)), (12, (qtf2g0 w Q P))] [(82, bF), (13, iV (m : Nat)), (8, (qtf2g1 w n m D f)), (0, Mv n Bm Kb)] _ _ _)
   refine wp_cond_false (S13.bool 0 82 rfl) (wp_exit (thenX (thenX (inBlkE (thenN (wp_seq ?_))))))
   refine wq [.val (iV 0)] [.inr 0, .inr 1] [.inl 0, .inr 1, .inr 2, .inr 3] S13 ?_ ?_
   ·apply jj1
    ·exact mC
   intro B14 a14 W14 (S14 : Sta w 132 [(6, (qtf2g0 w Q P)), (12, (qtf2g0 w Q P))] [(14, iV 0), (13, iV (m : Nat)), (8, (qtf2g1 w n m D f)), (0, Mv n Bm Kb)] _ _ _)
   refine wp_block ?_
   refine yan (fun (i0 : Nat) a W => (i0 ≤ n) ∧ ∃ Bq, Sta w 132 [(6, (qtf2g0 w Q P)), (12, (qtf2g0 w Q P))] [(14, iV (i0 : Nat)), (8, (qtf2g1 w n m D f)), (0, Mv n Bm Kb)] Bq a W) (fun (i0 : Nat) => n - i0) ?_ 0 ⟨Nat.zero_le _, B14, S14.sub [0, 1] [0, 2, 3]⟩
   rintro i0 a15 W15 ⟨hcond, B15, S15⟩
   by_cases hli : i0 < n
   ·skip
    refine wp_seq ?_
    refine wq [.val (iV (i0 : Nat)), .val (Mv n Bm Kb), .val (iV (n : Nat)), kT] [.inr 0, .inr 1] [.inl 3, .inr 0, .inr 1, .inr 2] S15 ?_ ?_
    ·apply jj4
     ·exact mS 0 14
     ·exact mS 2 0
     ·exact yal rfl wA rfl (oO 1 97) yaw Tryz.underlying22 rfl
     ·exact yar wA (oO 0 96) (oO 2 98)
    intro B16 a16 W16 (S16 : Sta w 132 [(6, (qtf2g0 w Q P)), (12, (qtf2g0 w Q P))] [(99, bT), (14, iV (i0 : Nat)), (8, (qtf2g1 w n m D f)), (0, Mv n Bm Kb)] _ _ _)
    refine wp_cond_true (S16.bool 0 99 rfl) (wp_skip (thenN (wp_seq (wp_block ?_))))
    refine wq [.val zI, .val ((QQ (Dt.sm (fun c => f c n * (Bm.getD i0 []).getD c 0) 0) D) w.heap.size), .new (.box 28 zR), .put (.inr 2) (.box 28 ((QQ (Dt.sm (fun c => f c n * (Bm.getD i0 []).getD c 0) 0) D) w.heap.size))] [.inr 0, .inr 1, .inl 2] [.inr 1, .inr 2, .inr 3] S16 ?_ ?_
    ·apply jj4
     ·exact ygq rfl wA rfl rfl
     ·exact cc1 wA (qO 0 102 rfl) (ybh _ _) (fun w u0 h0 => Gives.cast ((fun w u h => ymt (A := 0) (k := 0) (by omega) w u (zero_zv u w h)) w u0 h0) (by exact qq_zero hD))
     ·exact yat rfl wA rfl rfl (fun ρ w => ybd ρ _ w)
     ·exact ybj 2 rfl wA rfl (by kernel_rfl) rfl (oO 1 103) (yaf yah ybr ya6) rfl
    intro B17 a17 W17 (S17 : Sta w 132 [(6, (qtf2g0 w Q P)), (12, (qtf2g0 w Q P)), (15, (.box 28 ((QQ (Dt.sm (fun c => f c n * (Bm.getD i0 []).getD c 0) 0) D) w.heap.size)))] [(14, iV (i0 : Nat)), (8, (qtf2g1 w n m D f)), (0, Mv n Bm Kb)] _ _ _)
    refine wp_seq ?_
    refine wq [.val (iV 0)] [.inr 0, .inr 1, .inr 2] [.inl 0, .inr 0, .inr 1, .inr 2] S17 ?_ ?_
    ·apply jj1
     ·exact mC
    intro B18 a18 _ (S18 : Sta w 132 [(6, (qtf2g0 w Q P)), (12, (qtf2g0 w Q P)), (15, (.box 28 ((QQ (Dt.sm (fun c => f c n * (Bm.getD i0 []).getD c 0) 0) D) w.heap.size)))] [(16, iV 0), (14, iV (i0 : Nat)), (8, (qtf2g1 w n m D f)), (0, Mv n Bm Kb)] _ _ _)
    refine wp_block ?_
    refine yan (fun (k0 : Nat) a W => (k0 ≤ m) ∧ ∃ Bq, Sta w 132 [(6, (qtf2g0 w Q P)), (12, (qtf2g0 w Q P)), (15, (.box 28 ((QQ (Dt.sm (fun c => f c n * (Bm.getD i0 []).getD c 0) k0) D) w.heap.size)))] [(16, iV (k0 : Nat)), (14, iV (i0 : Nat)), (8, (qtf2g1 w n m D f)), (0, Mv n Bm Kb)] Bq a W) (fun (k0 : Nat) => m - k0) ?_ 0 ⟨Nat.zero_le _, B18, S18.sub [0, 1, 2] [0, 1, 2, 3]⟩
    rintro k0 a19 _ ⟨hcond, _, S19⟩
    by_cases hlk : k0 < m
    ·have hri := hrx i0 (by omega)
     have hbl := ydc (hdl i0 _ (gD (d := []) (show i0 < Bm.length by omega))) k0
     have hfb : (digs (f k0 n * ((Bm.getD i0 []).getD k0 0)).natAbs).length ≤ 8388608 := by rw [Int.natAbs_mul]; exact Nat.le_trans (yap (hfl k0 n hlk (Nat.le_refl _)) hbl) (by omega)
     refine wp_seq ?_
     refine wq [.val (iV (k0 : Nat)), .val (qtf2g1 w n m D f), .val (iV (m : Nat)), kT] [.inr 0, .inr 1, .inr 2] [.inl 3, .inr 0, .inr 1, .inr 2, .inr 3] S19 ?_ ?_
     ·apply jj4
      ·exact mS 0 16
      ·exact mS 2 8
      ·exact yal rfl wA rfl (oO 1 105) yj5 Tryz.underlying23 rfl
      ·exact yar wA (oO 0 104) (oO 2 106)
     intro B20 a20 W20 (S20 : Sta w 132 [(6, (qtf2g0 w Q P)), (12, (qtf2g0 w Q P)), (15, (.box 28 ((QQ (Dt.sm (fun c => f c n * (Bm.getD i0 []).getD c 0) k0) D) w.heap.size)))] [(107, bT), (16, iV (k0 : Nat)), (14, iV (i0 : Nat)), (8, (qtf2g1 w n m D f)), (0, Mv n Bm Kb)] _ _ _)
     refine wp_cond_true (S20.bool 0 107 rfl) (wp_skip (thenN (wp_seq (wp_block ?_))))
     refine wr [.val ((QQ (Dt.sm (fun c => f c n * (Bm.getD i0 []).getD c 0) k0) D) w.heap.size), .val (qtf2g1 w n m D f), .val (iV (k0 : Nat)), .val (AtE 4 ((QQ (f k0 n) D) w.heap.size)), .val ((QQ (f k0 n) D) w.heap.size), .val (Mv n Bm Kb), .val (iV (i0 : Nat)), .val (AtE 1 (Vv m (Bm.getD i0 []) Kb)), .val (Vv m (Bm.getD i0 []) Kb), .val (iV (k0 : Nat)), .val (AtE 2 (Zv ((Bm.getD i0 []).getD k0 0) Kb)), .val (Zv ((Bm.getD i0 []).getD k0 0) Kb), .val ((QQ (((Bm.getD i0 []).getD k0 0)) 1) w.heap.size), .val ((QQ (f k0 n * ((Bm.getD i0 []).getD k0 0)) (D * 1)) w.heap.size), .val ((QQ (Dt.sm (fun c => f c n * (Bm.getD i0 []).getD c 0) ((k0 + 1))) D) w.heap.size), .put (.inl 15) (.box 28 ((QQ (Dt.sm (fun c => f c n * (Bm.getD i0 []).getD c 0) ((k0 + 1))) D) w.heap.size))] [.inr 0, .inr 1, .inr 2] [.inr 1, .inr 2, .inr 3, .inr 4] S20 ?_ ?_
     ·repeat' refine And.intro ?_ ?_
      ·trivial
      ·exact lod 2 wA (yau yah ya6)
      ·exact mS 3 8
      ·exact mS 1 16
      ·exact yae rfl wA rfl ybs ((oO 1 111).imp yg8) (oO 2 112) (yas (· w.heap.size) (yas (fun p : Int × Nat => QQ p.1 p.2) (nr_get (f := fun k => f k n) (Q := D) hlk))) rfl
      ·exact yag rfl wA rfl ybz (by decide) (ya5 (by decide) ya6) (oO 3 113) rfl
      ·exact mS 4 0
      ·exact mS 2 14
      ·exact yae rfl wA rfl ya8 (oO 5 115) (oO 6 116) (by have q := yda (A := Bm) (K := Kb) (k := i0) (by omega); rw [hri] at q; exact q) rfl
      ·exact yag rfl wA rfl ya9 (by decide) yb3 (oO 7 117) rfl
      ·exact mS 1 16
      ·exact yae rfl wA rfl yby (oO 8 118) (oO 9 119) (yhj (by omega)) rfl
      ·exact yag rfl wA rfl ycp (by decide) (ya5 (by decide) ybc) (oO 10 120) rfl
      ·exact cc1 wA (qO 11 121 rfl) (ybh _ _) (fun w u h1 => Gives.cast (ymt (A := ((Bm.getD i0 []).getD k0 0)) (k := Kb) (by omega) w u h1) (qq_1 _))
      ·exact cc2 wA (qO 4 114 rfl) (qO 12 122 rfl) (ybh _ _) (fun w u v h1 h2 => yi8 (k := 3200000) (k' := 1048576) hD (by decide) (hfl k0 n hlk (Nat.le_refl _)) (Nat.le_trans hDl (by omega)) (Nat.le_trans hbl (by omega)) (Nat.le_trans one_dl (by omega)) (by omega) (by omega) w u v h1 h2)
      ·exact cc2 wA (qO 0 110 rfl) (qO 13 123 rfl) (ybh _ _) (fun w u v h1 h2 => Gives.cast (ψ := (QQ (Dt.sm (fun c => f c n * (Bm.getD i0 []).getD c 0) ((k0 + 1))) D)) (q_radd (k := 8388608) (k' := 8388608) hD hD1 (Nat.le_trans (hdzl i0 k0 (by omega) (by omega)) (by omega)) (Nat.le_trans hDl (by omega)) hfb (Nat.le_trans hD1l (by omega)) (by omega) (by omega) w u v h1 h2) (al_step (T := f k0 n) (N := f k0 n) (b := ((Bm.getD i0 []).getD k0 0)) hD hD rfl))
      ·exact ya7 rfl wA rfl (k := 2) rfl (by kernel_rfl) (oO 14 124) (yaf yah ya6 ya6) rfl
     intro B21 a21 W21 (S21 : Sta w 132 [(6, (qtf2g0 w Q P)), (12, (qtf2g0 w Q P)), (15, (.box 28 ((QQ (Dt.sm (fun c => f c n * (Bm.getD i0 []).getD c 0) ((k0 + 1))) D) w.heap.size)))] [(16, iV (k0 : Nat)), (14, iV (i0 : Nat)), (8, (qtf2g1 w n m D f)), (0, Mv n Bm Kb)] _ _ _)
     refine inBlkN (thenN ?_)
     refine wr [.val (iV (k0 : Nat)), .val (iV (k0 + 1 : Nat)), .val (iV (k0 + 1 : Nat))] [.inr 0, .inr 1, .inr 2] [.inl 2, .inr 1, .inr 2, .inr 3] S21 ?_ ?_
     ·apply jj3
      ·exact mS 0 16
      ·exact ya3 wA (oO 0 108) (yaa _)
      ·exact mO 1 109
     intro B22 a22 W22 (S22 : Sta w 132 [(6, (qtf2g0 w Q P)), (12, (qtf2g0 w Q P)), (15, (.box 28 ((QQ (Dt.sm (fun c => f c n * (Bm.getD i0 []).getD c 0) ((k0 + 1))) D) w.heap.size)))] [(16, iV (k0 + 1 : Nat)), (14, iV (i0 : Nat)), (8, (qtf2g1 w n m D f)), (0, Mv n Bm Kb)] _ _ _)
     refine thenN ?_
     exact ⟨k0 + 1, ⟨by omega, B22, S22.sub [0, 1, 2] [0, 1, 2, 3]⟩, by omega⟩
    ·have ek : k0 = m := by omega
     rw [ek, hdz i0 (by omega)] at S19
     refine wp_seq ?_
     refine wq [.val (iV (m : Nat)), .val (qtf2g1 w n m D f), .val (iV (m : Nat)), kF] [.inr 0, .inr 1, .inr 2] [.inl 3, .inr 0, .inr 1, .inr 2, .inr 3] S19 ?_ ?_
     ·apply jj4
      ·exact mS 0 16
      ·exact mS 2 8
      ·exact yal rfl wA rfl (oO 1 105) yj5 Tryz.underlying23 rfl
      ·exact yaz wA (oO 0 104) (oO 2 106)
     intro B20 a20 W20 (S20 : Sta w 132 [(6, (qtf2g0 w Q P)), (12, (qtf2g0 w Q P)), (15, (.box 28 ((QQ 0 D) w.heap.size)))] [(107, bF), (16, iV (m : Nat)), (14, iV (i0 : Nat)), (8, (qtf2g1 w n m D f)), (0, Mv n Bm Kb)] _ _ _)
     refine wp_cond_false (S20.bool 0 107 rfl) (wp_exit (thenX (thenX (inBlkE (thenN ?_)))))
     refine wq [.val (Part a20 15 0), .val ((ZN (nR (0) (D))) w.heap.size), .val (iV 0), kF] [.inr 0, .inr 1, .inr 2] [.inl 3, .inr 1, .inr 2, .inr 3, .inr 4] S20 ?_ ?_
     ·apply jj4
      ·exact ya2 rfl wA rfl (k := 2) rfl (by kernel_rfl) rfl (fun ρ w b h => ydl ρ _ _ w b 0 h)
      ·exact yav rfl wA rfl (oO 0 125) (k := 2) rfl (by kernel_rfl) rfl (fun ρ w b u h1 h2 h3 => ydm ρ _ _ w b u h1 h2 h3)
      ·exact cc1 wA (qO 1 126 rfl) (yak _) (fun w u h => Gives.cast (ψ := IS (.int .i64 0)) (yog (ka := 1) (by omega) w u (ycy (nR_len (show (digs (0 : Int).natAbs).length ≤ 1 by rw [show (0 : Int).natAbs = 0 from rfl, yc9]; exact Nat.zero_le _)) _ _ h)) (by rw [nr_sign hD]))
      ·exact ybm wA (oO 2 127) (yaa _) (h := rfl)
     intro B21 a21 W21 (S21 : Sta w 132 [(6, (qtf2g0 w Q P)), (12, (qtf2g0 w Q P)), (15, (.box 28 ((QQ 0 D) w.heap.size)))] [(128, bF), (16, iV (m : Nat)), (14, iV (i0 : Nat)), (8, (qtf2g1 w n m D f)), (0, Mv n Bm Kb)] _ _ _)
     refine wp_cond_false (S21.bool 0 128 rfl) (wp_skip (inBlkN (thenN ?_)))
     refine wr [.val (iV (i0 : Nat)), .val (iV (i0 + 1 : Nat)), .val (iV (i0 + 1 : Nat))] [.inr 0, .inr 1, .inr 2] [.inl 2, .inr 1, .inr 3, .inr 4] S21 ?_ ?_
     ·apply jj3
      ·exact mS 2 14
      ·exact ya3 wA (oO 0 100) (yaa _)
      ·exact mO 1 101
     intro B22 a22 W22 (S22 : Sta w 132 [(6, (qtf2g0 w Q P)), (12, (qtf2g0 w Q P)), (15, (.box 28 ((QQ 0 D) w.heap.size)))] [(14, iV (i0 + 1 : Nat)), (16, iV (m : Nat)), (8, (qtf2g1 w n m D f)), (0, Mv n Bm Kb)] _ _ _)
     refine thenN ?_
     exact ⟨i0 + 1, ⟨by omega, B22, S22.sub [0, 1] [0, 2, 3]⟩, by omega⟩
   ·skip
    refine wp_seq ?_
    refine wq [.val (iV (i0 : Nat)), .val (Mv n Bm Kb), .val (iV (n : Nat)), kF] [.inr 0, .inr 1] [.inl 3, .inr 0, .inr 1, .inr 2] S15 ?_ ?_
    ·apply jj4
     ·exact mS 0 14
     ·exact mS 2 0
     ·exact yal rfl wA rfl (oO 1 97) yaw Tryz.underlying22 rfl
     ·exact yaz wA (oO 0 96) (oO 2 98)
    intro B16 a16 W16 (S16 : Sta w 132 [(6, (qtf2g0 w Q P)), (12, (qtf2g0 w Q P))] [(99, bF), (14, iV (i0 : Nat)), (8, (qtf2g1 w n m D f)), (0, Mv n Bm Kb)] _ _ _)
    refine wp_cond_false (S16.bool 0 99 rfl) (wp_exit (thenX (thenX (inBlkE (thenN ?_)))))
    refine wq [.val ((QQ P Q) w.heap.size), .val ((QQ P Q) w.heap.size), kT, kT] [.inr 0, .inr 1] [.inl 3, .inr 1, .inr 2, .inr 3] S16 ?_ ?_
    ·apply jj4
     ·exact lod 1 wA (yau yah ya6)
     ·exact lod 0 wA (yau yah ya6)
     ·exact ch2 wA ((qO 0 129 rfl).imp (fun v w h => yqp v w h)) ((qO 1 130 rfl).imp (fun v w h => yqp v w h)) (yak _) (fun w u v h h' => yoh w u v _ _ _ _ h h')
     ·exact mO 2 131
    intro B17 a17 W17 (S17 : Sta w 132 [(6, (qtf2g0 w Q P)), (12, (qtf2g0 w Q P))] [(4, bT), (14, iV (i0 : Nat)), (8, (qtf2g1 w n m D f)), (0, Mv n Bm Kb)] _ _ _)
    refine wp_ret ?_
    exact ybe S17 rfl (yay S17 0 4 rfl)
section
variable {n m Kb K : Nat} {Bm : List (List Int)} {ts : List (Int × Int)} {x : Nat → Int}
theorem near_fine (lt : ts.length = m) (hok : OfOk Bm n) (hm12 : m ≤ 12) (hrow : ∀ j, j < n → (Bm.getD j []).length = m) (ok : DenOk ts) (hKb : Kb ≤ 1048576) (hdl : Mdl Bm Kb) (hT : ∀ k, k < m → (digs (ts.getD k (0, 0)).1.natAbs).length + dsum ts m ≤ 1048577)
  (hx1 : ∀ r, r < n → Dt.sm (fun c => x c * coG Bm ts m r c) n = Dt.det n (coG Bm ts m) * coG Bm ts m r n) (hx2 : ∀ r, Dt.bo (coG Bm ts m) n r n = Dt.det n (coG Bm ts m) * coG Bm ts m r n - Dt.sm (fun c => x c * coG Bm ts m r c) n) (hp : ∀ k, k ≤ n → 0 < Dt.det k (coG Bm ts m)) (h196 : (digs (dt (coG Bm ts m) n)).length ≤ 196) (hxl : ∀ i, i < n → (digs (x i).natAbs).length ≤ 2110000) :
  ∃ f : Nat → Nat → Int, (∀ k, k < m → f k 0 * (ts.getD k (0, 0)).2 = (ts.getD k (0, 0)).1 * ((dt (coG Bm ts m) n * cmN ts m : Nat) : Int)) ∧ (∀ k i, k < m → i < n → f k (i + 1) = f k i - ((List.range n).map x).getD i 0 * (Bm.getD i []).getD k 0) ∧ (∀ k i, k < m → i ≤ n → (digs (f k i).natAbs).length ≤ 3200000) ∧ (∀ i, i < n → Dt.sm (fun c => f c n * (Bm.getD i []).getD c 0) m = 0) ∧
   (∀ i k, i < n → k ≤ m → (digs (Dt.sm (fun c => f c n * (Bm.getD i []).getD c 0) k).natAbs).length ≤ 4300000) ∧ QQ (Dt.sm (fun c => f c n * f c n) m) (dt (coG Bm ts m) n * cmN ts m * (dt (coG Bm ts m) n * cmN ts m)) = QQ (Dt.bo (coG Bm ts m) n n n) (dt (coG Bm ts m) n * cmN ts m * cmN ts m) ∧ ∀ k, k ≤ m → (digs (Dt.sm (fun c => f c n * f c n) k).natAbs).length ≤ 6500000 := by
 have h12 := hok.top
 have lB := hok.len
 have dlT := tl_dl lt ok hT
 have hMz : cmN ts m ≠ 0 := cm_ne ok m (by omega)
 have hTt : ∀ k, k < m → (tlL ts (cmN ts m)).getD k 0 * (ts.getD k (0, 0)).2 = (ts.getD k (0, 0)).1 * ((cmN ts m : Nat) : Int) := fun k hk => by
  have q := tl_eq ok (k := k) (by omega)
  rw [lt] at q
  exact q
 unfold coG at *
 generalize hTe : tlL ts (cmN ts m) = T at *
 have lT : T.length = m := by rw [← hTe, tl_len, lt]
 generalize hG : gr (bxT Bm T) = G at *
 have bxn : (bxT Bm T).getD n [] = T := bx_at lB
 have hs : ∀ i j, G i j = G j i := fun i j => by rw [← hG]; exact yiq _ i j
 have hG1 : ∀ i, i < n → Dt.sm (fun k => T.getD k 0 * (Bm.getD i []).getD k 0) m = G n i := fun i hi => by
  rw [← hG]
  show _ = dotR ((bxT Bm T).getD n []) ((bxT Bm T).getD i [])
  rw [bxn, bx_lo (by omega), ymj _ _ m (by omega)]
 have hG2 : ∀ c i, c < n → i < n → Dt.sm (fun k => (Bm.getD c []).getD k 0 * (Bm.getD i []).getD k 0) m = G c i := fun c i hc hi => by
  rw [← hG]
  show _ = dotR ((bxT Bm T).getD c []) ((bxT Bm T).getD i [])
  rw [bx_lo (by omega), bx_lo (by omega), ymj _ _ m (by rw [hrow c hc]; exact Nat.le_refl _)]
 have hG3 : Dt.sm (fun k => T.getD k 0 * T.getD k 0) m = G n n := by
  rw [← hG]
  show _ = dotR ((bxT Bm T).getD n []) ((bxT Bm T).getD n [])
  rw [bxn, ymj _ _ m (by omega)]
 have hd := yfh hp (Nat.le_refl n)
 have hdz := ydk hp (Nat.le_refl n)
 obtain ⟨f1, f2⟩ := near_facts hG1 hG2 hG3 hs hd hx1 hx2
 have hrd : ∀ i, i < n → ∀ c, (digs ((Bm.getD i []).getD c 0).natAbs).length ≤ Kb := fun i hi c => ydc (hdl i _ (gD (d := []) (by omega))) c
 have hfl : ∀ k i, k < m → i ≤ n → (digs (nrP Bm T x (dt G n : Int) k i).natAbs).length ≤ 3200000 := fun k i hk hi => by
  have e1 : (digs ((dt G n : Int) * T.getD k 0).natAbs).length ≤ 196 + 1048577 := ybx (by rw [Int.natAbs_natCast]; exact h196) (ydc dlT k)
  have e2 : (digs (Dt.sm (fun c => x c * (Bm.getD c []).getD k 0) i).natAbs).length ≤ 2110000 + Kb + i := ynu (fun c hc => ybx (hxl c (by omega)) (hrd c (by omega) k))
  unfold nrP
  exact Nat.le_trans (yc1 (k := 3158588) (Nat.le_trans e1 (by omega)) (Nat.le_trans e2 (by omega))) (by omega)
 refine ⟨fun k i => nrP Bm T x (dt G n : Int) k i, fun k hk => ?_, fun k i hk hi => ?_, hfl, f1, fun i k hi hk => ?_, ?_, fun k hk => ?_⟩
 ·have q := hTt k hk
  show nrP Bm T x (dt G n : Int) k 0 * _ = _
  unfold nrP
  rw [Dt.sm, Int.natCast_mul]
  generalize (dt G n : Int) = d at *
  generalize (cmN ts m : Int) = M at *
  grind
 ·rw [yfq hi]
  exact nrP_step k i
 ·exact Nat.le_trans (ynu (K := 3200000 + Kb) (fun c hc => ybx (hfl c n (by omega) (Nat.le_refl _)) (hrd i hi c))) (by omega)
 ·refine yff (Nat.mul_ne_zero (Nat.mul_ne_zero hdz hMz) (Nat.mul_ne_zero hdz hMz)) (Nat.mul_ne_zero (Nat.mul_ne_zero hdz hMz) hMz) ?_
  show Dt.sm (fun k => nrP Bm T x (dt G n : Int) k n * nrP Bm T x (dt G n : Int) k n) m * _ = _
  rw [f2]
  simp only [Int.natCast_mul]
  generalize (dt G n : Int) = d at *
  generalize (cmN ts m : Int) = M at *
  grind
 ·exact Nat.le_trans (ynu (K := 3200000 + 3200000) (fun c hc => ybx (hfl c n (by omega) (Nat.le_refl _)) (hfl c n (by omega) (Nat.le_refl _)))) (by omega)
end
theorem gsonear_walk (w : World) (b : Option Addr) (n d : Nat) (rs : List Rw) (a1 : Option Addr) (m c1 : Nat) (rq : List Ra) (z0 : Ms w b n d rs) (s1 : Qs w a1 m c1 rq) (y0 : d ≤ 1048576) (yy0 : ∀ (i : Nat) (r : Rw), rs[i]? = some r → r.c ≤ 1048576 ∧ ∀ (j : Nat) (e : El), r.es[j]? = some e → e.c ≤ 1048576) (t0 : (rs.map (fun r => (r.es.map (fun e => e.c + 1)).sum)).sum ≤ 1048576) (t1 : (rq.map (fun r => r.x.c + r.y.c + 1)).sum ≤ 1048576) :
  Calls Tryz.prog 4 #[.slice b n d, .slice a1 m c1] w fun e w' => e = .returned (.bool true) ∧ Below w.heap.size w w' := by
 obtain ⟨hm, hq, hS, hT⟩ := co_tot s1 t1
 have q2 := z0.cap
 have q3 := z0.len
 obtain ⟨e1, _, e3⟩ := ms_n z0 (k := 1048576) yy0
 have hb : Hs w (Mv n (zz (rs.map Rw.es)) 1048576) (.slice b n d) := fun w' ev => mx_mv e1 _ w' (ms_hs z0 w' ev)
 have hml : Ml (zz (rs.map Rw.es)) 1048576 := fun i zs hz => by
  obtain ⟨es, he, rfl⟩ := yba hz
  rw [List.length_map]
  exact e3 i es he
 have hdl : Mdl (zz (rs.map Rw.es)) 1048576 := fun i zs hz => by
  obtain ⟨r, hr⟩ := mv_row hb.now hz
  exact yjq hr
 have hv := qs_hs s1 (k := 1048576) hq
 have lt : (qz rq).length = m := by simp [qz, s1.len]
 have key : Calls Tryz.prog 4 #[.slice b n d, .slice a1 m c1] w (Gives (IS (.bool true)) w) := by
  rcases co_allP (Kb := 1048576) (K := 1048576) (show (zz (rs.map Rw.es)).length = n by simp [zz, z0.len]) lt (by omega) hm (Nat.le_refl _) (Nat.le_refl _) (by omega) hml hdl hS hT with ⟨e0, he, hc⟩ | ⟨hok, hrow, ok, x, hx1, hx2, hp, h196, hxl, _, hc⟩
  ·exact gn_e w _ _ n m _ _ _ _ hb hv (by omega) hm e0 he hc
  ·have hm12 : m ≤ 12 := by
    have h1 := hrow 0 hok.pos
    have h2 := yd9 hok.nar 0
    omega
   obtain ⟨f, f1, f2, f3, f4, f5, f6, f7⟩ := near_fine lt hok hm12 hrow ok (Nat.le_refl _) hdl hT hx1 hx2 hp h196 hxl
   exact gn_w w _ _ n m _ _ _ _ hb hv (by omega) hm (Nat.le_refl _) (Nat.le_refl _) lt hok.pos hok.top hm12 hok.len hrow ok hdl _ (by simp) _ _ _ f (Nat.mul_ne_zero (ydk hp (Nat.le_refl _)) (cm_ne ok m (by omega))) (Nat.le_trans (yap h196 (yjy ok m (by omega))) (by omega)) (fun i hi => by rw [yfq hi]; exact hxl i hi) f1 f2 f3 f4 f5 f6 f7 hc
 refine key.mono ?_
 rintro e w' ⟨v, rfl, hb, hv⟩
 obtain rfl : v = _ := hv
 exact ⟨rfl, hb⟩
end Go.Proofs.YtdiagoaakadniaaGreat
