import Derived.Test.YtdiagoaakadniaaGreatCoA
import Derived.Test.YtdiagoaakadniaaGreatCoB
import Derived.Test.YtdiagoaakadniaaGreatMkC
import Derived.Test.YtdiagoaakadniaaGreatMkD
namespace Go.Proofs.YtdiagoaakadniaaGreat
open Go Go.RowKit Nt
set_option linter.unusedSimpArgs false
set_option linter.unusedVariables false
set_option maxRecDepth 20000
set_option maxHeartbeats 16000000
theorem rsqr_w (w : World) (u : Value) (P : Int) (Q k : Nat) (h : Hs w (QW P Q k) u) (hQ : Q ≠ 0) (hk : k ≤ 8388608) :
  Calls Tryz.prog 24 #[u] w (Gives (QQ (P * P) (Q * Q)) w) := by
 refine yam (sl := [(0, (QW P Q k))]) Tryz.func24 rfl Tryz.ntmps24 (by simp) (yab rfl (h) yaq) ?_
 intro a0 S0
 refine wq [.new (.box 28 (QW P Q k)), .new (.box 28 zR)] [.inl 0, .inl 1] [] S0 ?_ ?_
 ·apply jj2
  ·exact ycr rfl wA rfl (oS 0 0) rfl (fun ρ w h => yep ynr ρ _ _ w h)
  ·exact yat rfl wA rfl rfl (fun ρ w => ybd ρ _ w)
 intro _ a1 _ (S1 : Sta w 6 [(1, (.box 28 (QW P Q k))), (2, (.box 28 zR))] [] _ _ _)
 refine wq [.val (QW P Q k), .val (QW P Q k), .val ((QQ (P * P) (Q * Q)) w.heap.size), .put (.inl 2) (.box 28 ((QQ (P * P) (Q * Q)) w.heap.size))] [.inr 1] [] S1 ?_ ?_
 ·apply jj4
  ·exact lod 0 wA (yau yah ynr)
  ·exact lod 0 wA (yau yah ynr)
  ·exact cc2 wA (qO 0 3 rfl) (qO 1 4 rfl) (ybh _ _) (fun w u v h1 h2 => qw_rmul hQ hQ hk hk w u v h1 h2)
  ·exact ya7 rfl wA rfl (k := 1) rfl (by kernel_rfl) (oO 2 5) (yaf yah ybr ya6) rfl
 intro _ a2 _ (S2 : Sta w 6 [(2, (.box 28 ((QQ (P * P) (Q * Q)) w.heap.size)))] [] _ _ _)
 refine wp_ret ?_
 exact ybe S2 rfl (ybb S2 0 2 rfl yah ya6)
theorem rtmr_w (w : World) (u v : Value) (P z : Int) (Q k kz : Nat) (h : Hs w (QW P Q k) u) (hv : Hs w (Zv z kz) v) (hQ : Q ≠ 0) (hk : k ≤ 8388608) (hz : (digs z.natAbs).length ≤ 8388608) (hkz : kz ≤ 8388608) :
  Calls Tryz.prog 53 #[u, v] w (Gives (QQ (P * z) (Q * 1)) w) := by
 refine yam (sl := [(0, (QW P Q k)), (1, (Zv z kz))]) Tryz.func53 rfl Tryz.ntmps53 (by simp) (yab rfl (h) (yab rfl (hv) yaq)) ?_
 intro a0 S0
 refine wq [.new (.box 28 (QW P Q k)), .new (.box 26 (Zv z kz)), .new (.box 28 zR)] [.inl 0, .inl 1, .inl 2] [] S0 ?_ ?_
 ·apply jj3
  ·exact ycr rfl wA rfl (oS 0 0) rfl (fun ρ w h => yep ynr ρ _ _ w h)
  ·exact ycr rfl wA rfl (oS 1 1) rfl (fun ρ w h => yg3 ybc ρ _ _ w h)
  ·exact yat rfl wA rfl rfl (fun ρ w => ybd ρ _ w)
 intro _ a1 _ (S1 : Sta w 9 [(2, (.box 28 (QW P Q k))), (3, (.box 26 (Zv z kz))), (4, (.box 28 zR))] [] _ _ _)
 refine wq [.val (QW P Q k), .val (Zv z kz), .val ((QQ z 1) w.heap.size), .val ((QQ (P * z) (Q * 1)) w.heap.size), .put (.inl 4) (.box 28 ((QQ (P * z) (Q * 1)) w.heap.size))] [.inr 2] [] S1 ?_ ?_
 ·apply jj5
  ·exact lod 0 wA (yau yah ynr)
  ·exact lod 1 wA (yau yaj ybc)
  ·exact cc1 wA (qO 1 6 rfl) (ybh _ _) (fun w u h1 => Gives.cast (ymt (A := z) (k := kz) (by omega) w u h1) (qq_1 z))
  ·exact cc2 wA (qO 0 5 rfl) (qO 2 7 rfl) (ybh _ _) (fun w u v h1 h2 => qw_rmul (k' := 8388608) hQ (by decide) hk (Nat.le_refl _) w u v h1 (qw_qq (by decide) hz (Nat.le_trans one_dl (by omega)) v w h2))
  ·exact ya7 rfl wA rfl (k := 2) rfl (by kernel_rfl) (oO 3 8) (yaf yah ybr ya6) rfl
 intro _ a2 _ (S2 : Sta w 9 [(4, (.box 28 ((QQ (P * z) (Q * 1)) w.heap.size)))] [] _ _ _)
 refine wp_ret ?_
 exact ybe S2 rfl (ybb S2 0 4 rfl yah ya6)
abbrev yf8  : Rk := .box 28 zR
abbrev yqd (w : World) (m : Nat) (M : Nat) (T : List Int) (b : List Int) : Rk := .box 28 ((QQ (Dt.sm (fun c => T.getD c 0 * b.getD c 0) m) M) w.heap.size)
theorem along_w (w : World) (u v : Value) (m K Kb M : Nat) (ts : List (Int × Int)) (T b : List Int) (h : Hs w (QV m ts K) u) (hv : Hs w (Vv m b Kb) v) (hm : m ≤ 1048576) (hK : K ≤ 1048576) (hKb : Kb ≤ 1048576) (lt : ts.length = m) (ok : DenOk ts) (hM : M ≠ 0) (hMl : (digs M).length ≤ 4194304) (hT : ∀ k, k < m → T.getD k 0 * (ts.getD k (0, 0)).2 = (ts.getD k (0, 0)).1 * (M : Int)) (hA : ∀ k, k ≤ m → (digs (Dt.sm (fun c => T.getD c 0 * b.getD c 0) k).natAbs).length ≤ 8388608) :
  Calls Tryz.prog 23 #[u, v] w (Gives (QQ (Dt.sm (fun c => T.getD c 0 * b.getD c 0) m) M) w) := by
 refine yam (sl := [(0, (QV m ts K)), (1, (Vv m b Kb))]) Tryz.func23 rfl Tryz.ntmps23 (by simp) (yab rfl (h) (yab rfl (hv) yaq)) ?_
 intro a0 S0
 refine wq [.new (yf8)] [.inl 0] [.inr 0, .inr 1] S0 ?_ ?_
 ·apply jj1
  ·exact yat rfl wA rfl rfl (fun ρ w => ybd ρ _ w)
 intro _ a1 _ (S1 : Sta w 27 [(4, (yf8))] [(0, (QV m ts K)), (1, Vv m b Kb)] _ _ _)
 refine wq [.val zI, .val ((QQ (Dt.sm (fun c => T.getD c 0 * b.getD c 0) 0) M) w.heap.size), .new (yf8), .put (.inr 2) (.box 28 ((QQ (Dt.sm (fun c => T.getD c 0 * b.getD c 0) 0) M) w.heap.size))] [.inr 0, .inl 2] [.inr 0, .inr 1] S1 ?_ ?_
 ·apply jj4
  ·exact ygq rfl wA rfl rfl
  ·exact cc1 wA (qO 0 7 rfl) (ybh _ _) (fun w u0 h0 => Gives.cast ((fun w u h => ymt (A := 0) (k := 0) (by omega) w u (zero_zv u w h)) w u0 h0) (by exact qq_zero hM))
  ·exact yat rfl wA rfl rfl (fun ρ w => ybd ρ _ w)
  ·exact ybj 2 rfl wA rfl (by kernel_rfl) rfl (oO 1 8) (yaf yah ybr ya6) rfl
 intro _ a2 _ (S2 : Sta w 27 [(4, (yf8)), (5, (.box 28 ((QQ (Dt.sm (fun c => T.getD c 0 * b.getD c 0) 0) M) w.heap.size)))] [(0, (QV m ts K)), (1, Vv m b Kb)] _ _ _)
 refine wp_seq ?_
 refine wq [.val (iV 0)] [.inr 0, .inr 1] [.inl 0, .inr 0, .inr 1] S2 ?_ ?_
 ·apply jj1
  ·exact mC
 intro B3 a3 _ (S3 : Sta w 27 [(4, (yf8)), (5, (.box 28 ((QQ (Dt.sm (fun c => T.getD c 0 * b.getD c 0) 0) M) w.heap.size)))] [(6, iV 0), (0, (QV m ts K)), (1, Vv m b Kb)] _ _ _)
 refine wp_block ?_
 refine yan (fun (k0 : Nat) a W => (k0 ≤ m) ∧ ∃ Bq, Sta w 27 [(4, (yf8)), (5, (.box 28 ((QQ (Dt.sm (fun c => T.getD c 0 * b.getD c 0) k0) M) w.heap.size)))] [(6, iV (k0 : Nat)), (0, (QV m ts K)), (1, Vv m b Kb)] Bq a W) (fun (k0 : Nat) => m - k0) ?_ 0 ⟨Nat.zero_le _, B3, S3.sub [0, 1] [0, 1, 2]⟩
 rintro k0 a4 _ ⟨hcond, _, S4⟩
 by_cases hlt : k0 < m
 ·have hd := ok k0 (by omega)
  obtain ⟨q1, q2⟩ := qv_dl h.now (i := k0) (by omega)
  have hdz : (ts.getD k0 (0, 0)).2.toNat ≠ 0 := by omega
  have hTk := hT k0 (by omega)
  rw [show (ts.getD k0 (0, 0)).2 = (((ts.getD k0 (0, 0)).2.toNat : Nat) : Int) by omega] at hTk
  have q3 := ydc (yjq hv.now) k0
  have hAk := hA k0 (by omega)
  have q4 : (digs ((ts.getD k0 (0, 0)).1 * b.getD k0 0).natAbs).length ≤ 2097152 := by rw [Int.natAbs_mul]; exact Nat.le_trans (yap q1 q3) (by omega)
  have q5 : (digs ((ts.getD k0 (0, 0)).2.toNat * 1)).length ≤ 2097152 := by rw [Nat.mul_one]; exact Nat.le_trans (yai (by omega)) (Nat.le_trans q2 (by omega))
  have eb := yhy hv.now
  refine wp_seq ?_
  refine wq [.val (iV (k0 : Nat)), .val (QV m ts K), .val (iV (m : Nat)), kT] [.inr 0, .inr 1] [.inl 3, .inr 0, .inr 1, .inr 2] S4 ?_ ?_
  ·apply jj4
   ·exact mS 0 6
   ·exact mS 1 0
   ·exact yal rfl wA rfl (oO 1 10) yaw Tryz.underlying23 rfl
   ·exact yar wA (oO 0 9) (oO 2 11)
  intro B5 a5 W5 (S5 : Sta w 27 [(4, (yf8)), (5, (.box 28 ((QQ (Dt.sm (fun c => T.getD c 0 * b.getD c 0) k0) M) w.heap.size)))] [(12, bT), (6, iV (k0 : Nat)), (0, (QV m ts K)), (1, Vv m b Kb)] _ _ _)
  refine wp_cond_true (S5.bool 0 12 rfl) (wp_skip (thenN (wp_seq (wp_block ?_))))
  refine wr [.val ((QQ (Dt.sm (fun c => T.getD c 0 * b.getD c 0) k0) M) w.heap.size), .val (QV m ts K), .val (iV (k0 : Nat)), .val (AtE 4 (PR (Zv ((ts.getD k0 (0, 0)).1) K) (Zv ((ts.getD k0 (0, 0)).2) K))), .val (PR (Zv ((ts.getD k0 (0, 0)).1) K) (Zv ((ts.getD k0 (0, 0)).2) K)), .val (Vv m b Kb), .val (iV (k0 : Nat)), .val (AtE 2 (Zv (b.getD k0 0) Kb)), .val (Zv (b.getD k0 0) Kb), .val ((QQ ((ts.getD k0 (0, 0)).1 * b.getD k0 0) ((ts.getD k0 (0, 0)).2.toNat * 1)) w.heap.size), .val ((QQ (Dt.sm (fun c => T.getD c 0 * b.getD c 0) ((k0 + 1))) M) w.heap.size), .put (.inl 5) (.box 28 ((QQ (Dt.sm (fun c => T.getD c 0 * b.getD c 0) ((k0 + 1))) M) w.heap.size))] [.inr 0, .inr 1] [.inr 1, .inr 2, .inr 3] S5 ?_ ?_
  ·repeat' refine And.intro ?_ ?_
   ·trivial
   ·exact lod 1 wA (yau yah ya6)
   ·exact mS 2 0
   ·exact mS 1 6
   ·exact yae rfl wA rfl ybs (oO 1 16) (oO 2 17) (yjd (by omega)) rfl
   ·exact yag rfl wA rfl ybz (by decide) (ya5 (by decide) (ych ybc ybc)) (oO 3 18) rfl
   ·exact mS 3 1
   ·exact mS 1 6
   ·exact yae rfl wA rfl yby (oO 5 20) (oO 6 21) (yhj (by omega)) rfl
   ·exact yag rfl wA rfl ycp (by decide) (ya5 (by decide) ybc) (oO 7 22) rfl
   ·exact ch2 wA ((qO 4 19 rfl).imp (qw_raw hd)) (qO 8 23 rfl) (ybh _ _) (fun w u v h1 h2 => rtmr_w w u v _ _ _ K Kb h1 h2 hdz (by omega) (Nat.le_trans q3 (by omega)) (by omega))
   ·exact cc2 wA (qO 0 15 rfl) (qO 9 24 rfl) (ybh _ _) (fun w u v h1 h2 => Gives.cast (ψ := (QQ (Dt.sm (fun c => T.getD c 0 * b.getD c 0) ((k0 + 1))) M)) (q_radd (k := 8388608) (k' := 2097152) hM (Nat.mul_ne_zero hdz (by decide)) hAk (Nat.le_trans hMl (by omega)) q4 q5 (Nat.le_refl _) (by omega) w u v h1 h2) (al_step hdz hM hTk))
   ·exact ya7 rfl wA rfl (k := 1) rfl (by kernel_rfl) (oO 10 25) (yaf yah ya6 ya6) rfl
  intro B6 a6 W6 (S6 : Sta w 27 [(4, (yf8)), (5, (.box 28 ((QQ (Dt.sm (fun c => T.getD c 0 * b.getD c 0) ((k0 + 1))) M) w.heap.size)))] [(6, iV (k0 : Nat)), (0, (QV m ts K)), (1, Vv m b Kb)] _ _ _)
  refine inBlkN (thenN ?_)
  refine wr [.val (iV (k0 : Nat)), .val (iV (k0 + 1 : Nat)), .val (iV (k0 + 1 : Nat))] [.inr 0, .inr 1] [.inl 2, .inr 1, .inr 2] S6 ?_ ?_
  ·apply jj3
   ·exact mS 0 6
   ·exact ya3 wA (oO 0 13) (yaa _)
   ·exact mO 1 14
  intro B7 a7 _ (S7 : Sta w 27 [(4, (yf8)), (5, (.box 28 ((QQ (Dt.sm (fun c => T.getD c 0 * b.getD c 0) ((k0 + 1))) M) w.heap.size)))] [(6, iV (k0 + 1 : Nat)), (0, (QV m ts K)), (1, Vv m b Kb)] _ _ _)
  refine thenN ?_
  exact ⟨k0 + 1, ⟨by omega, B7, S7.sub [0, 1] [0, 1, 2]⟩, by omega⟩
 ·have ek : k0 = m := by omega
  rw [ek] at S4
  refine wp_seq ?_
  refine wq [.val (iV (m : Nat)), .val (QV m ts K), .val (iV (m : Nat)), kF] [.inr 0, .inr 1] [.inl 3, .inr 0, .inr 1, .inr 2] S4 ?_ ?_
  ·apply jj4
   ·exact mS 0 6
   ·exact mS 1 0
   ·exact yal rfl wA rfl (oO 1 10) yaw Tryz.underlying23 rfl
   ·exact yaz wA (oO 0 9) (oO 2 11)
  intro B5 a5 W5 (S5 : Sta w 27 [(4, (yf8)), (5, (yqd w m M T b))] [(12, bF), (6, iV (m : Nat)), (0, (QV m ts K)), (1, Vv m b Kb)] _ _ _)
  refine wp_cond_false (S5.bool 0 12 rfl) (wp_exit (thenX (thenX (inBlkE (thenN ?_)))))
  refine wq [.val ((QQ (Dt.sm (fun c => T.getD c 0 * b.getD c 0) m) M) w.heap.size), .put (.inl 4) (yqd w m M T b)] [.inr 0, .inr 1] [.inr 1, .inr 2, .inr 3] S5 ?_ ?_
  ·apply jj2
   ·exact lod 1 wA (yau yah ya6)
   ·exact ya7 rfl wA rfl (k := 0) rfl (by kernel_rfl) (oO 0 26) (yaf yah ybr ya6) rfl
  intro B6 a6 W6 (S6 : Sta w 27 [(4, (yqd w m M T b)), (5, (yqd w m M T b))] [(6, iV (m : Nat)), (0, (QV m ts K)), (1, Vv m b Kb)] _ _ _)
  refine wp_ret ?_
  exact ybe S6 rfl (ybb S6 0 4 rfl yah ya6)
abbrev ynd  : Rk := .box 55 (Is (.agg #[.slice none 0 0, .slice none 0 0]))
abbrev ykf  : Rk := .box 28 zR
theorem r5co_e (w : World) (u v : Value) (n m Kb K : Nat) (Bm : List (List Int)) (ts : List (Int × Int)) (h : Hs w (Mv n Bm Kb) u) (hv : Hs w (QV m ts K) v) (hn : n ≤ 1048576) (hm : m ≤ 1048576) (hK : K ≤ 1048576) (hKb : Kb ≤ 1048576) (lt : ts.length = m) (e0 : Int) (he : e0 ≠ 0) (hch : ChGives n Kb Bm (TWO G0 (IS (.int .i64 e0)))) :
  Calls Tryz.prog 6 #[u, v] w (Gives (THREE (IS (.slice none 0 0)) (IS (.agg #[.bool false, .slice none 0 0, .bool false, .slice none 0 0])) (IS (.int .i64 e0))) w) := by
 refine yam (sl := [(0, (Mv n Bm Kb)), (1, (QV m ts K))]) Tryz.func6 rfl Tryz.ntmps6 (by simp) (yab rfl (h) (yab rfl (hv) yaq)) ?_
 intro a0 S0
 refine wq [.val (Is (.slice none 0 0)), .new (ykf), .val (iV 0)] [.inl 1] [.inr 0, .inr 1] S0 ?_ ?_
 ·apply jj3
  ·exact mC
  ·exact yat rfl wA rfl rfl (fun ρ w => ybd ρ _ w)
  ·exact mC
 intro _ a1 _ (S1 : Sta w 159 [(5, (ykf))] [(0, Mv n Bm Kb), (1, (QV m ts K))] _ _ _)
 refine wq [.val (Mv n Bm Kb), .val ((TWO (IS (.agg #[.slice none 0 0, .slice none 0 0])) (IS (.int .i64 e0))) w.heap.size), .val ((TWO (IS (.agg #[.slice none 0 0, .slice none 0 0])) (IS (.int .i64 e0))) w.heap.size), .val (Is (.agg #[.slice none 0 0, .slice none 0 0])), .val (iV e0), .new (ynd), .put (.inr 5) (ynd), .val (iV e0)] [.inr 0, .inl 5] [.inl 7, .inr 0, .inr 1] S1 ?_ ?_
 ·repeat' refine And.intro ?_ ?_
  ·trivial
  ·exact mS 0 0
  ·exact ch2 wA (qO 0 22 rfl) (yaa _) (ybo (yak _) (yak _)) (fun w u b h hb => by obtain rfl : b = _ := hb.now; exact hch w u h)
  ·exact mO 1 23
  ·exact e20 wA (oO 2 21)
  ·exact e21 wA (oO 2 21)
  ·exact yat rfl wA rfl rfl (fun ρ w => yca ρ _ w)
  ·exact ybj 5 rfl wA rfl (by kernel_rfl) rfl (oO 3 24) (yaf ybn yb2 yb2) rfl
  ·exact mO 4 25
 intro _ a2 _ (S2 : Sta w 159 [(5, (ykf)), (7, (ynd))] [(8, iV e0), (0, Mv n Bm Kb), (1, (QV m ts K))] _ _ _)
 refine wp_seq ?_
 refine wq [.val (iV e0), kT] [.inr 0, .inr 1] [.inl 1, .inr 0, .inr 1, .inr 2] S2 ?_ ?_
 ·apply jj2
  ·exact mS 0 8
  ·exact yds wA (oO 0 26) (yaa _) (h := he)
 intro _ a3 _ (S3 : Sta w 159 [(5, (ykf)), (7, (ynd))] [(27, bT), (8, iV e0), (0, Mv n Bm Kb), (1, (QV m ts K))] _ _ _)
 refine wp_cond_true (S3.bool 0 27 rfl) ?_
 refine wq [.val zR, .val (iV e0), .val (Is (.slice none 0 0)), .put (.inl 5) (ykf), .val (iV e0)] [.inr 0, .inr 1] [.inl 2, .inl 4] S3 ?_ ?_
 ·apply jj5
  ·exact yc6 rfl wA rfl rfl
  ·exact mS 1 8
  ·exact mC
  ·exact ya7 rfl wA rfl (k := 0) rfl (by kernel_rfl) (oO 0 28) (yaf yah ybr ybr) rfl
  ·exact mO 1 29
 intro _ a4 _ (S4 : Sta w 159 [(5, (ykf)), (7, (ynd))] [(4, Is (.slice none 0 0)), (6, iV e0)] _ _ _)
 refine wp_ret (thenR ?_)
 exact yc2 S4 rfl (yay S4 0 4 rfl) (ybb S4 0 5 rfl yah ybr) (yay S4 1 6 rfl)
abbrev yne (w : World) (n : Nat) (G : Nat → Nat → Int) : Rk := .box 55 ((FN n (mmL G n) (stL G n)) w.heap.size)
abbrev yjc  : Rk := .box 28 zR
theorem r5co_s (w : World) (u v : Value) (n m Kb K : Nat) (Bm : List (List Int)) (ts : List (Int × Int)) (h : Hs w (Mv n Bm Kb) u) (hv : Hs w (QV m ts K) v) (hn : n ≤ 1048576) (hm : m ≤ 1048576) (hK : K ≤ 1048576) (hKb : Kb ≤ 1048576) (lt : ts.length = m) (wd : Nat) (G : Nat → Nat → Int) (lB : Bm.length = n) (h0 : 0 < n) (hw0 : (Bm.getD 0 []).length = wd) (hwd : wd ≤ 12) (hne : m ≠ wd) (hch : ChGives n Kb Bm ((TWO (FN n (mmL G n) (stL G n)) (IS (.int .i64 0))))) :
  Calls Tryz.prog 6 #[u, v] w (Gives (THREE (IS (.slice none 0 0)) (IS (.agg #[.bool false, .slice none 0 0, .bool false, .slice none 0 0])) (IS (.int .i64 8))) w) := by
 refine yam (sl := [(0, (Mv n Bm Kb)), (1, (QV m ts K))]) Tryz.func6 rfl Tryz.ntmps6 (by simp) (yab rfl (h) (yab rfl (hv) yaq)) ?_
 intro a0 S0
 refine wq [.val (Is (.slice none 0 0)), .new (yjc), .val (iV 0)] [.inl 1] [.inr 0, .inr 1] S0 ?_ ?_
 ·apply jj3
  ·exact mC
  ·exact yat rfl wA rfl rfl (fun ρ w => ybd ρ _ w)
  ·exact mC
 intro _ a1 _ (S1 : Sta w 159 [(5, (yjc))] [(0, Mv n Bm Kb), (1, (QV m ts K))] _ _ _)
 refine wq [.val (Mv n Bm Kb), .val ((TWO (FN n (mmL G n) (stL G n)) (IS (.int .i64 0))) w.heap.size), .val ((TWO (FN n (mmL G n) (stL G n)) (IS (.int .i64 0))) w.heap.size), .val ((FN n (mmL G n) (stL G n)) w.heap.size), .val (iV 0), .new (.box 55 (Is (.agg #[.slice none 0 0, .slice none 0 0]))), .put (.inr 5) (yne w n G), .val (iV 0)] [.inr 0, .inl 5] [.inl 7, .inr 0, .inr 1] S1 ?_ ?_
 ·repeat' refine And.intro ?_ ?_
  ·trivial
  ·exact mS 0 0
  ·exact ch2 wA (qO 0 22 rfl) (yaa _) (ybo ygh (yak _)) (fun w u b h hb => by obtain rfl : b = _ := hb.now; exact hch w u h)
  ·exact mO 1 23
  ·exact e20 wA (oO 2 21)
  ·exact e21 wA (oO 2 21)
  ·exact yat rfl wA rfl rfl (fun ρ w => yca ρ _ w)
  ·exact ybj 5 rfl wA rfl (by kernel_rfl) rfl (oO 3 24) (yaf ybn yb2 yb1) rfl
  ·exact mO 4 25
 intro _ a2 _ (S2 : Sta w 159 [(5, (yjc)), (7, (yne w n G))] [(8, iV 0), (0, Mv n Bm Kb), (1, (QV m ts K))] _ _ _)
 refine wp_seq ?_
 refine wq [.val (iV 0), kF] [.inr 0, .inr 1] [.inl 1, .inr 0, .inr 1, .inr 2] S2 ?_ ?_
 ·apply jj2
  ·exact mS 0 8
  ·exact ybm wA (oO 0 26) (yaa _) (h := rfl)
 intro _ a3 _ (S3 : Sta w 159 [(5, (yjc)), (7, (yne w n G))] [(27, bF), (8, iV 0), (0, Mv n Bm Kb), (1, (QV m ts K))] _ _ _)
 refine wp_cond_false (S3.bool 0 27 rfl) (wp_skip (thenN (wp_seq ?_)))
 refine wq [.val (QV m ts K), .val (iV (m : Nat)), .val (Mv n Bm Kb), .val (AtE 1 (Vv wd (Bm.getD 0 []) Kb)), .val (Vv wd (Bm.getD 0 []) Kb), .val (iV (wd : Nat)), kT] [.inr 0, .inr 1] [.inl 6, .inr 2, .inr 3] S3 ?_ ?_
 ·repeat' refine And.intro ?_ ?_
  ·trivial
  ·exact mS 3 1
  ·exact yal rfl wA rfl (oO 0 30) yaw Tryz.underlying23 rfl
  ·exact mS 2 0
  ·exact yae rfl wA rfl ya8 (oO 2 32) (yaa _) (by have q := yda (A := Bm) (K := Kb) (k := 0) (by omega); rw [hw0] at q; exact q) rfl
  ·exact yag rfl wA rfl ya9 (by decide) yb3 (oO 3 33) rfl
  ·exact yal rfl wA rfl (oO 4 34) yaw Tryz.underlying39 rfl
  ·exact yds wA (oO 1 31) (oO 5 35)
 intro _ a4 _ (S4 : Sta w 159 [(5, (yjc)), (7, (yne w n G))] [(36, bT), (0, Mv n Bm Kb), (1, (QV m ts K))] _ _ _)
 refine wp_cond_true (S4.bool 0 36 rfl) ?_
 refine wq [.val zR, .val (Is (.slice none 0 0)), .put (.inl 5) (yjc), .val (iV 8)] [.inr 0, .inr 1] [.inl 1, .inl 3] S4 ?_ ?_
 ·apply jj4
  ·exact yc6 rfl wA rfl rfl
  ·exact mC
  ·exact ya7 rfl wA rfl (k := 0) rfl (by kernel_rfl) (oO 0 37) (yaf yah ybr ybr) rfl
  ·exact mC
 intro _ a5 _ (S5 : Sta w 159 [(5, (yjc)), (7, (yne w n G))] [(4, Is (.slice none 0 0)), (6, iV 8)] _ _ _)
 refine wp_ret (thenR ?_)
 exact yc2 S5 rfl (yay S5 0 4 rfl) (ybb S5 0 5 rfl yah ybr) (yay S5 1 6 rfl)
abbrev yfd (w : World) (n : Nat) (G : Nat → Nat → Int) : Rk := .box 55 ((FN n (mmL G n) (stL G n)) w.heap.size)
abbrev yel  : Rk := .box 28 zR
abbrev yp3 (K : Nat) (ts : List (Int × Int)) (k0 : Nat) : Pr := PR (Zv ((ts.getD k0 (0, 0)).1) K) (Zv ((ts.getD k0 (0, 0)).2) K)
theorem r5co_r (w : World) (u v : Value) (n m Kb K : Nat) (Bm : List (List Int)) (ts : List (Int × Int)) (h : Hs w (Mv n Bm Kb) u) (hv : Hs w (QV m ts K) v) (hn : n ≤ 1048576) (hm : m ≤ 1048576) (hK : K ≤ 1048576) (hKb : Kb ≤ 1048576) (lt : ts.length = m) (wd : Nat) (G : Nat → Nat → Int) (lB : Bm.length = n) (h0 : 0 < n) (hw0 : (Bm.getD 0 []).length = wd) (hwd : wd ≤ 12) (hm2 : m = wd) (i0 : Nat) (hi : i0 < m) (ht : ∀ i, i < i0 → 0 < (ts.getD i (0, 0)).2) (hz : (ts.getD i0 (0, 0)).2 ≤ 0) (hch : ChGives n Kb Bm ((TWO (FN n (mmL G n) (stL G n)) (IS (.int .i64 0))))) :
  Calls Tryz.prog 6 #[u, v] w (Gives (THREE (IS (.slice none 0 0)) (IS (.agg #[.bool false, .slice none 0 0, .bool false, .slice none 0 0])) (IS (.int .i64 30))) w) := by
 refine yam (sl := [(0, (Mv n Bm Kb)), (1, (QV m ts K))]) Tryz.func6 rfl Tryz.ntmps6 (by simp) (yab rfl (h) (yab rfl (hv) yaq)) ?_
 intro a0 S0
 refine wq [.val (Is (.slice none 0 0)), .new (yel), .val (iV 0)] [.inl 1] [.inr 0, .inr 1] S0 ?_ ?_
 ·apply jj3
  ·exact mC
  ·exact yat rfl wA rfl rfl (fun ρ w => ybd ρ _ w)
  ·exact mC
 intro _ a1 _ (S1 : Sta w 159 [(5, (yel))] [(0, Mv n Bm Kb), (1, (QV m ts K))] _ _ _)
 refine wq [.val (Mv n Bm Kb), .val ((TWO (FN n (mmL G n) (stL G n)) (IS (.int .i64 0))) w.heap.size), .val ((TWO (FN n (mmL G n) (stL G n)) (IS (.int .i64 0))) w.heap.size), .val ((FN n (mmL G n) (stL G n)) w.heap.size), .val (iV 0), .new (.box 55 (Is (.agg #[.slice none 0 0, .slice none 0 0]))), .put (.inr 5) (yfd w n G), .val (iV 0)] [.inr 0, .inl 5] [.inl 7, .inr 0, .inr 1] S1 ?_ ?_
 ·repeat' refine And.intro ?_ ?_
  ·trivial
  ·exact mS 0 0
  ·exact ch2 wA (qO 0 22 rfl) (yaa _) (ybo ygh (yak _)) (fun w u b h hb => by obtain rfl : b = _ := hb.now; exact hch w u h)
  ·exact mO 1 23
  ·exact e20 wA (oO 2 21)
  ·exact e21 wA (oO 2 21)
  ·exact yat rfl wA rfl rfl (fun ρ w => yca ρ _ w)
  ·exact ybj 5 rfl wA rfl (by kernel_rfl) rfl (oO 3 24) (yaf ybn yb2 yb1) rfl
  ·exact mO 4 25
 intro _ a2 _ (S2 : Sta w 159 [(5, (yel)), (7, (yfd w n G))] [(8, iV 0), (0, Mv n Bm Kb), (1, (QV m ts K))] _ _ _)
 refine wp_seq ?_
 refine wq [.val (iV 0), kF] [.inr 0, .inr 1] [.inl 1, .inr 0, .inr 1, .inr 2] S2 ?_ ?_
 ·apply jj2
  ·exact mS 0 8
  ·exact ybm wA (oO 0 26) (yaa _) (h := rfl)
 intro _ a3 _ (S3 : Sta w 159 [(5, (yel)), (7, (yfd w n G))] [(27, bF), (8, iV 0), (0, Mv n Bm Kb), (1, (QV m ts K))] _ _ _)
 refine wp_cond_false (S3.bool 0 27 rfl) (wp_skip (thenN (wp_seq ?_)))
 refine wq [.val (QV m ts K), .val (iV (m : Nat)), .val (Mv n Bm Kb), .val (AtE 1 (Vv wd (Bm.getD 0 []) Kb)), .val (Vv wd (Bm.getD 0 []) Kb), .val (iV (wd : Nat)), kF] [.inr 0, .inr 1] [.inl 6, .inr 2, .inr 3] S3 ?_ ?_
 ·repeat' refine And.intro ?_ ?_
  ·trivial
  ·exact mS 3 1
  ·exact yal rfl wA rfl (oO 0 30) yaw Tryz.underlying23 rfl
  ·exact mS 2 0
  ·exact yae rfl wA rfl ya8 (oO 2 32) (yaa _) (by have q := yda (A := Bm) (K := Kb) (k := 0) (by omega); rw [hw0] at q; exact q) rfl
  ·exact yag rfl wA rfl ya9 (by decide) yb3 (oO 3 33) rfl
  ·exact yal rfl wA rfl (oO 4 34) yaw Tryz.underlying39 rfl
  ·exact ybm wA (oO 1 31) (oO 5 35)
 intro _ a4 _ (S4 : Sta w 159 [(5, (yel)), (7, (yfd w n G))] [(36, bF), (0, Mv n Bm Kb), (1, (QV m ts K))] _ _ _)
 refine wp_cond_false (S4.bool 0 36 rfl) (wp_skip (thenN (wp_seq ?_)))
 refine wq [.val (iV 0)] [.inr 0, .inr 1] [.inl 0, .inr 1, .inr 2] S4 ?_ ?_
 ·apply jj1
  ·exact mC
 intro B5 a5 _ (S5 : Sta w 159 [(5, (yel)), (7, (yfd w n G))] [(9, iV 0), (0, Mv n Bm Kb), (1, (QV m ts K))] _ _ _)
 refine wp_block ?_
 refine yan (fun (k0 : Nat) a W => (k0 ≤ i0) ∧ ∃ Bq, Sta w 159 [(5, (yel)), (7, (yfd w n G))] [(9, iV (k0 : Nat)), (0, Mv n Bm Kb), (1, (QV m ts K))] Bq a W) (fun (k0 : Nat) => m - k0) ?_ 0 ⟨Nat.zero_le _, B5, S5.sub [0, 1] [0, 1, 2]⟩
 rintro k0 a6 _ ⟨hcond, _, S6⟩
 by_cases hlt : k0 < i0
 ·have hdv : decide (0 < (ts.getD k0 (0, 0)).2.sign) = true := by rw [yjm (ht k0 (by omega))]; rfl
  refine wp_seq ?_
  refine wq [.val (iV (k0 : Nat)), .val (QV m ts K), .val (iV (m : Nat)), kT] [.inr 0, .inr 1] [.inl 3, .inr 0, .inr 1, .inr 2] S6 ?_ ?_
  ·apply jj4
   ·exact mS 0 9
   ·exact mS 2 1
   ·exact yal rfl wA rfl (oO 1 39) yaw Tryz.underlying23 rfl
   ·exact yar wA (oO 0 38) (oO 2 40)
  intro B7 a7 W7 (S7 : Sta w 159 [(5, (yel)), (7, (yfd w n G))] [(41, bT), (9, iV (k0 : Nat)), (0, Mv n Bm Kb), (1, (QV m ts K))] _ _ _)
  refine wp_cond_true (S7.bool 0 41 rfl) (wp_skip (thenN (wp_seq (wp_block ?_))))
  refine wq [.val (QV m ts K), .val (iV (k0 : Nat)), .val (AtE 4 (yp3 K ts k0)), .val (yp3 K ts k0), kT, kF] [.inr 0, .inr 1] [.inl 5, .inr 1, .inr 2, .inr 3] S7 ?_ ?_
  ·apply jj6
   ·exact mS 3 1
   ·exact mS 1 9
   ·exact yae rfl wA rfl ybs (oO 0 44) (oO 1 45) (yjd (by omega)) rfl
   ·exact yag rfl wA rfl ybz (by decide) (ya5 (by decide) (ych ybc ybc)) (oO 2 46) rfl
   ·exact ch1 wA (qO 3 47 rfl) (yak _) (fun w u h => Gives.cast (ψ := IS (.bool true)) (yk2 (by omega) (by omega) w u h.now) (by rw [hdv]))
   ·exact yie wA (oO 4 48)
  intro B8 a8 W8 (S8 : Sta w 159 [(5, (yel)), (7, (yfd w n G))] [(49, bF), (9, iV (k0 : Nat)), (0, Mv n Bm Kb), (1, (QV m ts K))] _ _ _)
  refine wp_cond_false (S8.bool 0 49 rfl) (wp_skip (inBlkN (thenN ?_)))
  refine wr [.val (iV (k0 : Nat)), .val (iV (k0 + 1 : Nat)), .val (iV (k0 + 1 : Nat))] [.inr 0, .inr 1] [.inl 2, .inr 2, .inr 3] S8 ?_ ?_
  ·apply jj3
   ·exact mS 1 9
   ·exact ya3 wA (oO 0 42) (yaa _)
   ·exact mO 1 43
  intro B9 a9 W9 (S9 : Sta w 159 [(5, (yel)), (7, (yfd w n G))] [(9, iV (k0 + 1 : Nat)), (0, Mv n Bm Kb), (1, (QV m ts K))] _ _ _)
  refine thenN ?_
  exact ⟨k0 + 1, ⟨by omega, B9, S9.sub [0, 1] [0, 1, 2]⟩, by omega⟩
 ·have ek : k0 = i0 := by omega
  rw [← ek] at hz
  have hdv : decide (0 < (ts.getD k0 (0, 0)).2.sign) = false := decide_eq_false (by have := yl4 hz; omega)
  refine wp_seq ?_
  refine wq [.val (iV (k0 : Nat)), .val (QV m ts K), .val (iV (m : Nat)), kT] [.inr 0, .inr 1] [.inl 3, .inr 0, .inr 1, .inr 2] S6 ?_ ?_
  ·apply jj4
   ·exact mS 0 9
   ·exact mS 2 1
   ·exact yal rfl wA rfl (oO 1 39) yaw Tryz.underlying23 rfl
   ·exact yar wA (oO 0 38) (oO 2 40)
  intro B7 a7 W7 (S7 : Sta w 159 [(5, (yel)), (7, (yfd w n G))] [(41, bT), (9, iV (k0 : Nat)), (0, Mv n Bm Kb), (1, (QV m ts K))] _ _ _)
  refine wp_cond_true (S7.bool 0 41 rfl) (wp_skip (thenN (wp_seq (wp_block ?_))))
  refine wq [.val (QV m ts K), .val (iV (k0 : Nat)), .val (AtE 4 (yp3 K ts k0)), .val (yp3 K ts k0), kF, kT] [.inr 0, .inr 1] [.inl 5, .inr 1, .inr 2, .inr 3] S7 ?_ ?_
  ·apply jj6
   ·exact mS 3 1
   ·exact mS 1 9
   ·exact yae rfl wA rfl ybs (oO 0 44) (oO 1 45) (yjd (by omega)) rfl
   ·exact yag rfl wA rfl ybz (by decide) (ya5 (by decide) (ych ybc ybc)) (oO 2 46) rfl
   ·exact ch1 wA (qO 3 47 rfl) (yak _) (fun w u h => Gives.cast (ψ := IS (.bool false)) (yk2 (by omega) (by omega) w u h.now) (by rw [hdv]))
   ·exact yie wA (oO 4 48)
  intro B8 a8 W8 (S8 : Sta w 159 [(5, (yel)), (7, (yfd w n G))] [(49, bT), (9, iV (k0 : Nat)), (0, Mv n Bm Kb), (1, (QV m ts K))] _ _ _)
  refine wp_cond_true (S8.bool 0 49 rfl) ?_
  refine wq [.val zR, .val (Is (.slice none 0 0)), .put (.inl 5) (yel), .val (iV 30)] [.inr 0, .inr 1] [.inl 1, .inl 3, .inr 1, .inr 2, .inr 3] S8 ?_ ?_
  ·apply jj4
   ·exact yc6 rfl wA rfl rfl
   ·exact mC
   ·exact ya7 rfl wA rfl (k := 0) rfl (by kernel_rfl) (oO 0 50) (yaf yah ybr ybr) rfl
   ·exact mC
  intro B9 a9 W9 (S9 : Sta w 159 [(5, (yel)), (7, (yfd w n G))] [(4, Is (.slice none 0 0)), (6, iV 30), (9, iV (k0 : Nat)), (0, Mv n Bm Kb), (1, (QV m ts K))] _ _ _)
  refine wp_ret (inBlkR (thenR (thenR (inBlkR (thenR ?_)))))
  exact yc2 S9 rfl (yay S9 0 4 rfl) (ybb S9 0 5 rfl yah ybr) (yay S9 1 6 rfl)
abbrev ybp (w : World) (n : Nat) (G : Nat → Nat → Int) : Rk := .box 55 (SF [((LF 1 n (qms (mmL G n))) w.heap.size), ((LF 4 n (qs (stL G n))) w.heap.size)])
abbrev yfp (w : World) (n : Nat) (m : Nat) (ts : List (Int × Int)) (G : Nat → Nat → Int) (X : List Int) (k0 : Nat) : Rk := .row 28 4 n (CE 4 (List.replicate (n - k0) zR ++ ((X.map (fun x => QQ x (dt G n * cmN ts m))).map (· w.heap.size)).drop (n - k0)))
abbrev ybk  : Rk := .box 28 zR
abbrev ycm (w : World) (n : Nat) (m : Nat) (ts : List (Int × Int)) (G : Nat → Nat → Int) : Pr := (LF 4 n (qs (a0L G n (cmN ts m) n))) w.heap.size
abbrev yf9 (w : World) (n : Nat) (m : Nat) (ts : List (Int × Int)) (G : Nat → Nat → Int) (k0 : Nat) : Rk := .box 28 ((QQ (pdN G n (k0 + 1)) (pdD G (cmN ts m) n (k0 + 1))) w.heap.size)
abbrev ygy (w : World) (n : Nat) (m : Nat) (ts : List (Int × Int)) (G : Nat → Nat → Int) (i0 : Nat) : Rk := .row 28 4 i0 (CE 4 ((qs (a0L G n (cmN ts m) i0)).map (· w.heap.size)))
abbrev yqh (w : World) (m : Nat) (ts : List (Int × Int)) (k0 : Nat) : Pr := (QQ (Dt.sm (fun c => (tlL ts (cmN ts m)).getD c 0 * (tlL ts (cmN ts m)).getD c 0) ((k0 + 1))) (cmN ts m * cmN ts m)) w.heap.size
abbrev yqi (w : World) (m : Nat) (ts : List (Int × Int)) : Pr := (QQ (Dt.sm (fun c => (tlL ts (cmN ts m)).getD c 0 * (tlL ts (cmN ts m)).getD c 0) 0) (cmN ts m * cmN ts m)) w.heap.size
abbrev yni (w : World) (n : Nat) (m : Nat) (ts : List (Int × Int)) (G : Nat → Nat → Int) : Rk := .box 28 ((QQ (Dt.bo G n n n) (dt G n * cmN ts m * cmN ts m)) w.heap.size)
abbrev qx08b9 (w : World) (n : Nat) (m : Nat) (ts : List (Int × Int)) (G : Nat → Nat → Int) (X : List Int) (k0 : Nat) : Rk := .row 28 4 n (CE 4 (List.replicate (n - (k0 + 1)) zR ++ ((X.map (fun x => QQ x (dt G n * cmN ts m))).map (· w.heap.size)).drop (n - (k0 + 1))))
abbrev yqj (w : World) (n : Nat) (m : Nat) (ts : List (Int × Int)) (G : Nat → Nat → Int) (X : List Int) (k0 : Nat) (s0 : Nat) : Pr := (QQ (cnN G n (fun j => X.getD j 0) (n - 1 - k0) ((s0 + 1))) (dt G (n - 1 - k0 + 1) * dt G n * cmN ts m)) w.heap.size
abbrev yqk (w : World) (n : Nat) (G : Nat → Nat → Int) (k0 : Nat) : Pr := (QQ (((dt G ((n - 1 - k0) + 1) : Nat) : Int)) (dt G ((n - 1 - k0)))) w.heap.size
abbrev yql (K : Nat) (ts : List (Int × Int)) (k0 : Nat) : Pr := PR (Zv ((ts.getD k0 (0, 0)).1) K) (Zv ((ts.getD k0 (0, 0)).2) K)
theorem r5co_w (w : World) (u v : Value) (n m Kb K : Nat) (Bm : List (List Int)) (ts : List (Int × Int)) (h : Hs w (Mv n Bm Kb) u) (hv : Hs w (QV m ts K) v) (hm : m ≤ 1048576) (hK : K ≤ 1048576) (hKb : Kb ≤ 1048576) (lt : ts.length = m) (wd : Nat) (G : Nat → Nat → Int) (X : List Int) (lB : Bm.length = n) (h0 : 0 < n) (h12 : n ≤ 12) (hw0 : (Bm.getD 0 []).length = wd) (hwd : wd ≤ 12) (hm2 : m = wd) (hrx : ∀ j, j < n → (Bm.getD j []).length = m) (ok : DenOk ts) (hMl : (digs (cmN ts m)).length ≤ 2000000) (hs : ∀ i j, G i j = G j i) (hp : ∀ k, k ≤ n → 0 < Dt.det k G) (hB1 : ∀ k i j, k < n → i < n → j < n → (digs (Dt.bo G k i j).natAbs).length ≤ 196) (hD1 : ∀ k, k ≤ n → (digs (dt G k)).length ≤ 196) (hE : ∀ k j, k ≤ n → j < n → (digs (Dt.bo G k n j).natAbs).length ≤ 2100000) (hF : ∀ k, k ≤ n → (digs (Dt.bo G k n n).natAbs).length ≤ 4200000) (hal : ∀ i, i < n → Dt.sm (fun c => (tlL ts (cmN ts m)).getD c 0 * (Bm.getD i []).getD c 0) m = G n i) (hala : ∀ i k, i < n → k ≤ m → (digs (Dt.sm (fun c => (tlL ts (cmN ts m)).getD c 0 * (Bm.getD i []).getD c 0) k).natAbs).length ≤ 8388608) (hsq : Dt.sm (fun c => (tlL ts (cmN ts m)).getD c 0 * (tlL ts (cmN ts m)).getD c 0) m = G n n) (hsqa : ∀ k, k ≤ m → (digs (Dt.sm (fun c => (tlL ts (cmN ts m)).getD c 0 * (tlL ts (cmN ts m)).getD c 0) k).natAbs).length ≤ 8388608) (lX : X.length = n) (dX : ∀ i, i < n → (digs (X.getD i 0).natAbs).length ≤ 2110000) (hx : ∀ i, i < n → cnN G n (fun j => X.getD j 0) i (n - 1 - i) = (dt G (i + 1) : Int) * X.getD i 0) (hch : ChGives n Kb Bm ((TWO (FN n (mmL G n) (stL G n)) (IS (.int .i64 0))))) :
  Calls Tryz.prog 6 #[u, v] w (Gives (THREE (LF 4 n (X.map (fun x => QQ x (dt G n * cmN ts m)))) (QQ (Dt.bo G n n n) (dt G n * cmN ts m * cmN ts m)) (IS (.int .i64 0))) w) := by
 have hMz : cmN ts m ≠ 0 := cm_ne ok m (by omega)
 have hz : ∀ k, k ≤ n → dt G k ≠ 0 := fun k hk => ydk hp hk
 have hDM : ∀ k, k ≤ n → (digs (dt G k * cmN ts m)).length ≤ 2000196 := fun k hk => Nat.le_trans (yap (hD1 k hk) hMl) (by omega)
 have hMM : (digs (cmN ts m * cmN ts m)).length ≤ 4000000 := Nat.le_trans (yap hMl hMl) (by omega)
 have hTt : ∀ k, k < m → (tlL ts (cmN ts m)).getD k 0 * (ts.getD k (0, 0)).2 = (ts.getD k (0, 0)).1 * ((cmN ts m : Nat) : Int) := fun k hk => by have q := tl_eq ok (k := k) (by omega); rw [lt] at q; exact q
 have hpdN : ∀ k, (digs (pdN G n k).natAbs).length ≤ 4201000 := fun k => pd_len (hF _ (by omega)) (hF n (by omega)) (by have q := hF 0 (by omega); rw [Dt.bo_zero] at q; exact q) (hD1 _ (by omega)) (hD1 n (by omega))
 have hpdD : ∀ k, (digs (pdD G (cmN ts m) n k)).length ≤ 4001000 := fun k => Nat.le_trans (yap (yap (hD1 _ (by omega)) (hD1 n (by omega))) hMM) (by omega)
 have hpdz : ∀ k, pdD G (cmN ts m) n k ≠ 0 := fun k => Nat.mul_ne_zero (Nat.mul_ne_zero (hz _ (by omega)) (hz n (by omega))) (Nat.mul_ne_zero hMz hMz)
 refine yam (sl := [(0, (Mv n Bm Kb)), (1, (QV m ts K))]) Tryz.func6 rfl Tryz.ntmps6 (by simp) (yab rfl (h) (yab rfl (hv) yaq)) ?_
 intro a0 S0
 refine wq [.val (Is (.slice none 0 0)), .new (ybk), .val (iV 0)] [.inl 1] [.inr 0, .inr 1] S0 ?_ ?_
 ·apply jj3
  ·exact mC
  ·exact yat rfl wA rfl rfl (fun ρ w => ybd ρ _ w)
  ·exact mC
 intro _ a1 _ (S1 : Sta w 159 [(5, (ybk))] [(0, Mv n Bm Kb), (1, (QV m ts K))] _ _ _)
 refine wq [.val (Mv n Bm Kb), .val ((TWO (FN n (mmL G n) (stL G n)) (IS (.int .i64 0))) w.heap.size), .val ((TWO (FN n (mmL G n) (stL G n)) (IS (.int .i64 0))) w.heap.size), .val ((FN n (mmL G n) (stL G n)) w.heap.size), .val (iV 0), .new (.box 55 (Is (.agg #[.slice none 0 0, .slice none 0 0]))), .put (.inr 5) (.box 55 ((FN n (mmL G n) (stL G n)) w.heap.size)), .val (iV 0)] [.inr 0, .inl 5] [.inl 7, .inr 0, .inr 1] S1 ?_ ?_
 ·repeat' refine And.intro ?_ ?_
  ·trivial
  ·exact mS 0 0
  ·exact ch2 wA (qO 0 22 rfl) (yaa _) (ybo ygh (yak _)) (fun w u b h hb => by obtain rfl : b = _ := hb.now; exact hch w u h)
  ·exact mO 1 23
  ·exact e20 wA (oO 2 21)
  ·exact e21 wA (oO 2 21)
  ·exact yat rfl wA rfl rfl (fun ρ w => yca ρ _ w)
  ·exact ybj 5 rfl wA rfl (by kernel_rfl) rfl (oO 3 24) (yaf ybn yb2 yb1) rfl
  ·exact mO 4 25
 intro B2 a2 W2 (S2 : Sta w 159 [(5, (ybk)), (7, (.box 55 ((FN n (mmL G n) (stL G n)) w.heap.size)))] [(8, iV 0), (0, Mv n Bm Kb), (1, (QV m ts K))] _ _ _)
 refine wp_seq ?_
 replace S2 : Sta w 159 [(5, (ybk)), (7, (ybp w n G))] [(8, iV 0), (0, Mv n Bm Kb), (1, (QV m ts K))] B2 a2 W2 := S2.reboxS 1 rfl (fun v w h => h)
 refine wq [.val (iV 0), kF] [.inr 0, .inr 1] [.inl 1, .inr 0, .inr 1, .inr 2] S2 ?_ ?_
 ·apply jj2
  ·exact mS 0 8
  ·exact ybm wA (oO 0 26) (yaa _) (h := rfl)
 intro _ a3 _ (S3 : Sta w 159 [(5, (ybk)), (7, (ybp w n G))] [(27, bF), (8, iV 0), (0, Mv n Bm Kb), (1, (QV m ts K))] _ _ _)
 refine wp_cond_false (S3.bool 0 27 rfl) (wp_skip (thenN (wp_seq ?_)))
 refine wq [.val (QV m ts K), .val (iV (m : Nat)), .val (Mv n Bm Kb), .val (AtE 1 (Vv wd (Bm.getD 0 []) Kb)), .val (Vv wd (Bm.getD 0 []) Kb), .val (iV (wd : Nat)), kF] [.inr 0, .inr 1] [.inl 6, .inr 2, .inr 3] S3 ?_ ?_
 ·repeat' refine And.intro ?_ ?_
  ·trivial
  ·exact mS 3 1
  ·exact yal rfl wA rfl (oO 0 30) yaw Tryz.underlying23 rfl
  ·exact mS 2 0
  ·exact yae rfl wA rfl ya8 (oO 2 32) (yaa _) (by have q := yda (A := Bm) (K := Kb) (k := 0) (by omega); rw [hw0] at q; exact q) rfl
  ·exact yag rfl wA rfl ya9 (by decide) yb3 (oO 3 33) rfl
  ·exact yal rfl wA rfl (oO 4 34) yaw Tryz.underlying39 rfl
  ·exact ybm wA (oO 1 31) (oO 5 35)
 intro _ a4 _ (S4 : Sta w 159 [(5, (ybk)), (7, (ybp w n G))] [(36, bF), (0, Mv n Bm Kb), (1, (QV m ts K))] _ _ _)
 refine wp_cond_false (S4.bool 0 36 rfl) (wp_skip (thenN (wp_seq ?_)))
 refine wq [.val (iV 0)] [.inr 0, .inr 1] [.inl 0, .inr 1, .inr 2] S4 ?_ ?_
 ·apply jj1
  ·exact mC
 intro B5 a5 _ (S5 : Sta w 159 [(5, (ybk)), (7, (ybp w n G))] [(9, iV 0), (0, Mv n Bm Kb), (1, (QV m ts K))] _ _ _)
 refine wp_block ?_
 refine yan (fun (k0 : Nat) a W => (k0 ≤ m) ∧ ∃ Bq, Sta w 159 [(5, (ybk)), (7, (ybp w n G))] [(9, iV (k0 : Nat)), (0, Mv n Bm Kb), (1, (QV m ts K))] Bq a W) (fun (k0 : Nat) => m - k0) ?_ 0 ⟨Nat.zero_le _, B5, S5.sub [0, 1] [0, 1, 2]⟩
 rintro k0 a6 _ ⟨hcond, _, S6⟩
 by_cases hlt : k0 < m
 ·have hdv : decide (0 < (ts.getD k0 (0, 0)).2.sign) = true := by rw [yjm (ok k0 (by omega))]; rfl
  refine wp_seq ?_
  refine wq [.val (iV (k0 : Nat)), .val (QV m ts K), .val (iV (m : Nat)), kT] [.inr 0, .inr 1] [.inl 3, .inr 0, .inr 1, .inr 2] S6 ?_ ?_
  ·apply jj4
   ·exact mS 0 9
   ·exact mS 2 1
   ·exact yal rfl wA rfl (oO 1 39) yaw Tryz.underlying23 rfl
   ·exact yar wA (oO 0 38) (oO 2 40)
  intro B7 a7 W7 (S7 : Sta w 159 [(5, (ybk)), (7, (ybp w n G))] [(41, bT), (9, iV (k0 : Nat)), (0, Mv n Bm Kb), (1, (QV m ts K))] _ _ _)
  refine wp_cond_true (S7.bool 0 41 rfl) (wp_skip (thenN (wp_seq (wp_block ?_))))
  refine wq [.val (QV m ts K), .val (iV (k0 : Nat)), .val (AtE 4 (yql K ts k0)), .val (yql K ts k0), kT, kF] [.inr 0, .inr 1] [.inl 5, .inr 1, .inr 2, .inr 3] S7 ?_ ?_
  ·apply jj6
   ·exact mS 3 1
   ·exact mS 1 9
   ·exact yae rfl wA rfl ybs (oO 0 44) (oO 1 45) (yjd (by omega)) rfl
   ·exact yag rfl wA rfl ybz (by decide) (ya5 (by decide) (ych ybc ybc)) (oO 2 46) rfl
   ·exact ch1 wA (qO 3 47 rfl) (yak _) (fun w u h => Gives.cast (ψ := IS (.bool true)) (yk2 (by omega) (by omega) w u h.now) (by rw [hdv]))
   ·exact yie wA (oO 4 48)
  intro B8 a8 W8 (S8 : Sta w 159 [(5, (ybk)), (7, (ybp w n G))] [(49, bF), (9, iV (k0 : Nat)), (0, Mv n Bm Kb), (1, (QV m ts K))] _ _ _)
  refine wp_cond_false (S8.bool 0 49 rfl) (wp_skip (inBlkN (thenN ?_)))
  refine wr [.val (iV (k0 : Nat)), .val (iV (k0 + 1 : Nat)), .val (iV (k0 + 1 : Nat))] [.inr 0, .inr 1] [.inl 2, .inr 2, .inr 3] S8 ?_ ?_
  ·apply jj3
   ·exact mS 1 9
   ·exact ya3 wA (oO 0 42) (yaa _)
   ·exact mO 1 43
  intro B9 a9 W9 (S9 : Sta w 159 [(5, (ybk)), (7, (ybp w n G))] [(9, iV (k0 + 1 : Nat)), (0, Mv n Bm Kb), (1, (QV m ts K))] _ _ _)
  refine thenN ?_
  exact ⟨k0 + 1, ⟨by omega, B9, S9.sub [0, 1] [0, 1, 2]⟩, by omega⟩
 ·skip
  refine wp_seq ?_
  refine wq [.val (iV (k0 : Nat)), .val (QV m ts K), .val (iV (m : Nat)), kF] [.inr 0, .inr 1] [.inl 3, .inr 0, .inr 1, .inr 2] S6 ?_ ?_
  ·apply jj4
   ·exact mS 0 9
   ·exact mS 2 1
   ·exact yal rfl wA rfl (oO 1 39) yaw Tryz.underlying23 rfl
   ·exact yaz wA (oO 0 38) (oO 2 40)
  intro B7 a7 W7 (S7 : Sta w 159 [(5, (ybk)), (7, (ybp w n G))] [(41, bF), (9, iV (k0 : Nat)), (0, Mv n Bm Kb), (1, (QV m ts K))] _ _ _)
  refine wp_cond_false (S7.bool 0 41 rfl) (wp_exit (thenX (thenX (inBlkE (thenN ?_)))))
  refine wq [.val (Mv n Bm Kb), .val (iV (n : Nat)), .val (iV (n : Nat))] [.inr 0, .inr 1] [.inl 2, .inr 1, .inr 2, .inr 3] S7 ?_ ?_
  ·apply jj3
   ·exact mS 2 0
   ·exact yal rfl wA rfl (oO 0 51) yaw Tryz.underlying22 rfl
   ·exact mO 1 52
  intro B8 a8 W8 (S8 : Sta w 159 [(5, (ybk)), (7, (ybp w n G))] [(10, iV (n : Nat)), (9, iV (k0 : Nat)), (0, Mv n Bm Kb), (1, (QV m ts K))] _ _ _)
  refine wq [.new (.row 28 4 0 (CE 4 ((qs (a0L G n (cmN ts m) 0)).map (· w.heap.size))))] [.inr 0, .inr 1, .inl 0] [.inr 0, .inr 1, .inr 2, .inr 3] S8 ?_ ?_
  ·apply jj1
   ·exact yj9 rfl wA rfl rfl yjx
  intro B9 a9 W9 (S9 : Sta w 159 [(5, (ybk)), (7, (ybp w n G)), (11, (.row 28 4 0 (CE 4 ((qs (a0L G n (cmN ts m) 0)).map (· w.heap.size)))))] [(10, iV (n : Nat)), (9, iV (k0 : Nat)), (0, Mv n Bm Kb), (1, (QV m ts K))] _ _ _)
  refine wp_seq ?_
  refine wq [.val (iV 0)] [.inr 0, .inr 1, .inr 2] [.inl 0, .inr 0, .inr 1, .inr 2, .inr 3] S9 ?_ ?_
  ·apply jj1
   ·exact mC
  intro B10 a10 _ (S10 : Sta w 159 [(5, (ybk)), (7, (ybp w n G)), (11, (.row 28 4 0 (CE 4 ((qs (a0L G n (cmN ts m) 0)).map (· w.heap.size)))))] [(12, iV 0), (10, iV (n : Nat)), (9, iV (k0 : Nat)), (0, Mv n Bm Kb), (1, (QV m ts K))] _ _ _)
  refine wp_block ?_
  refine yan (fun (i0 : Nat) a W => (i0 ≤ n) ∧ ∃ Bq, Sta w 159 [(5, (ybk)), (7, (ybp w n G)), (11, (ygy w n m ts G i0))] [(12, iV (i0 : Nat)), (10, iV (n : Nat)), (0, Mv n Bm Kb), (1, (QV m ts K))] Bq a W) (fun (i0 : Nat) => n - i0) ?_ 0 ⟨Nat.zero_le _, B10, S10.sub [0, 1, 2] [0, 1, 3, 4]⟩
  rintro i0 a11 _ ⟨hcond, _, S11⟩
  by_cases hlt : i0 < n
  ·have hri := hrx i0 (by omega)
   refine wp_seq ?_
   refine wq [.val (iV (i0 : Nat)), .val (iV (n : Nat)), kT] [.inr 0, .inr 1, .inr 2] [.inl 2, .inr 0, .inr 1, .inr 2, .inr 3] S11 ?_ ?_
   ·apply jj3
    ·exact mS 0 12
    ·exact mS 1 10
    ·exact yar wA (oO 0 53) (oO 1 54)
   intro B12 a12 W12 (S12 : Sta w 159 [(5, (ybk)), (7, (ybp w n G)), (11, (ygy w n m ts G i0))] [(55, bT), (12, iV (i0 : Nat)), (10, iV (n : Nat)), (0, Mv n Bm Kb), (1, (QV m ts K))] _ _ _)
   refine wp_cond_true (S12.bool 0 55 rfl) (wp_skip (thenN (wp_seq (wp_block ?_))))
   refine wq [.val (QV m ts K), .val (Mv n Bm Kb), .val (iV (i0 : Nat)), .val (AtE 1 (Vv m (Bm.getD i0 []) Kb)), .val (Vv m (Bm.getD i0 []) Kb), .val ((QQ (Dt.bo G 0 n i0) (dt G 0 * cmN ts m)) w.heap.size), .new (ybk), .put (.inr 6) (.box 28 ((QQ (Dt.bo G 0 n i0) (dt G 0 * cmN ts m)) w.heap.size))] [.inr 0, .inr 1, .inr 2, .inl 6] [.inr 1, .inr 2, .inr 3, .inr 4] S12 ?_ ?_
   ·repeat' refine And.intro ?_ ?_
    ·trivial
    ·exact mS 4 1
    ·exact mS 3 0
    ·exact mS 1 12
    ·exact yae rfl wA rfl ya8 (oO 1 59) (oO 2 60) (by have q := yda (A := Bm) (K := Kb) (k := i0) (by omega); rw [hri] at q; exact q) rfl
    ·exact yag rfl wA rfl ya9 (by decide) yb3 (oO 3 61) rfl
    ·exact ch2 wA (qO 0 58 rfl) (qO 4 62 rfl) (ybh _ _) (fun w u v h1 h2 => Gives.cast (ψ := QQ (Dt.bo G 0 n i0) (dt G 0 * cmN ts m)) (along_w w u v m K Kb (cmN ts m) ts (tlL ts (cmN ts m)) (Bm.getD i0 []) h1 h2 hm hK hKb lt ok hMz (by omega) hTt (fun k hk => hala i0 k (by omega) hk)) (by rw [hal i0 (by omega), Dt.bo_zero, yoc, Nat.one_mul]))
    ·exact yat rfl wA rfl rfl (fun ρ w => ybd ρ _ w)
    ·exact ybj 6 rfl wA rfl (by kernel_rfl) rfl (oO 5 63) (yaf yah ybr ya6) rfl
   intro B13 a13 W13 (S13 : Sta w 159 [(5, (ybk)), (7, (ybp w n G)), (11, (ygy w n m ts G i0)), (13, (.box 28 ((QQ (Dt.bo G 0 n i0) (dt G 0 * cmN ts m)) w.heap.size)))] [(12, iV (i0 : Nat)), (10, iV (n : Nat)), (0, Mv n Bm Kb), (1, (QV m ts K))] _ _ _)
   refine wp_seq ?_
   refine wq [.val (iV 0)] [.inr 0, .inr 1, .inr 2, .inr 3] [.inl 0, .inr 0, .inr 1, .inr 2, .inr 3] S13 ?_ ?_
   ·apply jj1
    ·exact mC
   intro B14 a14 W14 (S14 : Sta w 159 [(5, (ybk)), (7, (ybp w n G)), (11, (ygy w n m ts G i0)), (13, (.box 28 ((QQ (Dt.bo G 0 n i0) (dt G 0 * cmN ts m)) w.heap.size)))] [(14, iV 0), (12, iV (i0 : Nat)), (10, iV (n : Nat)), (0, Mv n Bm Kb), (1, (QV m ts K))] _ _ _)
   refine wp_block ?_
   refine yan (fun (j0 : Nat) a W => (j0 ≤ i0) ∧ ∃ Bq, Sta w 159 [(5, (ybk)), (7, (ybp w n G)), (11, (ygy w n m ts G i0)), (13, (.box 28 ((QQ (Dt.bo G j0 n i0) (dt G j0 * cmN ts m)) w.heap.size)))] [(14, iV (j0 : Nat)), (12, iV (i0 : Nat)), (10, iV (n : Nat)), (0, Mv n Bm Kb), (1, (QV m ts K))] Bq a W) (fun (j0 : Nat) => i0 - j0) ?_ 0 ⟨Nat.zero_le _, B14, S14.sub [0, 1, 2, 3] [0, 1, 2, 3, 4]⟩
   rintro j0 a15 W15 ⟨hcond, B15, S15⟩
   by_cases hlj : j0 < i0
   ·have hml := yha G i0 i0
    refine wp_seq ?_
    refine wq [.val (iV (j0 : Nat)), .val (iV (i0 : Nat)), kT] [.inr 0, .inr 1, .inr 2, .inr 3] [.inl 2, .inr 0, .inr 1, .inr 2, .inr 3, .inr 4] S15 ?_ ?_
    ·apply jj3
     ·exact mS 0 14
     ·exact mS 1 12
     ·exact yar wA (oO 0 64) (oO 1 65)
    intro B16 a16 W16 (S16 : Sta w 159 [(5, (ybk)), (7, (ybp w n G)), (11, (ygy w n m ts G i0)), (13, (.box 28 ((QQ (Dt.bo G j0 n i0) (dt G j0 * cmN ts m)) w.heap.size)))] [(66, bT), (14, iV (j0 : Nat)), (12, iV (i0 : Nat)), (10, iV (n : Nat)), (0, Mv n Bm Kb), (1, (QV m ts K))] _ _ _)
    refine wp_cond_true (S16.bool 0 66 rfl) (wp_skip (thenN (wp_seq (wp_block ?_))))
    refine wr [.val ((QQ (Dt.bo G j0 n i0) (dt G j0 * cmN ts m)) w.heap.size), .val (Part a16 7 0), .val ((LF 1 n (qms (mmL G n))) w.heap.size), .val (iV (i0 : Nat)), .val (AtE 1 ((LF 4 ((muL G i0 i0).length) (qs (muL G i0 i0))) w.heap.size)), .val ((LF 4 ((muL G i0 i0).length) (qs (muL G i0 i0))) w.heap.size), .val (iV (j0 : Nat)), .val (AtE 4 ((QQ (Dt.bo G j0 i0 j0) (dt G (j0 + 1))) w.heap.size)), .val ((QQ (Dt.bo G j0 i0 j0) (dt G (j0 + 1))) w.heap.size), .val (Is (a16.eval (.tmp 11))), .val (iV (j0 : Nat)), .val (REt a16 11 (4 * j0)), .val ((QQ (Dt.bo G j0 n j0) (dt G j0 * cmN ts m)) w.heap.size), .val ((QQ (Dt.bo G j0 i0 j0 * Dt.bo G j0 n j0) (dt G (j0 + 1) * (dt G j0 * cmN ts m))) w.heap.size), .val ((QQ (Dt.bo G (j0 + 1) n i0) (dt G (j0 + 1) * cmN ts m)) w.heap.size), .put (.inl 13) (.box 28 ((QQ (Dt.bo G (j0 + 1) n i0) (dt G (j0 + 1) * cmN ts m)) w.heap.size))] [.inr 0, .inr 1, .inr 2, .inr 3] [.inr 1, .inr 2, .inr 3, .inr 4, .inr 5] S16 ?_ ?_
    ·repeat' refine And.intro ?_ ?_
     ·trivial
     ·exact lod 3 wA (yau yah ya6)
     ·exact ya2 rfl wA rfl (k := 1) rfl (by kernel_rfl) rfl (fun ρ w b h => yec ρ _ _ w b 0 h)
     ·exact yav rfl wA rfl (oO 1 70) (k := 1) rfl (by kernel_rfl) rfl (fun ρ w b u h1 h2 h3 => ploadS rfl yfx ρ _ _ w b u h1 h2 h3)
     ·exact mS 2 12
     ·exact yae rfl wA rfl yiu ((oO 2 71).imp yg8) (oO 3 72) (yas (· w.heap.size) (yas (fun r : List (Int × Nat) => LF 4 r.length (qs r)) (ylb (show i0 < n by omega)))) rfl
     ·exact yag rfl wA rfl yix (by decide) yme (oO 4 73) rfl
     ·exact mS 1 14
     ·exact yae rfl wA rfl ybs ((oO 5 74).imp yg8) (oO 6 75) (yas (· w.heap.size) (yas (fun p : Int × Nat => QQ p.1 p.2) (yg9 hlj))) rfl
     ·exact yag rfl wA rfl ybz (by decide) (ya5 (by decide) ya6) (oO 7 76) rfl
     ·exact yct rfl wA (Or.inl rfl) (by kernel_rfl) rfl
     ·exact mS 1 14
     ·exact ycs rfl wA rfl ybs (oO 9 78) (k := 2) rfl (by kernel_rfl) (oO 10 79) (by omega) rfl
     ·exact yf0 rfl wA rfl ybz (by decide) (oO 11 80) (k := 2) rfl (by kernel_rfl) (yas (· w.heap.size) (yas (fun p : Int × Nat => QQ p.1 p.2) (yn3 hlj))) rfl
     ·exact cc2 wA (qO 8 77 rfl) (qO 12 81 rfl) (ybh _ _) (fun w u v h1 h2 => yi8 (k := 196) (k' := 2100000) (hz (j0 + 1) (by omega)) (Nat.mul_ne_zero (hz j0 (by omega)) hMz) (hB1 j0 i0 j0 (by omega) (by omega) (by omega)) (hD1 (j0 + 1) (by omega)) (hE j0 j0 (by omega) (by omega)) (Nat.le_trans (hDM j0 (by omega)) (by omega)) (by omega) (by omega) w u v h1 h2)
     ·exact cc2 wA (qO 0 69 rfl) (qO 13 82 rfl) (ybh _ _) (fun w u v h1 h2 => Gives.cast (ψ := (QQ (Dt.bo G (j0 + 1) n i0) (dt G (j0 + 1) * cmN ts m))) (ym9 (k := 2100000) (k' := 2200000) (Nat.mul_ne_zero (hz j0 (by omega)) hMz) (Nat.mul_ne_zero (hz (j0 + 1) (by omega)) (Nat.mul_ne_zero (hz j0 (by omega)) hMz)) (hE j0 i0 (by omega) (by omega)) (Nat.le_trans (hDM j0 (by omega)) (by omega)) (by rw [Int.natAbs_mul]; exact Nat.le_trans (yap (hB1 j0 i0 j0 (by omega) (by omega) (by omega)) (hE j0 j0 (by omega) (by omega))) (by omega)) (Nat.le_trans (yap (hD1 (j0 + 1) (by omega)) (hDM j0 (by omega))) (by omega)) (by omega) (by omega) w u v h1 h2) (a0_step (hz j0 (by omega)) (hz (j0 + 1) (by omega)) hMz (yk0 hs hp (by omega))))
     ·exact ya7 rfl wA rfl (k := 3) rfl (by kernel_rfl) (oO 14 83) (yaf yah ya6 ya6) rfl
    intro B17 a17 W17 (S17 : Sta w 159 [(5, (ybk)), (7, (ybp w n G)), (11, (ygy w n m ts G i0)), (13, (.box 28 ((QQ (Dt.bo G (j0 + 1) n i0) (dt G (j0 + 1) * cmN ts m)) w.heap.size)))] [(14, iV (j0 : Nat)), (12, iV (i0 : Nat)), (10, iV (n : Nat)), (0, Mv n Bm Kb), (1, (QV m ts K))] _ _ _)
    refine inBlkN (thenN ?_)
    refine wr [.val (iV (j0 : Nat)), .val (iV (j0 + 1 : Nat)), .val (iV (j0 + 1 : Nat))] [.inr 0, .inr 1, .inr 2, .inr 3] [.inl 2, .inr 1, .inr 2, .inr 3, .inr 4] S17 ?_ ?_
    ·apply jj3
     ·exact mS 0 14
     ·exact ya3 wA (oO 0 67) (yaa _)
     ·exact mO 1 68
    intro B18 a18 W18 (S18 : Sta w 159 [(5, (ybk)), (7, (ybp w n G)), (11, (ygy w n m ts G i0)), (13, (.box 28 ((QQ (Dt.bo G (j0 + 1) n i0) (dt G (j0 + 1) * cmN ts m)) w.heap.size)))] [(14, iV (j0 + 1 : Nat)), (12, iV (i0 : Nat)), (10, iV (n : Nat)), (0, Mv n Bm Kb), (1, (QV m ts K))] _ _ _)
    refine thenN ?_
    exact ⟨j0 + 1, ⟨by omega, B18, S18.sub [0, 1, 2, 3] [0, 1, 2, 3, 4]⟩, by omega⟩
   ·have ej : j0 = i0 := by omega
    rw [ej] at S15
    refine wp_seq ?_
    refine wq [.val (iV (i0 : Nat)), .val (iV (i0 : Nat)), kF] [.inr 0, .inr 1, .inr 2, .inr 3] [.inl 2, .inr 0, .inr 1, .inr 2, .inr 3, .inr 4] S15 ?_ ?_
    ·apply jj3
     ·exact mS 0 14
     ·exact mS 1 12
     ·exact yaz wA (oO 0 64) (oO 1 65)
    intro B16 a16 W16 (S16 : Sta w 159 [(5, (ybk)), (7, (ybp w n G)), (11, (ygy w n m ts G i0)), (13, (.box 28 ((QQ (Dt.bo G i0 n i0) (dt G i0 * cmN ts m)) w.heap.size)))] [(66, bF), (14, iV (i0 : Nat)), (12, iV (i0 : Nat)), (10, iV (n : Nat)), (0, Mv n Bm Kb), (1, (QV m ts K))] _ _ _)
    refine wp_cond_false (S16.bool 0 66 rfl) (wp_exit (thenX (thenX (inBlkE (thenN ?_)))))
    refine wr [.val (Is (a16.eval (.tmp 11))), .val ((QQ (Dt.bo G i0 n i0) (dt G i0 * cmN ts m)) w.heap.size), .val (Sng 28 4 ((QQ (Dt.bo G i0 n i0) (dt G i0 * cmN ts m)) w.heap.size) w.heap.size), .mov 11 (.row 28 4 (i0 + 1) (CE 4 ((qs (a0L G n (cmN ts m) (i0 + 1))).map (· w.heap.size)))), .ref 3] [.inr 0, .inr 1, .inr 3, .inl 4] [.inr 1, .inr 2, .inr 3, .inr 4, .inr 5] S16 ?_ ?_
    ·apply jj5
     ·exact yct rfl wA (Or.inl rfl) (by kernel_rfl) rfl
     ·exact lod 3 wA (yau yah ya6)
     ·exact ygp rfl wA rfl yks (oO 1 85) (ya5 (by decide) ya6) rfl
     ·exact yfy rfl wA rfl (oO 0 84) (k := 2) rfl (by kernel_rfl) ((oO 2 86).imp yhk) yim Tryz.underlying23 (by decide) ⟨by unfold maxLen; omega, by omega⟩ rfl (fun xs ys w h1 h2 => by simp only [a0L, List.map_append, List.map_cons, List.map_nil]; exact ydy _ _ _ h1 h2)
     ·exact yea 3 rfl wA (Or.inr rfl) (by kernel_rfl) rfl rfl
    intro B17 a17 W17 (S17 : Sta w 159 [(5, (ybk)), (7, (ybp w n G)), (13, (.box 28 ((QQ (Dt.bo G i0 n i0) (dt G i0 * cmN ts m)) w.heap.size))), (11, (.row 28 4 (i0 + 1) (CE 4 ((qs (a0L G n (cmN ts m) (i0 + 1))).map (· w.heap.size)))))] [(14, iV (i0 : Nat)), (12, iV (i0 : Nat)), (10, iV (n : Nat)), (0, Mv n Bm Kb), (1, (QV m ts K))] _ _ _)
    refine inBlkN (thenN ?_)
    refine wr [.val (iV (i0 : Nat)), .val (iV (i0 + 1 : Nat)), .val (iV (i0 + 1 : Nat))] [.inr 0, .inr 1, .inr 2, .inr 3] [.inl 2, .inr 0, .inr 2, .inr 3, .inr 4] S17 ?_ ?_
    ·apply jj3
     ·exact mS 1 12
     ·exact ya3 wA (oO 0 56) (yaa _)
     ·exact mO 1 57
    intro B18 a18 W18 (S18 : Sta w 159 [(5, (ybk)), (7, (ybp w n G)), (13, (.box 28 ((QQ (Dt.bo G i0 n i0) (dt G i0 * cmN ts m)) w.heap.size))), (11, (.row 28 4 (i0 + 1) (CE 4 ((qs (a0L G n (cmN ts m) (i0 + 1))).map (· w.heap.size)))))] [(12, iV (i0 + 1 : Nat)), (14, iV (i0 : Nat)), (10, iV (n : Nat)), (0, Mv n Bm Kb), (1, (QV m ts K))] _ _ _)
    refine thenN ?_
    exact ⟨i0 + 1, ⟨by omega, B18, S18.sub [0, 1, 3] [0, 2, 3, 4]⟩, by omega⟩
  ·have ei : i0 = n := by omega
   rw [ei] at S11
   refine wp_seq ?_
   refine wq [.val (iV (n : Nat)), .val (iV (n : Nat)), kF] [.inr 0, .inr 1, .inr 2] [.inl 2, .inr 0, .inr 1, .inr 2, .inr 3] S11 ?_ ?_
   ·apply jj3
    ·exact mS 0 12
    ·exact mS 1 10
    ·exact yaz wA (oO 0 53) (oO 1 54)
   intro B12 a12 W12 (S12 : Sta w 159 [(5, (ybk)), (7, (ybp w n G)), (11, (.row 28 4 n (CE 4 ((qs (a0L G n (cmN ts m) n)).map (· w.heap.size)))))] [(55, bF), (12, iV (n : Nat)), (10, iV (n : Nat)), (0, Mv n Bm Kb), (1, (QV m ts K))] _ _ _)
   refine wp_cond_false (S12.bool 0 55 rfl) (wp_exit (thenX (thenX (inBlkE (thenN ?_)))))
   obtain ⟨B13, S13⟩ : ∃ Bq, Sta w 159 [(5, (ybk)), (7, (ybp w n G))] [(11, (ycm w n m ts G)), (55, bF), (12, iV (n : Nat)), (10, iV (n : Nat)), (0, Mv n Bm Kb), (1, (QV m ts K))] Bq a12 W12 := ⟨_, S12.freeze 2 rfl (by simp) (fun v w' xs ho hc => ydi (by decide) v w' xs ho hc)⟩
   obtain ⟨a13, W13, e1, e2⟩ : ∃ a W, a12 = a ∧ W12 = W := ⟨_, _, rfl, rfl⟩
   rw [e1, e2] at S13 ⊢
   clear e1 e2
   refine wq [.val (iV (n : Nat)), .new (.row 28 4 n (CE 4 (List.replicate n zR))), .ref 1] [.inr 0, .inr 1, .inl 2] [.inr 0, .inr 2, .inr 3, .inr 4, .inr 5] S13 ?_ ?_
   ·apply jj3
    ·exact mS 3 10
    ·exact yfn rfl wA rfl Tryz.underlying23 infoRat celv_r0 (by decide) (oO 0 88) ⟨by omega, by unfold maxLen; omega⟩ rfl
    ·exact yea 1 rfl wA (Or.inr rfl) (by kernel_rfl) rfl rfl
   intro B14 a14 W14 (S14 : Sta w 159 [(5, (ybk)), (7, (ybp w n G)), (15, (.row 28 4 n (CE 4 (List.replicate n zR))))] [(11, (ycm w n m ts G)), (12, iV (n : Nat)), (10, iV (n : Nat)), (0, Mv n Bm Kb), (1, (QV m ts K))] _ _ _)
   refine wq [.val zI, .val (yqi w m ts), .new (ybk), .put (.inr 2) (.box 28 (yqi w m ts))] [.inr 0, .inr 1, .inr 2, .inl 2] [.inr 0, .inr 1, .inr 2, .inr 3, .inr 4] S14 ?_ ?_
   ·apply jj4
    ·exact ygq rfl wA rfl rfl
    ·exact cc1 wA (qO 0 90 rfl) (ybh _ _) (fun w u0 h0 => Gives.cast ((fun w u h => ymt (A := 0) (k := 0) (by omega) w u (zero_zv u w h)) w u0 h0) (by exact qq_zero (Nat.mul_ne_zero hMz hMz)))
    ·exact yat rfl wA rfl rfl (fun ρ w => ybd ρ _ w)
    ·exact ybj 2 rfl wA rfl (by kernel_rfl) rfl (oO 1 91) (yaf yah ybr ya6) rfl
   intro B15 a15 W15 (S15 : Sta w 159 [(5, (ybk)), (7, (ybp w n G)), (15, (.row 28 4 n (CE 4 (List.replicate n zR)))), (16, (.box 28 (yqi w m ts)))] [(11, (ycm w n m ts G)), (12, iV (n : Nat)), (10, iV (n : Nat)), (0, Mv n Bm Kb), (1, (QV m ts K))] _ _ _)
   refine wp_seq ?_
   refine wq [.val (iV 0)] [.inr 0, .inr 1, .inr 2, .inr 3] [.inl 0, .inr 0, .inr 1, .inr 2, .inr 3, .inr 4] S15 ?_ ?_
   ·apply jj1
    ·exact mC
   intro B16 a16 W16 (S16 : Sta w 159 [(5, (ybk)), (7, (ybp w n G)), (15, (.row 28 4 n (CE 4 (List.replicate n zR)))), (16, (.box 28 (yqi w m ts)))] [(17, iV 0), (11, (ycm w n m ts G)), (12, iV (n : Nat)), (10, iV (n : Nat)), (0, Mv n Bm Kb), (1, (QV m ts K))] _ _ _)
   refine wp_block ?_
   refine yan (fun (k0 : Nat) a W => (k0 ≤ m) ∧ ∃ Bq, Sta w 159 [(5, (ybk)), (7, (ybp w n G)), (15, (.row 28 4 n (CE 4 (List.replicate n zR)))), (16, (.box 28 ((QQ (Dt.sm (fun c => (tlL ts (cmN ts m)).getD c 0 * (tlL ts (cmN ts m)).getD c 0) k0) (cmN ts m * cmN ts m)) w.heap.size)))] [(17, iV (k0 : Nat)), (11, (ycm w n m ts G)), (10, iV (n : Nat)), (0, Mv n Bm Kb), (1, (QV m ts K))] Bq a W) (fun (k0 : Nat) => m - k0) ?_ 0 ⟨Nat.zero_le _, B16, S16.sub [0, 1, 2, 3] [0, 1, 3, 4, 5]⟩
   rintro k0 a17 W17 ⟨hcond, B17, S17⟩
   by_cases hlt : k0 < m
   ·have hd := ok k0 (by omega)
    obtain ⟨q1, q2⟩ := qv_dl hv.now (i := k0) (by omega)
    have hdz : (ts.getD k0 (0, 0)).2.toNat ≠ 0 := by omega
    have hTk := hTt k0 (by omega)
    rw [show (ts.getD k0 (0, 0)).2 = (((ts.getD k0 (0, 0)).2.toNat : Nat) : Int) by omega] at hTk
    have q4 : (digs ((ts.getD k0 (0, 0)).1 * (ts.getD k0 (0, 0)).1).natAbs).length ≤ 2097152 := by rw [Int.natAbs_mul]; exact Nat.le_trans (yap q1 q1) (by omega)
    have q6 : (digs (ts.getD k0 (0, 0)).2.toNat).length ≤ K := Nat.le_trans (yai (by omega)) q2
    have q5 : (digs ((ts.getD k0 (0, 0)).2.toNat * (ts.getD k0 (0, 0)).2.toNat)).length ≤ 2097152 := Nat.le_trans (yap q6 q6) (by omega)
    refine wp_seq ?_
    refine wq [.val (iV (k0 : Nat)), .val (QV m ts K), .val (iV (m : Nat)), kT] [.inr 0, .inr 1, .inr 2, .inr 3] [.inl 3, .inr 0, .inr 1, .inr 2, .inr 3, .inr 4] S17 ?_ ?_
    ·apply jj4
     ·exact mS 0 17
     ·exact mS 4 1
     ·exact yal rfl wA rfl (oO 1 93) yaw Tryz.underlying23 rfl
     ·exact yar wA (oO 0 92) (oO 2 94)
    intro B18 a18 W18 (S18 : Sta w 159 [(5, (ybk)), (7, (ybp w n G)), (15, (.row 28 4 n (CE 4 (List.replicate n zR)))), (16, (.box 28 ((QQ (Dt.sm (fun c => (tlL ts (cmN ts m)).getD c 0 * (tlL ts (cmN ts m)).getD c 0) k0) (cmN ts m * cmN ts m)) w.heap.size)))] [(95, bT), (17, iV (k0 : Nat)), (11, (ycm w n m ts G)), (10, iV (n : Nat)), (0, Mv n Bm Kb), (1, (QV m ts K))] _ _ _)
    refine wp_cond_true (S18.bool 0 95 rfl) (wp_skip (thenN (wp_seq (wp_block ?_))))
    refine wr [.val ((QQ (Dt.sm (fun c => (tlL ts (cmN ts m)).getD c 0 * (tlL ts (cmN ts m)).getD c 0) k0) (cmN ts m * cmN ts m)) w.heap.size), .val (QV m ts K), .val (iV (k0 : Nat)), .val (AtE 4 (yql K ts k0)), .val (yql K ts k0), .val ((QQ ((ts.getD k0 (0, 0)).1 * (ts.getD k0 (0, 0)).1) ((ts.getD k0 (0, 0)).2.toNat * (ts.getD k0 (0, 0)).2.toNat)) w.heap.size), .val (yqh w m ts k0), .put (.inl 16) (.box 28 (yqh w m ts k0))] [.inr 0, .inr 1, .inr 2, .inr 3] [.inr 1, .inr 2, .inr 3, .inr 4, .inr 5] S18 ?_ ?_
    ·repeat' refine And.intro ?_ ?_
     ·trivial
     ·exact lod 3 wA (yau yah ya6)
     ·exact mS 5 1
     ·exact mS 1 17
     ·exact yae rfl wA rfl ybs (oO 1 99) (oO 2 100) (yjd (by omega)) rfl
     ·exact yag rfl wA rfl ybz (by decide) (ya5 (by decide) (ych ybc ybc)) (oO 3 101) rfl
     ·exact ch1 wA ((qO 4 102 rfl).imp (qw_raw hd)) (ybh _ _) (fun w u h => rsqr_w w u _ _ K h hdz (by omega))
     ·exact cc2 wA (qO 0 98 rfl) (qO 5 103 rfl) (ybh _ _) (fun w u v h1 h2 => Gives.cast (ψ := (QQ (Dt.sm (fun c => (tlL ts (cmN ts m)).getD c 0 * (tlL ts (cmN ts m)).getD c 0) ((k0 + 1))) (cmN ts m * cmN ts m))) (q_radd (k := 8388608) (k' := 2097152) (Nat.mul_ne_zero hMz hMz) (Nat.mul_ne_zero hdz hdz) (hsqa k0 (by omega)) (Nat.le_trans hMM (by omega)) q4 q5 (Nat.le_refl _) (by omega) w u v h1 h2) (sq_step hdz hMz hTk))
     ·exact ya7 rfl wA rfl (k := 3) rfl (by kernel_rfl) (oO 6 104) (yaf yah ya6 ya6) rfl
    intro B19 a19 W19 (S19 : Sta w 159 [(5, (ybk)), (7, (ybp w n G)), (15, (.row 28 4 n (CE 4 (List.replicate n zR)))), (16, (.box 28 (yqh w m ts k0)))] [(17, iV (k0 : Nat)), (11, (ycm w n m ts G)), (10, iV (n : Nat)), (0, Mv n Bm Kb), (1, (QV m ts K))] _ _ _)
    refine inBlkN (thenN ?_)
    refine wr [.val (iV (k0 : Nat)), .val (iV (k0 + 1 : Nat)), .val (iV (k0 + 1 : Nat))] [.inr 0, .inr 1, .inr 2, .inr 3] [.inl 2, .inr 1, .inr 2, .inr 3, .inr 4] S19 ?_ ?_
    ·apply jj3
     ·exact mS 0 17
     ·exact ya3 wA (oO 0 96) (yaa _)
     ·exact mO 1 97
    intro B20 a20 W20 (S20 : Sta w 159 [(5, (ybk)), (7, (ybp w n G)), (15, (.row 28 4 n (CE 4 (List.replicate n zR)))), (16, (.box 28 (yqh w m ts k0)))] [(17, iV (k0 + 1 : Nat)), (11, (ycm w n m ts G)), (10, iV (n : Nat)), (0, Mv n Bm Kb), (1, (QV m ts K))] _ _ _)
    refine thenN ?_
    exact ⟨k0 + 1, ⟨by omega, B20, S20.sub [0, 1, 2, 3] [0, 1, 2, 3, 4]⟩, by omega⟩
   ·have ek : k0 = m := by omega
    rw [ek, hsq, pd_start (hz n (by omega)) hMz] at S17
    refine wp_seq ?_
    refine wq [.val (iV (m : Nat)), .val (QV m ts K), .val (iV (m : Nat)), kF] [.inr 0, .inr 1, .inr 2, .inr 3] [.inl 3, .inr 0, .inr 1, .inr 2, .inr 3, .inr 4] S17 ?_ ?_
    ·apply jj4
     ·exact mS 0 17
     ·exact mS 4 1
     ·exact yal rfl wA rfl (oO 1 93) yaw Tryz.underlying23 rfl
     ·exact yaz wA (oO 0 92) (oO 2 94)
    intro B18 a18 W18 (S18 : Sta w 159 [(5, (ybk)), (7, (ybp w n G)), (15, (.row 28 4 n (CE 4 (List.replicate n zR)))), (16, (.box 28 ((QQ (pdN G n 0) (pdD G (cmN ts m) n 0)) w.heap.size)))] [(95, bF), (17, iV (m : Nat)), (11, (ycm w n m ts G)), (10, iV (n : Nat)), (0, Mv n Bm Kb), (1, (QV m ts K))] _ _ _)
    refine wp_cond_false (S18.bool 0 95 rfl) (wp_exit (thenX (thenX (inBlkE (thenN (wp_seq ?_))))))
    refine wq [.val (iV (n : Nat)), .val (iV ((n : Int) - 1)), .val (iV ((n : Int) - 1))] [.inr 0, .inr 1, .inr 2, .inr 3] [.inl 2, .inr 1, .inr 2, .inr 3, .inr 4, .inr 5] S18 ?_ ?_
    ·apply jj3
     ·exact mS 3 10
     ·exact ygf wA (oO 0 105) (yaa _)
     ·exact mO 1 106
    intro B19 a19 W19 (S19 : Sta w 159 [(5, (ybk)), (7, (ybp w n G)), (15, (.row 28 4 n (CE 4 (List.replicate n zR)))), (16, (.box 28 ((QQ (pdN G n 0) (pdD G (cmN ts m) n 0)) w.heap.size)))] [(18, iV ((n : Int) - 1)), (17, iV (m : Nat)), (11, (ycm w n m ts G)), (10, iV (n : Nat)), (0, Mv n Bm Kb), (1, (QV m ts K))] _ _ _)
    refine wp_block ?_
    rw [← dstart (z := Is (.agg #[.bool false, .slice none 0 0, .bool false, .slice none 0 0])) (xs := ((X.map (fun x => QQ x (dt G n * cmN ts m))).map (· w.heap.size))) (n := n) (by simp [lX]), show (n : Int) - 1 = (n : Int) - 1 - ((0 : Nat) : Int) by omega] at S19
    refine yan (fun (k0 : Nat) a W => (k0 ≤ n) ∧ ∃ Bq, Sta w 159 [(5, (ybk)), (7, (ybp w n G)), (15, (yfp w n m ts G X k0)), (16, (.box 28 ((QQ (pdN G n k0) (pdD G (cmN ts m) n k0)) w.heap.size)))] [(18, Is (.int .i64 ((n : Int) - 1 - ((k0 : Nat) : Int)))), (11, (ycm w n m ts G)), (10, iV (n : Nat)), (0, Mv n Bm Kb), (1, (QV m ts K))] Bq a W) (fun (k0 : Nat) => n - k0) ?_ 0 ⟨Nat.zero_le _, B19, S19.sub [0, 1, 2, 3] [0, 2, 3, 4, 5]⟩
    rintro k0 a20 W20 ⟨hcond, B20, S20⟩
    by_cases hlt : k0 < n
    ·rw [show (n : Int) - 1 - (k0 : Int) = ((n - 1 - k0 : Nat) : Int) by omega] at S20
     have hz0 := hz (n - 1 - k0) (by omega)
     have hz1 := hz ((n - 1 - k0) + 1) (by omega)
     have hcd : (digs (dt G (n - 1 - k0 + 1) * dt G n * cmN ts m)).length ≤ 4000000 := Nat.le_trans (yap (yap (hD1 _ (by omega)) (hD1 n (by omega))) hMl) (by omega)
     have hbb : (digs (Dt.bo G ((n - 1 - k0)) n ((n - 1 - k0)) * Dt.bo G ((n - 1 - k0)) n ((n - 1 - k0))).natAbs).length ≤ 4200000 := by rw [Int.natAbs_mul]; exact Nat.le_trans (yap (hE _ _ (by omega) (by omega)) (hE _ _ (by omega) (by omega))) (by omega)
     have hdd : (digs (dt G (n - 1 - k0 + 1) * cmN ts m * (dt G (n - 1 - k0 + 1) * cmN ts m))).length ≤ 4200000 := Nat.le_trans (yap (hDM _ (by omega)) (hDM _ (by omega))) (by omega)
     have hset := dset (z := Is (.agg #[.bool false, .slice none 0 0, .bool false, .slice none 0 0])) (xs := ((X.map (fun x => QQ x (dt G n * cmN ts m))).map (· w.heap.size))) (n := n) (k := k0) (x := QQ (X.getD (n - 1 - k0) 0) (dt G n * cmN ts m) w.heap.size) (by simp [lX]) hlt (yas (· w.heap.size) (yas (fun x => QQ x (dt G n * cmN ts m)) (gD (l := X) (d := 0) (by omega))))
     refine wp_seq ?_
     refine wq [.val (Is (.int .i64 (((n - 1 - k0) : Nat) : Int))), kT] [.inr 0, .inr 1, .inr 2, .inr 3] [.inl 1, .inr 0, .inr 1, .inr 2, .inr 3, .inr 4] S20 ?_ ?_
     ·apply jj2
      ·exact mS 0 18
      ·exact yic wA (oO 0 107) (yaa _)
     intro B21 a21 W21 (S21 : Sta w 159 [(5, (ybk)), (7, (ybp w n G)), (15, (yfp w n m ts G X k0)), (16, (.box 28 ((QQ (pdN G n k0) (pdD G (cmN ts m) n k0)) w.heap.size)))] [(108, bT), (18, Is (.int .i64 (((n - 1 - k0) : Nat) : Int))), (11, (ycm w n m ts G)), (10, iV (n : Nat)), (0, Mv n Bm Kb), (1, (QV m ts K))] _ _ _)
     refine wp_cond_true (S21.bool 0 108 rfl) (wp_skip (thenN (wp_seq (wp_block ?_))))
     refine wq [.val (ycm w n m ts G), .val (Is (.int .i64 (((n - 1 - k0) : Nat) : Int))), .val (AtE 4 ((QQ (Dt.bo G ((n - 1 - k0)) n ((n - 1 - k0))) (dt G ((n - 1 - k0)) * cmN ts m)) w.heap.size)), .val ((QQ (Dt.bo G ((n - 1 - k0)) n ((n - 1 - k0))) (dt G ((n - 1 - k0)) * cmN ts m)) w.heap.size), .val (Part a21 7 1), .val ((LF 4 n (qs (stL G n))) w.heap.size), .val (Is (.int .i64 (((n - 1 - k0) : Nat) : Int))), .val (AtE 4 (yqk w n G k0)), .val (yqk w n G k0), .val ((QQ (Dt.bo G ((n - 1 - k0)) n ((n - 1 - k0))) (dt G (n - 1 - k0 + 1) * cmN ts m)) w.heap.size), .new (ybk), .put (.inr 10) (.box 28 ((QQ (Dt.bo G ((n - 1 - k0)) n ((n - 1 - k0))) (dt G (n - 1 - k0 + 1) * cmN ts m)) w.heap.size))] [.inr 0, .inr 1, .inr 2, .inr 3, .inl 10] [.inr 1, .inr 2, .inr 3, .inr 4, .inr 5] S21 ?_ ?_
     ·repeat' refine And.intro ?_ ?_
      ·trivial
      ·exact mS 2 11
      ·exact mS 1 18
      ·exact yae rfl wA rfl ybs ((oO 0 111).imp yg8) (oO 1 112) (yas (· w.heap.size) (yas (fun p : Int × Nat => QQ p.1 p.2) (yn3 (show (n - 1 - k0) < n by omega)))) rfl
      ·exact yag rfl wA rfl ybz (by decide) (ya5 (by decide) ya6) (oO 2 113) rfl
      ·exact ya2 rfl wA rfl (k := 1) rfl (by kernel_rfl) rfl (fun ρ w b h => ydf ρ _ _ w b 0 h)
      ·exact yav rfl wA rfl (oO 4 115) (k := 1) rfl (by kernel_rfl) rfl (fun ρ w b u h1 h2 h3 => ploadS rfl yd2 ρ _ _ w b u h1 h2 h3)
      ·exact mS 1 18
      ·exact yae rfl wA rfl ybs ((oO 5 116).imp yg8) (oO 6 117) (yas (· w.heap.size) (yas (fun p : Int × Nat => QQ p.1 p.2) (yhh (show (n - 1 - k0) < n by omega)))) rfl
      ·exact yag rfl wA rfl ybz (by decide) (ya5 (by decide) ya6) (oO 7 118) rfl
      ·exact cc2 wA (qO 3 114 rfl) (qO 8 119 rfl) (ybh _ _) (fun w u v h1 h2 => Gives.cast (ψ := (QQ (Dt.bo G ((n - 1 - k0)) n ((n - 1 - k0))) (dt G (n - 1 - k0 + 1) * cmN ts m))) (q_rdiv (k := 2100000) (k' := 196) (Nat.mul_ne_zero hz0 hMz) hz0 hz1 (hE (n - 1 - k0) (n - 1 - k0) (by omega) (by omega)) (Nat.le_trans (hDM _ (by omega)) (by omega)) (hD1 _ (by omega)) (hD1 _ (by omega)) (by omega) (by omega) w u v h1 h2) (rs_eq hz0 hz1 hMz))
      ·exact yat rfl wA rfl rfl (fun ρ w => ybd ρ _ w)
      ·exact ybj 10 rfl wA rfl (by kernel_rfl) rfl (oO 9 120) (yaf yah ybr ya6) rfl
     intro B22 a22 W22 (S22 : Sta w 159 [(5, (ybk)), (7, (ybp w n G)), (15, (yfp w n m ts G X k0)), (16, (.box 28 ((QQ (pdN G n k0) (pdD G (cmN ts m) n k0)) w.heap.size))), (19, (.box 28 ((QQ (Dt.bo G ((n - 1 - k0)) n ((n - 1 - k0))) (dt G (n - 1 - k0 + 1) * cmN ts m)) w.heap.size)))] [(18, Is (.int .i64 (((n - 1 - k0) : Nat) : Int))), (11, (ycm w n m ts G)), (10, iV (n : Nat)), (0, Mv n Bm Kb), (1, (QV m ts K))] _ _ _)
     refine wq [.val ((QQ (pdN G n k0) (pdD G (cmN ts m) n k0)) w.heap.size), .val ((QQ (Dt.bo G ((n - 1 - k0)) n ((n - 1 - k0))) (dt G (n - 1 - k0 + 1) * cmN ts m)) w.heap.size), .val ((QQ (Dt.bo G ((n - 1 - k0)) n ((n - 1 - k0)) * Dt.bo G ((n - 1 - k0)) n ((n - 1 - k0))) (dt G (n - 1 - k0 + 1) * cmN ts m * (dt G (n - 1 - k0 + 1) * cmN ts m))) w.heap.size), .val (Part a22 7 1), .val ((LF 4 n (qs (stL G n))) w.heap.size), .val (Is (.int .i64 (((n - 1 - k0) : Nat) : Int))), .val (AtE 4 (yqk w n G k0)), .val (yqk w n G k0), .val ((QQ (Dt.bo G ((n - 1 - k0)) n ((n - 1 - k0)) * Dt.bo G ((n - 1 - k0)) n ((n - 1 - k0)) * ((dt G ((n - 1 - k0) + 1) : Nat) : Int)) (dt G (n - 1 - k0 + 1) * cmN ts m * (dt G (n - 1 - k0 + 1) * cmN ts m) * dt G ((n - 1 - k0)))) w.heap.size), .val ((QQ (pdN G n (k0 + 1)) (pdD G (cmN ts m) n (k0 + 1))) w.heap.size), .put (.inl 16) (yf9 w n m ts G k0)] [.inr 0, .inr 1, .inr 2, .inr 3, .inr 4] [.inr 0, .inr 1, .inr 2, .inr 3, .inr 4] S22 ?_ ?_
     ·repeat' refine And.intro ?_ ?_
      ·trivial
      ·exact lod 3 wA (yau yah ya6)
      ·exact lod 4 wA (yau yah ya6)
      ·exact ch1 wA (qO 1 122 rfl) (ybh _ _) (fun w u h => ynl w u _ _ _ h (Nat.mul_ne_zero hz1 hMz) (Nat.le_trans (hE _ _ (by omega) (by omega)) (by omega)) (Nat.le_trans (hDM _ (by omega)) (by omega)))
      ·exact ya2 rfl wA rfl (k := 1) rfl (by kernel_rfl) rfl (fun ρ w b h => ydf ρ _ _ w b 0 h)
      ·exact yav rfl wA rfl (oO 3 124) (k := 1) rfl (by kernel_rfl) rfl (fun ρ w b u h1 h2 h3 => ploadS rfl yd2 ρ _ _ w b u h1 h2 h3)
      ·exact mS 0 18
      ·exact yae rfl wA rfl ybs ((oO 4 125).imp yg8) (oO 5 126) (yas (· w.heap.size) (yas (fun p : Int × Nat => QQ p.1 p.2) (yhh (show (n - 1 - k0) < n by omega)))) rfl
      ·exact yag rfl wA rfl ybz (by decide) (ya5 (by decide) ya6) (oO 6 127) rfl
      ·exact cc2 wA (qO 2 123 rfl) (qO 7 128 rfl) (ybh _ _) (fun w u v h1 h2 => yi8 (k := 4200000) (k' := 196) (Nat.mul_ne_zero (Nat.mul_ne_zero hz1 hMz) (Nat.mul_ne_zero hz1 hMz)) hz0 hbb hdd (by rw [Int.natAbs_natCast]; exact hD1 _ (by omega)) (hD1 _ (by omega)) (by omega) (by omega) w u v h1 h2)
      ·exact cc2 wA (qO 0 121 rfl) (qO 8 129 rfl) (ybh _ _) (fun w u v h1 h2 => Gives.cast (ψ := (QQ (pdN G n (k0 + 1)) (pdD G (cmN ts m) n (k0 + 1)))) (ym9 (k := 4201000) (k' := 4201000) (hpdz k0) (Nat.mul_ne_zero (Nat.mul_ne_zero (Nat.mul_ne_zero hz1 hMz) (Nat.mul_ne_zero hz1 hMz)) hz0) (hpdN k0) (Nat.le_trans (hpdD k0) (by omega)) (by rw [Int.natAbs_mul]; exact Nat.le_trans (yap hbb (by rw [Int.natAbs_natCast]; exact hD1 _ (by omega))) (by omega)) (Nat.le_trans (yap hdd (hD1 _ (by omega))) (by omega)) (by omega) (by omega) w u v h1 h2) (pd_step hlt hz hMz (yk0 hs hp (by omega))))
      ·exact ya7 rfl wA rfl (k := 3) rfl (by kernel_rfl) (oO 9 130) (yaf yah ya6 ya6) rfl
     intro B23 a23 W23 (S23 : Sta w 159 [(5, (ybk)), (7, (ybp w n G)), (15, (yfp w n m ts G X k0)), (16, (yf9 w n m ts G k0)), (19, (.box 28 ((QQ (Dt.bo G ((n - 1 - k0)) n ((n - 1 - k0))) (dt G (n - 1 - k0 + 1) * cmN ts m)) w.heap.size)))] [(18, Is (.int .i64 (((n - 1 - k0) : Nat) : Int))), (11, (ycm w n m ts G)), (10, iV (n : Nat)), (0, Mv n Bm Kb), (1, (QV m ts K))] _ _ _)
     refine wp_seq ?_
     refine wq [.val (Is (.int .i64 (((n - 1 - k0) : Nat) : Int))), .val (Is (.int .i64 (((n - 1 - k0) + 1 + 0 : Nat) : Int))), .val (Is (.int .i64 (((n - 1 - k0) + 1 + 0 : Nat) : Int)))] [.inr 0, .inr 1, .inr 2, .inr 3, .inr 4] [.inl 2, .inr 0, .inr 1, .inr 2, .inr 3, .inr 4] S23 ?_ ?_
     ·apply jj3
      ·exact mS 0 18
      ·exact ya3 wA (oO 0 131) (yaa _)
      ·exact mO 1 132
     intro B24 a24 _ (S24 : Sta w 159 [(5, (ybk)), (7, (ybp w n G)), (15, (yfp w n m ts G X k0)), (16, (yf9 w n m ts G k0)), (19, (.box 28 ((QQ (Dt.bo G ((n - 1 - k0)) n ((n - 1 - k0))) (dt G (n - 1 - k0 + 1) * cmN ts m)) w.heap.size)))] [(20, Is (.int .i64 (((n - 1 - k0) + 1 + 0 : Nat) : Int))), (18, Is (.int .i64 (((n - 1 - k0) : Nat) : Int))), (11, (ycm w n m ts G)), (10, iV (n : Nat)), (0, Mv n Bm Kb), (1, (QV m ts K))] _ _ _)
     refine wp_block ?_
     rw [c_start' (x := (fun j => X.getD j 0)) hz1 (hz n (by omega)) hMz] at S24
     refine yan (fun (s0 : Nat) a W => (s0 ≤ k0) ∧ ∃ Bq, Sta w 159 [(5, (ybk)), (7, (ybp w n G)), (15, (yfp w n m ts G X k0)), (16, (yf9 w n m ts G k0)), (19, (.box 28 ((QQ (cnN G n (fun j => X.getD j 0) (n - 1 - k0) s0) (dt G (n - 1 - k0 + 1) * dt G n * cmN ts m)) w.heap.size)))] [(20, Is (.int .i64 (((n - 1 - k0 + 1 + s0) : Nat) : Int))), (18, Is (.int .i64 (((n - 1 - k0) : Nat) : Int))), (11, (ycm w n m ts G)), (10, iV (n : Nat)), (0, Mv n Bm Kb), (1, (QV m ts K))] Bq a W) (fun (s0 : Nat) => k0 - s0) ?_ 0 ⟨Nat.zero_le _, B24, S24.sub [0, 1, 2, 3, 4] [0, 1, 2, 3, 4, 5]⟩
     rintro s0 a25 _ ⟨hcond, _, S25⟩
     by_cases hls : s0 < k0
     ·have hml := yha G (n - 1 - k0 + 1 + s0) (n - 1 - k0 + 1 + s0)
      have hcs : (digs (cnN G n (fun j => X.getD j 0) (n - 1 - k0) s0).natAbs).length ≤ 4000000 := cn_len hE hD1 hB1 dX (by omega) (by omega)
      refine wp_seq ?_
      refine wq [.val (Is (.int .i64 (((n - 1 - k0 + 1 + s0) : Nat) : Int))), .val (iV (n : Nat)), kT] [.inr 0, .inr 1, .inr 2, .inr 3, .inr 4] [.inl 2, .inr 0, .inr 1, .inr 2, .inr 3, .inr 4, .inr 5] S25 ?_ ?_
      ·apply jj3
       ·exact mS 0 20
       ·exact mS 3 10
       ·exact yar wA (oO 0 133) (oO 1 134)
      intro B26 a26 W26 (S26 : Sta w 159 [(5, (ybk)), (7, (ybp w n G)), (15, (yfp w n m ts G X k0)), (16, (yf9 w n m ts G k0)), (19, (.box 28 ((QQ (cnN G n (fun j => X.getD j 0) (n - 1 - k0) s0) (dt G (n - 1 - k0 + 1) * dt G n * cmN ts m)) w.heap.size)))] [(135, bT), (20, Is (.int .i64 (((n - 1 - k0 + 1 + s0) : Nat) : Int))), (18, Is (.int .i64 (((n - 1 - k0) : Nat) : Int))), (11, (ycm w n m ts G)), (10, iV (n : Nat)), (0, Mv n Bm Kb), (1, (QV m ts K))] _ _ _)
      refine wp_cond_true (S26.bool 0 135 rfl) (wp_skip (thenN (wp_seq (wp_block ?_))))
      refine wr [.val ((QQ (cnN G n (fun j => X.getD j 0) (n - 1 - k0) s0) (dt G (n - 1 - k0 + 1) * dt G n * cmN ts m)) w.heap.size), .val (Part a26 7 0), .val ((LF 1 n (qms (mmL G n))) w.heap.size), .val (Is (.int .i64 (((n - 1 - k0 + 1 + s0) : Nat) : Int))), .val (AtE 1 ((LF 4 ((muL G (n - 1 - k0 + 1 + s0) (n - 1 - k0 + 1 + s0)).length) (qs (muL G (n - 1 - k0 + 1 + s0) (n - 1 - k0 + 1 + s0)))) w.heap.size)), .val ((LF 4 ((muL G (n - 1 - k0 + 1 + s0) (n - 1 - k0 + 1 + s0)).length) (qs (muL G (n - 1 - k0 + 1 + s0) (n - 1 - k0 + 1 + s0)))) w.heap.size), .val (Is (.int .i64 (((n - 1 - k0) : Nat) : Int))), .val (AtE 4 ((QQ (Dt.bo G ((n - 1 - k0)) ((n - 1 - k0 + 1 + s0)) ((n - 1 - k0))) (dt G ((n - 1 - k0) + 1))) w.heap.size)), .val ((QQ (Dt.bo G ((n - 1 - k0)) ((n - 1 - k0 + 1 + s0)) ((n - 1 - k0))) (dt G ((n - 1 - k0) + 1))) w.heap.size), .val (Is (a26.eval (.tmp 15))), .val (Is (.int .i64 (((n - 1 - k0 + 1 + s0) : Nat) : Int))), .val (REt a26 15 (4 * ((n - 1 - k0 + 1 + s0)))), .val ((QQ (X.getD (n - 1 - k0 + 1 + s0) 0) (dt G n * cmN ts m)) w.heap.size), .val ((QQ (Dt.bo G ((n - 1 - k0)) ((n - 1 - k0 + 1 + s0)) ((n - 1 - k0)) * X.getD (n - 1 - k0 + 1 + s0) 0) (dt G (n - 1 - k0 + 1) * (dt G n * cmN ts m))) w.heap.size), .val (yqj w n m ts G X k0 s0), .put (.inl 19) (.box 28 (yqj w n m ts G X k0 s0))] [.inr 0, .inr 1, .inr 2, .inr 3, .inr 4] [.inr 1, .inr 2, .inr 3, .inr 4, .inr 5, .inr 6] S26 ?_ ?_
      ·repeat' refine And.intro ?_ ?_
       ·trivial
       ·exact lod 4 wA (yau yah ya6)
       ·exact ya2 rfl wA rfl (k := 1) rfl (by kernel_rfl) rfl (fun ρ w b h => yec ρ _ _ w b 0 h)
       ·exact yav rfl wA rfl (oO 1 139) (k := 1) rfl (by kernel_rfl) rfl (fun ρ w b u h1 h2 h3 => ploadS rfl yfx ρ _ _ w b u h1 h2 h3)
       ·exact mS 1 20
       ·exact yae rfl wA rfl yiu ((oO 2 140).imp yg8) (oO 3 141) (yas (· w.heap.size) (yas (fun r : List (Int × Nat) => LF 4 r.length (qs r)) (ylb (show (n - 1 - k0 + 1 + s0) < n by omega)))) rfl
       ·exact yag rfl wA rfl yix (by decide) yme (oO 4 142) rfl
       ·exact mS 2 18
       ·exact yae rfl wA rfl ybs ((oO 5 143).imp yg8) (oO 6 144) (yas (· w.heap.size) (yas (fun p : Int × Nat => QQ p.1 p.2) (yg9 (show (n - 1 - k0) < (n - 1 - k0 + 1 + s0) by omega)))) rfl
       ·exact yag rfl wA rfl ybz (by decide) (ya5 (by decide) ya6) (oO 7 145) rfl
       ·exact yct rfl wA (Or.inl rfl) (by kernel_rfl) rfl
       ·exact mS 1 20
       ·exact ycs rfl wA rfl ybs (oO 9 147) (k := 2) rfl (by kernel_rfl) (oO 10 148) (by omega) rfl
       ·exact yf0 rfl wA rfl ybz (by decide) (oO 11 149) (k := 2) rfl (by kernel_rfl) ((dget (by omega)).trans (yas (· w.heap.size) (yas (fun x => QQ x (dt G n * cmN ts m)) (gD (l := X) (d := 0) (by omega))))) rfl
       ·exact cc2 wA (qO 8 146 rfl) (qO 12 150 rfl) (ybh _ _) (fun w u v h1 h2 => yi8 (k := 196) (k' := 2110000) hz1 (Nat.mul_ne_zero (hz n (by omega)) hMz) (hB1 (n - 1 - k0) (n - 1 - k0 + 1 + s0) (n - 1 - k0) (by omega) (by omega) (by omega)) (hD1 _ (by omega)) (dX (n - 1 - k0 + 1 + s0) (by omega)) (Nat.le_trans (hDM n (by omega)) (by omega)) (by omega) (by omega) w u v h1 h2)
       ·exact cc2 wA (qO 0 138 rfl) (qO 13 151 rfl) (ybh _ _) (fun w u v h1 h2 => Gives.cast (ψ := (QQ (cnN G n (fun j => X.getD j 0) (n - 1 - k0) ((s0 + 1))) (dt G (n - 1 - k0 + 1) * dt G n * cmN ts m))) (ym9 (k := 4000000) (k' := 4000000) (Nat.mul_ne_zero (Nat.mul_ne_zero hz1 (hz n (by omega))) hMz) (Nat.mul_ne_zero hz1 (Nat.mul_ne_zero (hz n (by omega)) hMz)) hcs hcd (by rw [Int.natAbs_mul]; exact Nat.le_trans (yap (hB1 (n - 1 - k0) (n - 1 - k0 + 1 + s0) (n - 1 - k0) (by omega) (by omega) (by omega)) (dX (n - 1 - k0 + 1 + s0) (by omega))) (by omega)) (Nat.le_trans (yap (hD1 _ (by omega)) (hDM n (by omega))) (by omega)) (by omega) (by omega) w u v h1 h2) (c_step' (x := (fun j => X.getD j 0)) hz1 (hz n (by omega)) hMz))
       ·exact ya7 rfl wA rfl (k := 4) rfl (by kernel_rfl) (oO 14 152) (yaf yah ya6 ya6) rfl
      intro B27 a27 W27 (S27 : Sta w 159 [(5, (ybk)), (7, (ybp w n G)), (15, (yfp w n m ts G X k0)), (16, (yf9 w n m ts G k0)), (19, (.box 28 (yqj w n m ts G X k0 s0)))] [(20, Is (.int .i64 (((n - 1 - k0 + 1 + s0) : Nat) : Int))), (18, Is (.int .i64 (((n - 1 - k0) : Nat) : Int))), (11, (ycm w n m ts G)), (10, iV (n : Nat)), (0, Mv n Bm Kb), (1, (QV m ts K))] _ _ _)
      refine inBlkN (thenN ?_)
      refine wr [.val (Is (.int .i64 (((n - 1 - k0 + 1 + s0) : Nat) : Int))), .val (Is (.int .i64 ((n - 1 - k0 + 1 + (s0 + 1) : Nat) : Int))), .val (Is (.int .i64 ((n - 1 - k0 + 1 + (s0 + 1) : Nat) : Int)))] [.inr 0, .inr 1, .inr 2, .inr 3, .inr 4] [.inl 2, .inr 1, .inr 2, .inr 3, .inr 4, .inr 5] S27 ?_ ?_
      ·apply jj3
       ·exact mS 0 20
       ·exact ya3 wA (oO 0 136) (yaa _)
       ·exact mO 1 137
      intro B28 a28 W28 (S28 : Sta w 159 [(5, (ybk)), (7, (ybp w n G)), (15, (yfp w n m ts G X k0)), (16, (yf9 w n m ts G k0)), (19, (.box 28 (yqj w n m ts G X k0 s0)))] [(20, Is (.int .i64 ((n - 1 - k0 + 1 + (s0 + 1) : Nat) : Int))), (18, Is (.int .i64 (((n - 1 - k0) : Nat) : Int))), (11, (ycm w n m ts G)), (10, iV (n : Nat)), (0, Mv n Bm Kb), (1, (QV m ts K))] _ _ _)
      refine thenN ?_
      exact ⟨s0 + 1, ⟨by omega, B28, S28.sub [0, 1, 2, 3, 4] [0, 1, 2, 3, 4, 5]⟩, by omega⟩
     ·have es : s0 = k0 := by omega
      have hxe := hx (n - 1 - k0) (by omega)
      rw [show n - 1 - (n - 1 - k0) = k0 by omega] at hxe
      rw [es, c_end' (x := (fun j => X.getD j 0)) hz1 (hz n (by omega)) hMz hxe] at S25
      refine wp_seq ?_
      refine wq [.val (iV ((n - 1 - k0 + 1 + k0 : Nat) : Int)), .val (iV (n : Nat)), kF] [.inr 0, .inr 1, .inr 2, .inr 3, .inr 4] [.inl 2, .inr 0, .inr 1, .inr 2, .inr 3, .inr 4, .inr 5] S25 ?_ ?_
      ·apply jj3
       ·exact mS 0 20
       ·exact mS 3 10
       ·exact yaz wA (oO 0 133) (oO 1 134)
      intro B26 a26 W26 (S26 : Sta w 159 [(5, (ybk)), (7, (ybp w n G)), (15, (yfp w n m ts G X k0)), (16, (yf9 w n m ts G k0)), (19, (.box 28 ((QQ (X.getD (n - 1 - k0) 0) (dt G n * cmN ts m)) w.heap.size)))] [(135, bF), (20, iV ((n - 1 - k0 + 1 + k0 : Nat) : Int)), (18, Is (.int .i64 (((n - 1 - k0) : Nat) : Int))), (11, (ycm w n m ts G)), (10, iV (n : Nat)), (0, Mv n Bm Kb), (1, (QV m ts K))] _ _ _)
      refine wp_cond_false (S26.bool 0 135 rfl) (wp_exit (thenX (thenX (inBlkE (thenN ?_)))))
      refine wr [.val (Is (a26.eval (.tmp 15))), .val (Is (.int .i64 (((n - 1 - k0) : Nat) : Int))), .val ((QQ (X.getD (n - 1 - k0) 0) (dt G n * cmN ts m)) w.heap.size), .val (REt a26 15 (4 * ((n - 1 - k0)))), .put (.inl 15) (qx08b9 w n m ts G X k0)] [.inr 0, .inr 1, .inr 2, .inr 3, .inr 4] [.inr 1, .inr 2, .inr 3, .inr 4, .inr 5, .inr 6] S26 ?_ ?_
      ·apply jj5
       ·exact yct rfl wA (Or.inl rfl) (by kernel_rfl) rfl
       ·exact mS 2 18
       ·exact lod 4 wA (yau yah ya6)
       ·exact ycs rfl wA rfl ybs (oO 0 153) (k := 2) rfl (by kernel_rfl) (oO 1 154) (by omega) rfl
       ·exact yeb rfl wA rfl yqx (by decide) (oO 3 156) (k := 2) rfl (by kernel_rfl) (oO 2 155) (ya5 (by decide) ya6) (by omega) (by rw [hset]; rfl)
      intro B27 a27 W27 (S27 : Sta w 159 [(5, (ybk)), (7, (ybp w n G)), (15, (qx08b9 w n m ts G X k0)), (16, (yf9 w n m ts G k0)), (19, (.box 28 ((QQ (X.getD (n - 1 - k0) 0) (dt G n * cmN ts m)) w.heap.size)))] [(20, iV ((n - 1 - k0 + 1 + k0 : Nat) : Int)), (18, Is (.int .i64 (((n - 1 - k0) : Nat) : Int))), (11, (ycm w n m ts G)), (10, iV (n : Nat)), (0, Mv n Bm Kb), (1, (QV m ts K))] _ _ _)
      refine inBlkN (thenN ?_)
      refine wr [.val (Is (.int .i64 (((n - 1 - k0) : Nat) : Int))), .val (Is (.int .i64 ((n : Int) - 1 - ((k0 + 1 : Nat) : Int)))), .val (Is (.int .i64 ((n : Int) - 1 - ((k0 + 1 : Nat) : Int))))] [.inr 0, .inr 1, .inr 2, .inr 3, .inr 4] [.inl 2, .inr 0, .inr 2, .inr 3, .inr 4, .inr 5] S27 ?_ ?_
      ·apply jj3
       ·exact mS 1 18
       ·exact ygf wA (oO 0 109) (yaa _)
       ·exact mO 1 110
      intro B28 a28 W28 (S28 : Sta w 159 [(5, (ybk)), (7, (ybp w n G)), (15, (qx08b9 w n m ts G X k0)), (16, (yf9 w n m ts G k0)), (19, (.box 28 ((QQ (X.getD (n - 1 - k0) 0) (dt G n * cmN ts m)) w.heap.size)))] [(18, Is (.int .i64 ((n : Int) - 1 - ((k0 + 1 : Nat) : Int)))), (20, iV ((n - 1 - k0 + 1 + k0 : Nat) : Int)), (11, (ycm w n m ts G)), (10, iV (n : Nat)), (0, Mv n Bm Kb), (1, (QV m ts K))] _ _ _)
      refine thenN ?_
      exact ⟨k0 + 1, ⟨by omega, B28, S28.sub [0, 1, 2, 3] [0, 2, 3, 4, 5]⟩, by omega⟩
    ·have hend := dend (z := Is (.agg #[.bool false, .slice none 0 0, .bool false, .slice none 0 0])) (xs := ((X.map (fun x => QQ x (dt G n * cmN ts m))).map (· w.heap.size))) (n := n) (k := k0) (by omega)
     have ek : k0 = n := by omega
     rw [show pdN G n k0 = pdN G n n by rw [ek], show pdD G (cmN ts m) n k0 = pdD G (cmN ts m) n n by rw [ek], pd_end hz hMz] at S20
     refine wp_seq ?_
     refine wq [.val (Is (.int .i64 ((n : Int) - 1 - ((k0 : Nat) : Int)))), kF] [.inr 0, .inr 1, .inr 2, .inr 3] [.inl 1, .inr 0, .inr 1, .inr 2, .inr 3, .inr 4] S20 ?_ ?_
     ·apply jj2
      ·exact mS 0 18
      ·exact yib wA (oO 0 107) (yaa _)
     intro B21 a21 W21 (S21 : Sta w 159 [(5, (ybk)), (7, (ybp w n G)), (15, (yfp w n m ts G X k0)), (16, (yni w n m ts G))] [(108, bF), (18, Is (.int .i64 ((n : Int) - 1 - ((k0 : Nat) : Int)))), (11, (ycm w n m ts G)), (10, iV (n : Nat)), (0, Mv n Bm Kb), (1, (QV m ts K))] _ _ _)
     refine wp_cond_false (S21.bool 0 108 rfl) (wp_exit (thenX (thenX (inBlkE (thenN ?_)))))
     obtain ⟨B22, S22⟩ : ∃ Bq, Sta w 159 [(5, (ybk)), (7, (ybp w n G)), (16, (yni w n m ts G))] [(15, ((LF 4 n (X.map (fun x => QQ x (dt G n * cmN ts m)))) w.heap.size)), (108, bF), (18, Is (.int .i64 ((n : Int) - 1 - ((k0 : Nat) : Int)))), (11, (ycm w n m ts G)), (10, iV (n : Nat)), (0, Mv n Bm Kb), (1, (QV m ts K))] Bq a21 W21 := ⟨_, S21.freeze 2 rfl (by simp) (fun v w' xs ho hc => ydi (by decide) v w' xs ho (by rw [hend] at hc; exact hc))⟩
     obtain ⟨a22, W22, e1, e2⟩ : ∃ a W, a21 = a ∧ W21 = W := ⟨_, _, rfl, rfl⟩
     rw [e1, e2] at S22 ⊢
     clear e1 e2
     refine wq [.val ((LF 4 n (X.map (fun x => QQ x (dt G n * cmN ts m)))) w.heap.size), .val ((QQ (Dt.bo G n n n) (dt G n * cmN ts m * cmN ts m)) w.heap.size), .val ((LF 4 n (X.map (fun x => QQ x (dt G n * cmN ts m)))) w.heap.size), .put (.inl 5) (yni w n m ts G), .val (iV 0)] [.inr 0, .inr 1, .inr 2] [.inl 2, .inl 4, .inr 0, .inr 2, .inr 3, .inr 4, .inr 5, .inr 6] S22 ?_ ?_
     ·apply jj5
      ·exact mS 0 15
      ·exact lod 2 wA (yau yah ya6)
      ·exact mO 0 157
      ·exact ya7 rfl wA rfl (k := 0) rfl (by kernel_rfl) (oO 1 158) (yaf yah ybr ya6) rfl
      ·exact mC
     intro B23 a23 W23 (S23 : Sta w 159 [(5, (yni w n m ts G)), (7, (ybp w n G)), (16, (yni w n m ts G))] [(4, ((LF 4 n (X.map (fun x => QQ x (dt G n * cmN ts m)))) w.heap.size)), (6, iV 0), (15, ((LF 4 n (X.map (fun x => QQ x (dt G n * cmN ts m)))) w.heap.size)), (18, Is (.int .i64 ((n : Int) - 1 - ((k0 : Nat) : Int)))), (11, (ycm w n m ts G)), (10, iV (n : Nat)), (0, Mv n Bm Kb), (1, (QV m ts K))] _ _ _)
     refine wp_ret ?_
     exact yc2 S23 rfl (yay S23 0 4 rfl) (ybb S23 0 5 rfl yah ya6) (yay S23 1 6 rfl)
abbrev CoG (n m Kb K : Nat) (Bm : List (List Int)) (ts : List (Int × Int)) (ψ : Nat → Pr) : Prop := ∀ w u v, Hs w (Mv n Bm Kb) u → Hs w (QV m ts K) v → Calls Tryz.prog 5 #[u, v] w (Gives ψ w)
abbrev RcG (n m Kb K : Nat) (Bm : List (List Int)) (ts : List (Int × Int)) (ψ : Nat → Pr) : Prop := ∀ w u v, Hs w (Mv n Bm Kb) u → Hs w (QV m ts K) v → Calls Tryz.prog 6 #[u, v] w (Gives ψ w)
abbrev CoE (e : Int) : Nat → Pr := THREE (IS (.slice none 0 0)) (IS (.agg #[.bool false, .slice none 0 0, .bool false, .slice none 0 0])) (IS (.int .i64 e))
abbrev CoP (n : Nat) (X : List Int) (d : Nat) (P : Int) (Q : Nat) : Nat → Pr := THREE (LF 4 n (X.map (fun x => QQ x d))) (QQ P Q) (IS (.int .i64 0))
abbrev coG (Bm : List (List Int)) (ts : List (Int × Int)) (m : Nat) : Nat → Nat → Int := gr (bxT Bm (tlL ts (cmN ts m)))
theorem yfq {x : Nat → Int} {n i : Nat} (h : i < n) : ((List.range n).map x).getD i 0 = x i := by
 rw [List.getD_eq_getElem?_getD, List.getElem?_map, List.getElem?_range h]
 rfl
theorem tl_dl {ts : List (Int × Int)} {m E : Nat} (lt : ts.length = m) (ok : DenOk ts) (hT : ∀ k, k < m → (digs (ts.getD k (0, 0)).1.natAbs).length + dsum ts m ≤ E) : Dl (tlL ts (cmN ts m)) E := fun i z hz => by
 have hi : i < ts.length := by
  have := (List.getElem?_eq_some_iff.1 hz).1
  rw [tl_len] at this
  exact this
 rw [tl_get' hi] at hz
 obtain rfl := Option.some.inj hz
 have h1 := hT i (by omega)
 have h2 := yjy ok m (by omega)
 refine Nat.le_trans (ybx (Nat.le_refl _) ?_) h1
 rw [Int.natAbs_natCast]
 exact Nat.le_trans (yai (Nat.div_le_self _ _)) h2
section
variable {n m Kb K : Nat} {Bm : List (List Int)} {ts : List (Int × Int)}
theorem co_fine (lt : ts.length = m) (hm : m ≤ 1048576) (hK : K ≤ 1048576) (hKb : Kb ≤ 1048576) (hdl : Mdl Bm Kb) (hok : OfOk Bm n) (hrow : ∀ j, j < n → (Bm.getD j []).length = m) (ok : DenOk ts) (hS : dsum ts m ≤ 1048577) (hT : ∀ k, k < m → (digs (ts.getD k (0, 0)).1.natAbs).length + dsum ts m ≤ 1048577)
  (hof : OfGives n Kb Bm (TWO (GN n (gwD Bm n) (gwL Bm n)) (IS (.int .i64 0)))) (hch : ChGives n Kb Bm (TWO (FN n (mmL (gr Bm) n) (stL (gr Bm) n)) (IS (.int .i64 0)))) :
  ∃ x : Nat → Int, (∀ r, r < n → Dt.sm (fun c => x c * coG Bm ts m r c) n = Dt.det n (coG Bm ts m) * coG Bm ts m r n) ∧ (∀ r, Dt.bo (coG Bm ts m) n r n = Dt.det n (coG Bm ts m) * coG Bm ts m r n - Dt.sm (fun c => x c * coG Bm ts m r c) n) ∧ (∀ k, k ≤ n → 0 < Dt.det k (coG Bm ts m)) ∧ (digs (dt (coG Bm ts m) n)).length ≤ 196 ∧ (∀ i, i < n → (digs (x i).natAbs).length ≤ 2110000) ∧ (digs (Dt.bo (coG Bm ts m) n n n).natAbs).length ≤ 4200000 ∧
   CoG n m Kb K Bm ts (CoP n ((List.range n).map x) (dt (coG Bm ts m) n * cmN ts m) (Dt.bo (coG Bm ts m) n n n) (dt (coG Bm ts m) n * cmN ts m * cmN ts m)) ∧ RcG n m Kb K Bm ts (CoP n ((List.range n).map x) (dt (coG Bm ts m) n * cmN ts m) (Dt.bo (coG Bm ts m) n n n) (dt (coG Bm ts m) n * cmN ts m * cmN ts m)) := by
 have h12 := hok.top
 have hpos := hok.pos
 have lB := hok.len
 have hm12 : m ≤ 12 := by
  have h1 := hrow 0 hpos
  have h2 := yd9 hok.nar 0
  omega
 have hcl := yjy ok m (by omega)
 have dlT := tl_dl lt ok hT
 show ∃ x : Nat → Int, _
 unfold coG
 obtain ⟨T, hTe⟩ : ∃ T, T = tlL ts (cmN ts m) := ⟨_, rfl⟩
 have lT : T.length = m := by rw [hTe, tl_len, lt]
 rw [← hTe] at dlT ⊢
 obtain ⟨G, hG⟩ : ∃ G, G = gr (bxT Bm T) := ⟨_, rfl⟩
 rw [← hG]
 have bxn : (bxT Bm T).getD n [] = T := bx_at lB
 have hs : ∀ i j, G i j = G j i := fun i j => by rw [hG]; exact yiq _ i j
 have hdet : ∀ k, k ≤ n → Dt.det k G = Dt.det k (gr Bm) := fun k hk => by rw [hG]; exact detx (by omega)
 have hbo : ∀ k i j, k < n → i < n → j < n → Dt.bo G k i j = Dt.bo (gr Bm) k i j := fun k i j h1 h2 h3 => by rw [hG]; exact box (by omega) (by omega) (by omega)
 have hp0 := (ypl (yd9 hok.nar) (i := n) hok.ne).1
 have hp : ∀ k, k ≤ n → 0 < Dt.det k G := fun k hk => by rw [hdet k hk]; exact hp0 k hk
 have hL : Dt.Lead G n := yk4 hp (Nat.le_refl _)
 have hgw := (yk3 (ygc (i := n) (fun k hk => hok.ne k hk))).1
 have hD : ∀ k, k ≤ n → (gwD Bm n).getD k 0 = Dt.det k G := fun k hk => by rw [hgw.d k hk, hdet k hk]
 have hLl : ∀ j, j < n → ∀ k, k < j → ((gwL Bm n).getD j []).getD k 0 = Dt.bo G k j k := fun j hj k hk => by rw [hgw.l j hj k hk, hbo k j k (by omega) hj (by omega)]
 have hlf0 : ∀ j, j ≤ n → ∀ k, k < j → (lfL (gwD Bm n) (gwL Bm n) Bm T j).getD k 0 = Dt.bo G k n k := fun j hj k hk => by
  have q := yk5 (Bm := bxT Bm T) (i := n) (D := gwD Bm n) (L := gwL Bm n) ⟨fun m' hm' => by rw [hD m' hm', hG], fun j' hj' k' hk' => by rw [hLl j' hj' k' hk', hG]⟩ (by rw [← hG]; exact hL) j hj k hk
  rw [bxn, ← hG, ymw j (fun j' hj' => bx_lo (by omega))] at q
  exact q
 obtain ⟨dD, _, _⟩ := gl_ok hok
 have hB1 : ∀ k i j, k < n → i < n → j < n → (digs (Dt.bo G k i j).natAbs).length ≤ 196 := fun k i j h1 h2 h3 => by rw [hbo k i j h1 h2 h3]; exact bo_len hok.bits (yd9 hok.nar) (by omega) i j
 have hDz : ∀ k, k ≤ n → (digs (Dt.det k G).natAbs).length ≤ 196 := fun k hk => by rw [← hD k hk]; exact ydc dD k
 have hD1 : ∀ k, k ≤ n → (digs (dt G k)).length ≤ 196 := fun k hk => by
  have q := hDz k hk
  rw [← yfh hp hk, Int.natAbs_natCast] at q
  exact q
 have hGn : ∀ j, j < n → G n j = dotR T (Bm.getD j []) := fun j hj => by
  rw [hG]
  show dotR ((bxT Bm T).getD n []) ((bxT Bm T).getD j []) = _
  rw [bxn, bx_lo (by omega)]
 have hGt : G n n = dotR T T := by
  rw [hG]
  show dotR ((bxT Bm T).getD n []) ((bxT Bm T).getD n []) = _
  rw [bxn]
 have hal : ∀ i, i < n → Dt.sm (fun c => T.getD c 0 * (Bm.getD i []).getD c 0) m = G n i := fun i hi => by rw [hGn i hi, ymj _ _ m (by omega)]
 have hsq : Dt.sm (fun c => T.getD c 0 * T.getD c 0) m = G n n := by rw [hGt, ymj _ _ m (by omega)]
 have hrd : ∀ i, i < n → ∀ c, (digs ((Bm.getD i []).getD c 0).natAbs).length ≤ Kb := fun i hi c => ydc (hdl i _ (gD (d := []) (by omega))) c
 have hala : ∀ i k, i < n → k ≤ m → (digs (Dt.sm (fun c => T.getD c 0 * (Bm.getD i []).getD c 0) k).natAbs).length ≤ 2097165 := fun i k hi hk => Nat.le_trans (ynu (K := 1048577 + Kb) (fun c _ => ybx (ydc dlT c) (hrd i hi c))) (by omega)
 have hsqa : ∀ k, k ≤ m → (digs (Dt.sm (fun c => T.getD c 0 * T.getD c 0) k).natAbs).length ≤ 4194330 := fun k hk => Nat.le_trans (ynu (K := 1048577 + 1048577) (fun c _ => ybx (ydc dlT c) (ydc dlT c))) (by omega)
 have hE0 : ∀ j, j < n → (digs (G n j).natAbs).length ≤ 2097165 := fun j hj => by rw [← hal j hj]; exact hala j m hj (Nat.le_refl _)
 have hFt : (digs (G n n).natAbs).length ≤ 4194330 := by rw [← hsq]; exact hsqa m (Nat.le_refl _)
 have hE1 : ∀ k, k ≤ n → ∀ j, j < n → (digs (Dt.bo G k n j).natAbs).length ≤ 2099565 := fun k hk j hj => Nat.le_trans (ykt hs hp hB1 hDz hE0 k hk j hj) (by omega)
 have hF1 : ∀ k, k ≤ n → (digs (Dt.bo G k n n).natAbs).length ≤ 4199130 := fun k hk => Nat.le_trans (yo7 hs hp hB1 hDz hE0 hFt (by omega) k hk) (by omega)
 obtain ⟨x, hx1, hx2⟩ := cram2 hL n
 have hback : ∀ i, i < n → Dt.det n G * Dt.bo G i n i - Dt.sm (fun s => x (i + 1 + s) * Dt.bo G i (i + 1 + s) i) (n - 1 - i) = Dt.det (i + 1) G * x i := fun i hi => Dt.cram_back hs hL hx1 hi
 have hxl : ∀ i, i < n → (digs (x i).natAbs).length ≤ 2110000 := fun i hi => by
  have q := x_len hp hB1 hDz hE1 h12 hback (n - 1 - i) (by omega) (n - 1 - i) (Nat.le_refl _)
  rw [show n - 1 - (n - 1 - i) = i by omega] at q
  exact Nat.le_trans q (by omega)
 have lX : ((List.range n).map x).length = n := by simp
 have dX : Dl ((List.range n).map x) 4200000 := fun i z hz => by
  have hi : i < n := by
   have := (List.getElem?_eq_some_iff.1 hz).1
   rw [lX] at this
   exact this
  rw [List.getElem?_map, List.getElem?_range hi] at hz
  obtain rfl := Option.some.inj hz
  exact Nat.le_trans (hxl i hi) (by omega)
 have hdtn := yfh hp (Nat.le_refl n)
 have hlfo : LfOk (gwD Bm n) (gwL Bm n) Bm T n 4200000 := ⟨fun j hj => by
  rw [← hGn j hj]
  exact tk_ok (X := 0) hs (yk4 hp (by omega)) (fun k hk => hD k (by omega)) (hlf0 j (by omega)) (hLl j hj) (fun k hk => Nat.le_trans (hE1 k (by omega) j hj) (by omega)), by
  rw [← hGt]
  exact tk_ok (X := 0) hs hL hD (hlf0 n (Nat.le_refl _)) (hlf0 n (Nat.le_refl _)) (fun k hk => Nat.le_trans (hF1 k hk) (by omega))⟩
 have hDD : tk (gwD Bm n) (lfL (gwD Bm n) (gwL Bm n) Bm T n) (lfL (gwD Bm n) (gwL Bm n) Bm T n) (dotR T T) n = Dt.bo G n n n := by
  rw [← hGt]
  exact tk_bo hs hL hD (hlf0 n (Nat.le_refl _)) (hlf0 n (Nat.le_refl _)) n (Nat.le_refl _)
 have hch' : ChGives n Kb Bm (TWO (FN n (mmL G n) (stL G n)) (IS (.int .i64 0))) := by
  rw [hG, mmLx n (by omega), stLx n (by omega)]
  exact hch
 refine ⟨x, hx1, hx2, hp, hD1 n (Nat.le_refl _), hxl, Nat.le_trans (hF1 n (Nat.le_refl _)) (by omega), fun w u v h hv => ?_, fun w u v h hv => ?_⟩
 ·have q := co_w w u v n m Kb K Bm ts h hv hm hK lt m lB (hrow 0 hpos) hm12 rfl hok hrow ok (by omega) 4200000 (by omega) (by omega) (by omega) (hTe ▸ fun i z hz => Nat.le_trans (dlT i z hz) (by omega)) (hTe ▸ hlfo) (dt G n) (by rw [hD n (Nat.le_refl _), hdtn]) (ydk hp (Nat.le_refl _)) (hD1 n (Nat.le_refl _)) _ lX dX (fun i hi => by
   rw [← hTe, hD n (Nat.le_refl _), hD (i + 1) (by omega), hlf0 n (Nat.le_refl _) i hi, yfq hi, bhL_sm, ← hback i hi]
   congr 1
   exact Dt.sm_congr (fun t ht => by rw [yfq (by omega), hLl _ (by omega) i (by omega)])) hof
  rw [← hTe] at q
  exact Gives.cast q (by rw [hDD])
 ·exact r5co_w w u v n m Kb K Bm ts h hv hm hK hKb lt m G _ lB hpos h12 (hrow 0 hpos) hm12 rfl hrow ok (by omega) hs hp hB1 hD1 (fun k j hk hj => Nat.le_trans (hE1 k hk j hj) (by omega)) (fun k hk => Nat.le_trans (hF1 k hk) (by omega)) (hTe ▸ hal) (hTe ▸ fun i k hi hk => Nat.le_trans (hala i k hi hk) (by omega)) (hTe ▸ hsq) (hTe ▸ fun k hk => Nat.le_trans (hsqa k hk) (by omega)) lX (fun i hi => by rw [yfq hi]; exact hxl i hi) (fun i hi => by
   unfold cnN
   rw [hdtn, yfh hp (show i + 1 ≤ n by omega), yfq hi, ← hback i hi]
   congr 1
   exact Dt.sm_congr (fun t ht => by
    show ((List.range n).map x).getD (i + 1 + t) 0 * _ = _
    rw [yfq (by omega)])) hch'
theorem co_all (lB : Bm.length = n) (lt : ts.length = m) (hn : n ≤ 1048576) (hm : m ≤ 1048576) (hK : K ≤ 1048576) (hKb : Kb ≤ 1048576) (h196 : 196 ≤ Kb) (hl : Ml Bm 1048576) (hdl : Mdl Bm Kb) (hS : dsum ts m ≤ 1048577) (hT : ∀ k, k < m → (digs (ts.getD k (0, 0)).1.natAbs).length + dsum ts m ≤ 1048577) :
  (∃ e : Int, e ≠ 0 ∧ CoG n m Kb K Bm ts (CoE e) ∧ RcG n m Kb K Bm ts (CoE e)) ∨ (OfOk Bm n ∧ (∀ j, j < n → (Bm.getD j []).length = m) ∧ DenOk ts ∧ ∃ x : Nat → Int, (∀ r, r < n → Dt.sm (fun c => x c * coG Bm ts m r c) n = Dt.det n (coG Bm ts m) * coG Bm ts m r n) ∧ (∀ r, Dt.bo (coG Bm ts m) n r n = Dt.det n (coG Bm ts m) * coG Bm ts m r n - Dt.sm (fun c => x c * coG Bm ts m r c) n) ∧ (∀ k, k ≤ n → 0 < Dt.det k (coG Bm ts m)) ∧ (digs (dt (coG Bm ts m) n)).length ≤ 196 ∧ (∀ i, i < n → (digs (x i).natAbs).length ≤ 2110000) ∧ (digs (Dt.bo (coG Bm ts m) n n n).natAbs).length ≤ 4200000 ∧
   CoG n m Kb K Bm ts (CoP n ((List.range n).map x) (dt (coG Bm ts m) n * cmN ts m) (Dt.bo (coG Bm ts m) n n n) (dt (coG Bm ts m) n * cmN ts m * cmN ts m)) ∧ RcG n m Kb K Bm ts (CoP n ((List.range n).map x) (dt (coG Bm ts m) n * cmN ts m) (Dt.bo (coG Bm ts m) n n n) (dt (coG Bm ts m) n * cmN ts m * cmN ts m))) := by
 rcases ch_all n Kb Bm lB hn hKb h196 hl hdl with ⟨e, he, hof, hch⟩ | ⟨hok, hreg, hof, hch⟩
 ·exact Or.inl ⟨e, he, fun w u v h hv => co_e w u v n m Kb K Bm ts h hv hn hm hK lt e he hof, fun w u v h hv => r5co_e w u v n m Kb K Bm ts h hv hn hm hK hKb lt e he hch⟩
 ·have h12 := hok.top
  have hpos := hok.pos
  have hrow : ∀ j, j < n → (Bm.getD j []).length = wd Bm := fun j hj => by
   rw [List.getD_eq_getElem?_getD, List.getElem?_eq_getElem (show j < Bm.length by omega)]
   exact hreg j _ (List.getElem?_eq_getElem _)
  have hw12 : wd Bm ≤ 12 := by
   have h1 := hrow 0 hpos
   have h2 := yd9 hok.nar 0
   omega
  by_cases hne : m = wd Bm
  ·rcases yd7 (fun k => decide (0 < (ts.getD k (0, 0)).2)) m with hd | ⟨i0, hi0, h1, h2⟩
   ·have ok : DenOk ts := fun k hk => of_decide_eq_true (hd k (by omega))
    have hrow' : ∀ j, j < n → (Bm.getD j []).length = m := fun j hj => by rw [hrow j hj, hne]
    exact Or.inr ⟨hok, hrow', ok, co_fine lt hm hK hKb hdl hok hrow' ok hS hT hof hch⟩
   ·have hz := of_decide_eq_false h1
    exact Or.inl ⟨30, by decide, fun w u v h hv => co_r w u v n m Kb K Bm ts h hv hn hm hK lt (wd Bm) lB hpos (hrow 0 hpos) hw12 hne i0 hi0 (fun i hi => of_decide_eq_true (h2 i hi)) (by omega) hof, fun w u v h hv => r5co_r w u v n m Kb K Bm ts h hv hn hm hK hKb lt (wd Bm) (gr Bm) lB hpos (hrow 0 hpos) hw12 hne i0 hi0 (fun i hi => of_decide_eq_true (h2 i hi)) (by omega) hch⟩
  ·exact Or.inl ⟨8, by decide, fun w u v h hv => co_s w u v n m Kb K Bm ts h hv hn hm hK lt (wd Bm) lB hpos (hrow 0 hpos) hw12 hne hof, fun w u v h hv => r5co_s w u v n m Kb K Bm ts h hv hn hm hK hKb lt (wd Bm) (gr Bm) lB hpos (hrow 0 hpos) hw12 hne hch⟩
end
end Go.Proofs.YtdiagoaakadniaaGreat
