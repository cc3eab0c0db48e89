import Derived.Test.YtdnindaohpdblaaGreatTzG
import Derived.Test.YtdnindaohpdblaaGreatFmC
set_option linter.all false
namespace Go.Proofs.YtdnindaohpdblaaGreat
open Go Go.RowKit Nt
set_option maxRecDepth 20000
set_option maxHeartbeats 16000000
theorem yt3 : ∀ (i : Nat) ψ, ([IS (.int .i64 3), IS (.int .i64 5)] : List (Nat → Pr))[i]? = some ψ → Fresh ψ := fun i ψ h => by
 match i, h with
 | 0, h => simp at h; subst h; exact yah _
 | 1, h => simp at h; subst h; exact yah _
abbrev CL35 : Nat → Pr := LF 1 2 [IS (.int .i64 3), IS (.int .i64 5)]
theorem ypr : Fresh CL35 := yg9 (by decide) yt3
theorem yy9 (w : World) :
  CG 9 #[] w (IS (.bool true)) := by
 refine yap (sl := []) Tryz.func9 rfl Tryz.ntmps9 (by simp) yat ?_
 intro a0 S0
 refine wq [kF] [] [] S0 ?_ ?_
 ·exact jj1 mC
 intro _ a1 _ (S1 : Zt [] [])
 refine wq [V (TnT w.heap.size), Fw (THREE CL35 (IS (.bool true)) (IS (.int .i64 0))) w, Fw (THREE CL35 (IS (.bool true)) (IS (.int .i64 0))) w, V (CL35 w.heap.size), kT, V (iV 0), V (CL35 w.heap.size), kT, V (iV 0)] [] [.inl 6, .inl 7, .inl 8] S1 ?_ ?_
 ·exact ⟨jj8 (yf3 rfl wA rfl  yt5 rfl (fun args w => by go_simp) (fun w => yy4 w)) (ch2 wA ((qO 0 5 rfl).imp zbq) (yac _) (yca ypr (yah _) (yah _)) (fun w u v h1 h2 => by obtain rfl : v = _ := h2.now; exact ynl w u h1)) (mO 1 6) (e30 wA (oO 2 4)) (e31 wA (oO 2 4)) (e32 wA (oO 2 4)) (mO 3 7) (mO 4 8), mO 5 9⟩
 intro _ a2 _ (S2 : Zt [] [_,_,_])
 refine wq [V (iV 0), kT, kT, kT, kT, kT, V (CL35 w.heap.size), V (iV (2 : Nat)), kT, kT, kT, V (CL35 w.heap.size), V (AtE 1 (iV 3)), V (iV 3), kT, kT, kT, V (CL35 w.heap.size), V (AtE 1 (iV 5)), V (iV 5), kT, kT, kT] [] [.inl 22] S2 ?_ ?_
 ·exact ⟨⟨⟨⟨⟨⟨⟨⟨⟨⟨⟨⟨⟨⟨⟨jj8 (mS 2 3) (yee wA (oO 0 10) (yac _) (h := rfl)) (mO 1 11) (mW (wI 2 12) (oS 1 2)) (pT wA (oO 2 12) (oO 3 13)) (mO 4 14) (mW (wI 5 15) (oS 0 1)) (yh4 rfl (wI 5 15) rfl (oO 6 16) ylj Tryz.underlying65 rfl), ybt (wI 5 15) (oO 7 17) (yac _) (h := rfl)⟩, pT wA (oO 5 15) (oO 8 18)⟩, mO 9 19⟩, mW (wI 10 20) (oS 0 1)⟩, axA (wI 10 20) yv1 ((oO 11 21).imp yx0) (yac _) rfl rfl⟩, alA (wI 10 20) yv3 (yk5 rfl) (oO 12 22)⟩, ybt (wI 10 20) (oO 13 23) (yac _) (h := rfl)⟩, pT wA (oO 10 20) (oO 14 24)⟩, mO 15 25⟩, mW (wI 16 26) (oS 0 1)⟩, axA (wI 16 26) yv1 ((oO 17 27).imp yx0) (yac _) rfl rfl⟩, alA (wI 16 26) yv3 (yk5 rfl) (oO 18 28)⟩, ybt (wI 16 26) (oO 19 29) (yac _) (h := rfl)⟩, pT wA (oO 16 26) (oO 20 30)⟩, mO 21 31⟩
 intro _ a3 _ (S3 : Zt [] [_])
 refine wp_ret ?_
 exact ya3 S3 rfl (ya7 S3 0 0 rfl)
theorem yn7 {A N : Int} {D M k1 k2 k3 k4 : Nat} (hD : D ≠ 0) (hM : M ≠ 0) (b1 : k1 ≤ 8388608) (b2 : k2 ≤ 8388608) (b3 : k3 ≤ 8388608) (b4 : k4 ≤ 8388608) : ∀ w u v, Rv A (D : Int) k1 k2 u w → Rv N (M : Int) k3 k4 v w → CG 24 #[u, v] w (IS (.int .i64 (A * (M : Int) - N * (D : Int)).sign)) := by
 rintro w u v ⟨x0, x1, y0, y1, rfl, ⟨s, p, n, c, xs, ea, h, rfl, hn⟩, ⟨t, q, m, d, ys, eb, h', eD, hm⟩⟩ ⟨z0, z1, u0, u1, rfl, ⟨s', p', n', c', xs', ea', h2, rfl, hn'⟩, ⟨t', q', m', d', ys', eb', h2', eM, hm'⟩⟩
 simp at ea eb ea' eb'
 obtain ⟨rfl, rfl⟩ := ea
 obtain ⟨rfl, rfl⟩ := eb
 obtain ⟨rfl, rfl⟩ := ea'
 obtain ⟨rfl, rfl⟩ := eb'
 obtain ⟨rfl, rfl⟩ := yg5 eD hD
 obtain ⟨rfl, rfl⟩ := yg5 eM hM
 refine (yyq w s p n c xs q m d ys s' p' n' c' xs' q' m' d' ys' h h' h2 h2' hD hM (by omega) (by omega) (by omega) (by omega)).mono ?_
 rintro e w' ⟨rfl, hb⟩
 exact ⟨_, rfl, hb, rfl⟩
theorem zdd (w : World) (u : Value) (A N : Int) (D k1 k2 : Nat) (h : Hs w (Rv A (D : Int) k1 k2) u) (hk1 : k1 ≤ 8388608) (hk2 : k2 ≤ 8388608) (hD : D ≠ 0) (eN : nr A (D : Int) = N) (hN : (digs N.natAbs).length ≤ 8388608) (up : Bool) (hu : (up = true ∧ N * (D : Int) ≤ A) ∨ (up = false ∧ A < N * (D : Int))) : CG 27 #[u] w (ZGN (ZN N) (IS (.bool up))) := by
 rcases hu with ⟨rfl, hu⟩ | ⟨rfl, hu⟩
 ·exact zb4 w u A N D k1 k2 h hk1 hk2 hD eN hN hu
 ·exact zdc w u A N D k1 k2 h hk1 hk2 hD eN hN hu
theorem yuj (w : World) (u : Value) (A N : Int) (D K : Nat) (h : Hs w (Rv A (D : Int) K K) u) (hK : K ≤ 1048576) (hD : D ≠ 0) (eN : nr A (D : Int) = N) (hN : (digs N.natAbs).length ≤ 8388608) (k : Nat) (hk : k ≤ 1073741824) (up : Bool) (hu : (up = true ∧ N * (D : Int) ≤ A) ∨ (up = false ∧ A < N * (D : Int))) :
  CG 6 #[u, .int .i64 ((k : Nat) : Int)] w (TWO (ZN (zgN N up k)) (IS (.int .i64 0))) := by
 refine yap (sl := [(0, (PR (Zv A K) (Zv ((D : Int)) K))), (1, (iV ((k : Nat) : Int)))]) Tryz.func6 rfl Tryz.ntmps6 (by simp) (yai rfl (h) (yai rfl (ycw _) yat)) ?_
 intro a0 S0
 refine wq [.new (.box 26 (PR (Zv A K) (Zv ((D : Int)) K))), .new (.box 24 zI), V (iV 0)] [.inl 0, .inl 1] [.inr 1] S0 ?_ ?_
 ·exact jj3 (bxA wA (oS 0 0) (ydg (yay yaj yaj))) (nwA wA yal) mC
 intro _ a1 _ (S1 : Zt [_,_] [_])
 refine wp_seq (wp_block ?_)
 refine wq [V (PR (Zv A K) (Zv ((D : Int)) K)), V (Sng 26 4 (PR (Zv A K) (Zv ((D : Int)) K)) w.heap.size), kT, kF, kF] ur2 [.inl 4, .inr 0] S1 ?_ ?_
 ·exact jj5 (loA 0 wA yas (yay yaj yaj)) (yi4 rfl wA rfl yjr (oO 0 7) (ybf (by decide) (yay yaj yaj)) rfl) (ch1 wA ((qO 1 8 rfl).imp ynn) (yah _) (fun w u h => ylm w u 1 K [(A, (D : Int))] h (by omega) (by omega) rfl (yrp (by omega)))) (yfe wA (oO 2 9)) (mO 3 10)
 intro _ a2 _ (S2 : Zt [_,_] [_,_])
 refine wp_cond_false (S2.bool 0 6 rfl) ?_
 refine wq [V (iV ((k : Nat) : Int)), kF, kF, V (iV ((k : Nat) : Int)), kF, kF, kF] ur2 [.inl 6, .inr 1] S2 ?_ ?_
 ·repeat' refine And.intro ?_ ?_
  ·trivial
  ·exact mS 1 1
  ·exact ya8 wA (oO 0 13) (yac _)
  ·exact mO 1 14
  ·exact mW (wI 2 15) (oS 1 1)
  ·exact ycj (wI 2 15) (oO 3 16) (yac _)
  ·exact pF wA (oO 2 15) (oO 4 17)
  ·exact mO 5 18
 intro _ a3 _ (S3 : Zt [_,_] [_,_])
 refine wp_cond_false (S3.bool 0 12 rfl) (wp_skip (inBlkN (thenN ?_)))
 refine wq [V (PR (Zv A K) (Zv ((D : Int)) K)), V (ZG ((ZN (N)) w.heap.size) (Is (.bool up))), V (iV ((k : Nat) : Int)), Fw (ZN (zgN N up k)) w, .put (.inl 4) (.box 24 ((ZN (zgN N up k)) w.heap.size)), V (iV 0)] [.inr 1] [.inl 5] S3 ?_ ?_
 ·exact jj6 (loA 0 wA yas (yay yaj yaj)) (ch1 wA (qO 0 20 rfl) (yfx (yaf _) (yah _)) (fun w u h1 => zdd w u A N D K K h1 (by omega) (by omega) hD eN hN up hu)) (mS 1 1) (ch2 wA ((qO 1 21 rfl).imp (yww hN)) (qO 2 22 rfl) (yaf _) (fun w u v h1 h2 => zat w u v N 8388608 up k h1 h2 (by omega) hk)) (seA 1 wA (oO 3 23) yab yau yae) mC
 intro _ a4 _ (S4 : Zt [_] [_])
 refine wp_ret ?_
 exact ydo S4 rfl (ya2 S4 0 4 rfl yab yae) (ya7 S4 0 5 rfl)
theorem zau {A : Int} {D K : Nat} (hD : D ≠ 0) (hA : (digs A.natAbs).length ≤ K) (hd : (digs ((D : Int)).natAbs).length ≤ K) : (digs (nr A (D : Int)).natAbs).length ≤ K + 3 := by
 unfold nr
 have h1 : (digs (A + A).natAbs).length ≤ K + 1 := yhq hA hA
 have h2 : (digs ((A + A) + (D : Int)).natAbs).length ≤ K + 2 := yhq h1 (zdf hd (by omega))
 rw [show 2 * A + (D : Int) = (A + A) + (D : Int) by omega]
 exact yht (by omega) h2
theorem yw1 {A : Int} {k : Nat} {u : Value} {w : World} (h : Zv A k u w) : (digs A.natAbs).length ≤ k := by
 obtain ⟨s, p, n, c, xs, rfl, h1, rfl, h2⟩ := h
 exact zdf (ymb h1) h2
theorem yyf {A E : Int} {K : Nat} {s t : Bool} {p q : Option Addr} {n c m d : Nat} {xs ys : List Nat} {w : World} (h : Sl w p n c xs) (g : Sl w q m d ys) (eA : sg s (val xs) = A) (eE : sg t (val ys) = E) (hn : n ≤ K) (hm : m ≤ K) : Hs w (Rv A E K K) (.agg #[.bool s, .slice p n c, .bool t, .slice q m d]) := fun w' e => by
 have h' := yme h (fun _ _ _ _ h => h) e
 have g' := yme g (fun _ _ _ _ h => h) e
 exact ⟨_, _, _, _, rfl, ⟨s, p, n, c, xs, rfl, h', eA, hn⟩, ⟨t, q, m, d, ys, rfl, g', eE, hm⟩⟩
theorem yki (ρ : Operand → Value) (o : Oper) (x : Operand) (w : World) (k : Nat) (hk : k < 256) (h : ρ x = .int .u8 ((k : Nat) : Int)) : (execOp ρ { o with op := .convert 5 3 x }).run Tryz.prog w = .ok (.value (.int .i64 ((k : Nat) : Int))) w := by
 have h5 : IntKind.i64.wrap ((k : Nat) : Int) = ((k : Nat) : Int) := ygh (by omega) (by omega)
 unfold execOp
 go_simp
theorem subT {X A : Int} {D kx k1 k2 : Nat} (hD : D ≠ 0) (bx : kx ≤ 8388608) (b1 : k1 ≤ 8388608) (b2 : k2 ≤ 8388608) : ∀ w u v, Rv X ((1 : Nat) : Int) kx 1 u w → Rv A (D : Int) k1 k2 v w → CG 22 #[u, v] w (RN (nR (X * (D : Int) - A) D) (dR (X * (D : Int) - A) D)) := fun w u v h1 h2 => by
 refine Gives.cast (yxr (by decide) hD bx (by omega) b1 b2 w u v h1 h2) (yx4 ?_ hD ?_)
 ·exact Nat.mul_ne_zero (by decide) (ygm hD)
 ·have e := yiz (-A) D
  rw [zd2]
  generalize nR (-A) D = n at e ⊢
  generalize ((dR (-A) D : Nat) : Int) = d at e ⊢
  have e3 : (X * d + n * ((1 : Nat) : Int)) * (D : Int) = X * (d * (D : Int)) + n * (D : Int) := by
   rw [zfv, ze1, show n * ((1 : Nat) : Int) = n by simp]
  rw [e3, e, show ((1 : Nat) : Int) * d = d by simp, zg2, ze1, zez (D : Int) d, zg7]
  omega
theorem ysk {x y d m : Int} (hd : 0 < d) (hm : 0 < m) (h : x * d = y * m) : x.sign = y.sign := by
 rcases zgd y 0 with hy | hy | hy
 ·have : x * d < 0 := by rw [h]; exact Int.mul_neg_of_neg_of_pos hy hm
  have hx : x < 0 := by
   rcases Int.lt_or_le x 0 with q | q
   ·exact q
   ·have := zf8 q (Int.le_of_lt hd); omega
  rw [zd8 hx, zd8 hy]
 ·subst hy
  rw [Int.zero_mul] at h
  rcases Int.mul_eq_zero.1 h with q | q
  ·rw [q]
  ·omega
 ·have : 0 < x * d := by rw [h]; exact Int.mul_pos hy hm
  have hx : 0 < x := by
   rcases Int.lt_or_le 0 x with q | q
   ·exact q
   ·have := zf8 (show 0 ≤ -x by omega) (Int.le_of_lt hd); rw [zg7] at this; omega
  rw [zd9 hx, zd9 hy]
theorem yqz {P Q n m : Int} {D a b : Nat} (hD : D ≠ 0) (ha : a ≠ 0) (hb : b ≠ 0) (h1 : n * (D : Int) = P * (a : Int)) (h2 : m * (D : Int) = Q * (b : Int)) : (((n.natAbs : Nat) : Int) * (b : Int) - ((m.natAbs : Nat) : Int) * (a : Int)).sign = (((P.natAbs : Nat) : Int) - ((Q.natAbs : Nat) : Int)).sign := by
 have k1 : ((n.natAbs : Nat) : Int) * (D : Int) = ((P.natAbs : Nat) : Int) * (a : Int) := by
  have := congrArg Int.natAbs h1
  rw [zd5, zd5, zd0, zd0] at this
  exact_mod_cast this
 have k2 : ((m.natAbs : Nat) : Int) * (D : Int) = ((Q.natAbs : Nat) : Int) * (b : Int) := by
  have := congrArg Int.natAbs h2
  rw [zd5, zd5, zd0, zd0] at this
  exact_mod_cast this
 refine ysk (d := (D : Int)) (m := (a : Int) * (b : Int)) (by omega) (Int.mul_pos (by omega) (by omega)) ?_
 generalize ((n.natAbs : Nat) : Int) = x at k1 ⊢
 generalize ((m.natAbs : Nat) : Int) = y at k2 ⊢
 generalize ((P.natAbs : Nat) : Int) = p at k1 ⊢
 generalize ((Q.natAbs : Nat) : Int) = q at k2 ⊢
 rw [zg2, zg2, ze1, zez (b : Int), ← ze1, k1, ze1 y, zez (a : Int) (D : Int), ← ze1, k2, ze1, ze1 q, zez (b : Int) (a : Int)]
theorem yvg {A N : Int} {D : Nat} {up : Bool} (hD : D ≠ 0) (eN : nr A (D : Int) = N) (hu : (up = true ∧ N * (D : Int) ≤ A) ∨ (up = false ∧ A < N * (D : Int))) (k : Nat) :
  ((((zgN N up k * (D : Int) - A).natAbs : Nat) : Int) < (((zgN N up (k + 1) * (D : Int) - A).natAbs : Nat) : Int)) ∨ ((((zgN N up k * (D : Int) - A).natAbs : Nat) : Int) = (((zgN N up (k + 1) * (D : Int) - A).natAbs : Nat) : Int) ∧ zgN N up (k + 1) < zgN N up k) := by
 have hb : N * (2 * (D : Int)) ≤ 2 * A + (D : Int) ∧ 2 * A + (D : Int) < N * (2 * (D : Int)) + 2 * (D : Int) := by
  have hp : (0 : Int) < 2 * (D : Int) := by omega
  rw [← eN]
  unfold nr fl
  rw [if_pos hp]
  have q1 := zf4 (2 * A + (D : Int)) (2 * (D : Int))
  have q2 := zgr (2 * A + (D : Int)) (show (2 * (D : Int)) ≠ 0 by omega)
  have q3 := zf3 (2 * A + (D : Int)) hp
  rw [zez] at q1
  omega
 rw [show N * (2 * (D : Int)) = 2 * (N * (D : Int)) by rw [Int.mul_left_comm]] at hb
 obtain ⟨i, rfl | rfl⟩ : ∃ i, k = 2 * i ∨ k = 2 * i + 1 := ⟨k / 2, by omega⟩
 ·have m0 : (0 : Int) ≤ (i : Int) * (D : Int) := zf8 (by omega) (by omega)
  rcases hu with ⟨rfl, hu⟩ | ⟨rfl, hu⟩
  ·rw [show zgN N true (2 * i) = N - (i : Int) by unfold zgN; rw [show (2 * i) % 2 = 0 by omega, show 2 * i / 2 + 0 = i by omega]; rfl, show zgN N true (2 * i + 1) = N + ((i : Int) + 1) by unfold zgN; rw [show (2 * i + 1) % 2 = 1 by omega, show (2 * i + 1) / 2 + 1 = i + 1 by omega]; rfl, zg2, zfv, zfv]
   omega
  ·rw [show zgN N false (2 * i) = N + (i : Int) by unfold zgN; rw [show (2 * i) % 2 = 0 by omega, show 2 * i / 2 + 0 = i by omega]; rfl, show zgN N false (2 * i + 1) = N - ((i : Int) + 1) by unfold zgN; rw [show (2 * i + 1) % 2 = 1 by omega, show (2 * i + 1) / 2 + 1 = i + 1 by omega]; rfl, zg2, zfv, zfv]
   omega
 ·have m0 : (0 : Int) ≤ (i : Int) * (D : Int) := zf8 (by omega) (by omega)
  rcases hu with ⟨rfl, hu⟩ | ⟨rfl, hu⟩
  ·rw [show zgN N true (2 * i + 1) = N + ((i : Int) + 1) by unfold zgN; rw [show (2 * i + 1) % 2 = 1 by omega, show (2 * i + 1) / 2 + 1 = i + 1 by omega]; rfl, show zgN N true (2 * i + 1 + 1) = N - ((i : Int) + 1) by unfold zgN; rw [show (2 * i + 1 + 1) % 2 = 0 by omega, show (2 * i + 1 + 1) / 2 + 0 = i + 1 by omega]; rfl, zg2, zfv, zfv]
   omega
  ·rw [show zgN N false (2 * i + 1) = N - ((i : Int) + 1) by unfold zgN; rw [show (2 * i + 1) % 2 = 1 by omega, show (2 * i + 1) / 2 + 1 = i + 1 by omega]; rfl, show zgN N false (2 * i + 1 + 1) = N + ((i : Int) + 1) by unfold zgN; rw [show (2 * i + 1 + 1) % 2 = 0 by omega, show (2 * i + 1 + 1) / 2 + 0 = i + 1 by omega]; rfl, zg2, zfv, zfv, zfv]
   omega
theorem to_b (w : World) (u : Value) (A D0 : Int) (K : Nat) (h : Hs w (Rv A D0 K K) u) (hK : K ≤ 1048576) (hv : decide (0 < D0.sign) = false) (k : Nat) :
  CG 5 #[u, .int .u8 ((k : Nat) : Int)] w (IS (.bool true)) := by
 refine yap (sl := [(0, (PR (Zv A K) (Zv D0 K))), (1, (Is (.int .u8 ((k : Nat) : Int))))]) Tryz.func5 rfl Tryz.ntmps5 (by simp) (yai rfl (h) (yai rfl (ycw _) yat)) ?_
 intro a0 S0
 refine wq [.new (.box 26 (PR (Zv A K) (Zv D0 K))), kF] [.inl 0] [.inr 1] S0 ?_ ?_
 ·exact jj2 (bxA wA (oS 0 0) (ydg (yay yaj yaj))) mC
 intro _ a1 _ (S1 : Zt [_] [_])
 refine wp_seq ?_
 refine wq [kT, kF] [.inr 0] [.inl 1, .inr 0] S1 ?_ ?_
 ·exact jj2 (yf3 rfl wA rfl  (yah _) rfl (fun args w => by go_simp) (fun w => yy9 w)) (yfe wA (oO 0 12))
 intro _ a2 _ (S2 : Zt [_] [_,_])
 refine wp_cond_false (S2.bool 0 13 rfl) (wp_skip (thenN (wp_seq ?_)))
 refine wq [V (PR (Zv A K) (Zv D0 K)), kF, kT] [.inr 0] [.inl 2, .inr 1] S2 ?_ ?_
 ·exact jj3 (loA 0 wA yas (yay yaj yaj)) (cc1 wA (qO 0 14 rfl) (yah _) (fun w u h1 => Gives.cast (ψ := IS (.bool false)) (yj0 (by omega) (by omega) w u h1) (by rw [hv]))) (yfe wA (oO 1 15))
 intro _ a3 _ (S3 : Zt [_] [_,_])
 refine wp_cond_true (S3.bool 0 16 rfl) ?_
 refine wq [kT] [] [.inl 0] S3 ?_ ?_
 ·exact jj1 mC
 intro _ a4 _ (S4 : Zt [] [_])
 refine wp_ret (thenR ?_)
 exact ya3 S4 rfl (ya7 S4 0 4 rfl)
theorem yxo {A B : Int} {ka kb : Nat} (hk : ka ≤ 35184372088831) (hk' : kb ≤ 35184372088831) : ∀ w u v, Zv A ka u w → Zv B kb v w → CG 25 #[u, v] w (IS (.int .i64 (A - B).sign)) := by
 rintro w u v ⟨s, p, n, c, xs, rfl, h, rfl, hn⟩ ⟨t, q, m, d, ys, rfl, h', rfl, hm⟩
 exact (yzh w s t p q n c m d xs ys h h' (by omega) (by omega)).mono fun e w' ⟨he, hb⟩ => ⟨_, he, hb, rfl⟩
theorem to_l (w : World) (u : Value) (A N : Int) (D K : Nat) (h : Hs w (Rv A (D : Int) K K) u) (hK : K ≤ 1048576) (hD : D ≠ 0) (eN : nr A (D : Int) = N) (hN : (digs N.natAbs).length ≤ 1048579) (k : Nat) (hk : k < 256) (up : Bool) (hu : (up = true ∧ N * (D : Int) ≤ A) ∨ (up = false ∧ A < N * (D : Int))) (hv : decide (0 < ((D : Nat) : Int).sign) = true) (X Y : Int) (eX : zgN N up k = X) (eY : zgN N up (k + 1) = Y) (bX : (digs X.natAbs).length ≤ 1048580) (bY : (digs Y.natAbs).length ≤ 1048580) (an bn : Int) (ad bd : Nat) (ea1 : nR (X * (D : Int) - A) D = an) (ea2 : dR (X * (D : Int) - A) D = ad) (eb1 : nR (Y * (D : Int) - A) D = bn) (eb2 : dR (Y * (D : Int) - A) D = bd) (ba : (digs an.natAbs).length ≤ 8388608) (ba2 : (digs ad).length ≤ 8388608) (bb : (digs bn.natAbs).length ≤ 8388608) (bb2 : (digs bd).length ≤ 8388608) (ha : ad ≠ 0) (hb : bd ≠ 0) (hc : (((an.natAbs : Nat) : Int) * (bd : Int) - ((bn.natAbs : Nat) : Int) * (ad : Int)).sign < 0) :
  CG 5 #[u, .int .u8 ((k : Nat) : Int)] w (IS (.bool true)) := by
 refine yap (sl := [(0, (PR (Zv A K) (Zv ((D : Int)) K))), (1, (Is (.int .u8 ((k : Nat) : Int))))]) Tryz.func5 rfl Tryz.ntmps5 (by simp) (yai rfl (h) (yai rfl (ycw _) yat)) ?_
 intro a0 S0
 refine wq [.new (.box 26 (PR (Zv A K) (Zv ((D : Int)) K))), kF] [.inl 0] [.inr 1] S0 ?_ ?_
 ·exact jj2 (bxA wA (oS 0 0) (ydg (yay yaj yaj))) mC
 intro _ a1 _ (S1 : Zt [_] [_])
 refine wp_seq ?_
 refine wq [kT, kF] [.inr 0] [.inl 1, .inr 0] S1 ?_ ?_
 ·exact jj2 (yf3 rfl wA rfl  (yah _) rfl (fun args w => by go_simp) (fun w => yy9 w)) (yfe wA (oO 0 12))
 intro _ a2 _ (S2 : Zt [_] [_,_])
 refine wp_cond_false (S2.bool 0 13 rfl) (wp_skip (thenN (wp_seq ?_)))
 refine wq [V (PR (Zv A K) (Zv ((D : Int)) K)), kT, kF] [.inr 0] [.inl 2, .inr 1] S2 ?_ ?_
 ·exact jj3 (loA 0 wA yas (yay yaj yaj)) (cc1 wA (qO 0 14 rfl) (yah _) (fun w u h1 => Gives.cast (ψ := IS (.bool true)) (yj0 (by omega) (by omega) w u h1) (by rw [hv]))) (yfe wA (oO 1 15))
 intro _ a3 _ (S3 : Zt [_] [_,_])
 refine wp_cond_false (S3.bool 0 16 rfl) (wp_skip (thenN ?_))
 refine wq [V (PR (Zv A K) (Zv ((D : Int)) K)), V (Is (.int .u8 ((k : Nat) : Int))), V (iV ((k : Nat) : Int)), Fw (TWO (ZN (X)) (IS (.int .i64 0))) w, Fw (TWO (ZN (X)) (IS (.int .i64 0))) w, Fw (ZN (X)) w, V (iV 0), .new (.box 24 zI), .put (.inr 7) (.box 24 ((ZN (X)) w.heap.size)), V (iV 0)] [.inr 0, .inl 7] [.inl 9, .inr 1] S3 ?_ ?_
 ·exact ⟨⟨jj8 (loA 0 wA yas (yay yaj yaj)) (mS 1 1) (ylt (x := .tmp 19) rfl wA rfl (oO 1 19) rfl (fun ρ w h1 => yki ρ _ _ w k hk h1)) (ch2 wA (qO 0 18 rfl) (qO 2 20 rfl) (ybj (yaf _) (yah _)) (fun w u v h1 h2 => by obtain rfl : v = _ := h2.now; have q := yuj w u A N D K h1 hK hD eN (by omega) k (by omega) up hu; rw [eX] at q; exact q)) (mO 3 21) (e20 wA (oO 4 17)) (e21 wA (oO 4 17)) (nwA wA yal), puA 7 wA (oO 5 22) yab yau yae⟩, mO 6 23⟩
 intro _ a4 _ (S4 : Zt [_,_] [_,_])
 refine wq [V (PR (Zv A K) (Zv ((D : Int)) K)), V (Is (.int .u8 ((k : Nat) : Int))), V (iV ((k : Nat) : Int)), V (iV ((k + 1 : Nat) : Int)), Fw (TWO (ZN (Y)) (IS (.int .i64 0))) w, Fw (TWO (ZN (Y)) (IS (.int .i64 0))) w, Fw (ZN (Y)) w, V (iV 0), .new (.box 24 zI), .put (.inr 8) (.box 24 ((ZN (Y)) w.heap.size)), V (iV 0)] [.inr 0, .inr 1, .inl 8] [.inl 10, .inr 0] S4 ?_ ?_
 ·exact ⟨⟨⟨jj8 (loA 0 wA yas (yay yaj yaj)) (mS 1 1) (ylt (x := .tmp 26) rfl wA rfl (oO 1 26) rfl (fun ρ w h1 => yki ρ _ _ w k hk h1)) (ybc wA (oO 2 27) (yac _)) (ch2 wA (qO 0 25 rfl) (qO 3 28 rfl) (ybj (yaf _) (yah _)) (fun w u v h1 h2 => by obtain rfl : v = _ := h2.now; have q := yuj w u A N D K h1 hK hD eN (by omega) (k + 1) (by omega) up hu; rw [eY] at q; exact q)) (mO 4 29) (e20 wA (oO 5 24)) (e21 wA (oO 5 24)), nwA wA yal⟩, puA 8 wA (oO 6 30) yab yau yae⟩, mO 7 31⟩
 intro _ a5 _ (S5 : Zt [_,_,_] [_,_])
 refine wp_seq ?_
 refine wq [V (iV 0), kF, kF, V (iV 0), kF, kF] ur3 [.inl 5] S5 ?_ ?_
 ·exact jj6 (mS 1 6) (ybo wA (oO 0 32) (yac _) (h := rfl)) (mO 1 33) (mW (wI 2 34) (oS 0 8)) (ybo (wI 2 34) (oO 3 35) (yac _) (h := rfl)) (pF wA (oO 2 34) (oO 4 36))
 intro _ a6 _ (S6 : Zt [_,_,_] [_])
 refine wp_cond_false (S6.bool 0 37 rfl) (wp_skip (thenN ?_))
 refine wq [Fw (ZN (X)) w, Fw (RN X 1) w, V (PR (Zv A K) (Zv ((D : Int)) K)), Fw (RN an ad) w, Fw (RN (((an.natAbs : Nat) : Int)) ad) w, .new (.box 26 zR), .put (.inr 5) (.box 26 ((RN (((an.natAbs : Nat) : Int)) ad) w.heap.size))] [.inr 0, .inr 1, .inr 2, .inl 5] [] S6 ?_ ?_
 ·repeat' refine And.intro ?_ ?_
  ·trivial
  ·exact loA 1 wA yab yae
  ·exact cc1 wA (qO 0 38 rfl) (ybx _ _) (fun w u h1 => yn6 (k := 8388608) (by omega) w u (ya0 (zdf bX (by omega)) _ _ h1))
  ·exact loA 0 wA yas (yay yaj yaj)
  ·exact cc2 wA (qO 1 39 rfl) (qO 2 40 rfl) (ybx _ _) (fun w u v h1 h2 => Gives.cast (ψ := (RN an ad)) (subT (kx := 8388608) hD (by omega) (by omega) (by omega) w u v (yga (zdf bX (by omega)) yfj _ _ h1) h2) (by rw [ea1, ea2]))
  ·exact cc1 wA (qO 3 41 rfl) (ybx _ _) (fun w u h1 => yjz (k1 := 8388608) (k2 := 8388608) hD ea1 ea2 (by omega) (by omega) w u (yga ba ba2 _ _ h1))
  ·exact nwA wA yb4
  ·exact puA 5 wA (oO 4 42) yas yd7 (yay yae yae)
 intro _ a7 _ (S7 : Zt [_,_,_,_] [])
 refine wq [Fw (ZN (Y)) w, Fw (RN Y 1) w, V (PR (Zv A K) (Zv ((D : Int)) K)), Fw (RN bn bd) w, Fw (RN (((bn.natAbs : Nat) : Int)) bd) w, .new (.box 26 zR), .put (.inr 5) (.box 26 ((RN (((bn.natAbs : Nat) : Int)) bd) w.heap.size))] [.inr 1, .inr 2, .inr 3, .inl 5] [] S7 ?_ ?_
 ·repeat' refine And.intro ?_ ?_
  ·trivial
  ·exact loA 2 wA yab yae
  ·exact cc1 wA (qO 0 43 rfl) (ybx _ _) (fun w u h1 => yn6 (k := 8388608) (by omega) w u (ya0 (zdf bY (by omega)) _ _ h1))
  ·exact loA 0 wA yas (yay yaj yaj)
  ·exact cc2 wA (qO 1 44 rfl) (qO 2 45 rfl) (ybx _ _) (fun w u v h1 h2 => Gives.cast (ψ := (RN bn bd)) (subT (kx := 8388608) hD (by omega) (by omega) (by omega) w u v (yga (zdf bY (by omega)) yfj _ _ h1) h2) (by rw [eb1, eb2]))
  ·exact cc1 wA (qO 3 46 rfl) (ybx _ _) (fun w u h1 => yjz (k1 := 8388608) (k2 := 8388608) hD eb1 eb2 (by omega) (by omega) w u (yga bb bb2 _ _ h1))
  ·exact nwA wA yb4
  ·exact puA 5 wA (oO 4 47) yas yd7 (yay yae yae)
 intro _ a8 _ (S8 : Zt [_,_,_,_] [])
 refine wq [Fw (RN (((an.natAbs : Nat) : Int)) ad) w, Fw (RN (((bn.natAbs : Nat) : Int)) bd) w, V (Is (.int .i64 (((an.natAbs : Nat) : Int) * (bd : Int) - ((bn.natAbs : Nat) : Int) * (ad : Int)).sign)), V (Is (.int .i64 (((an.natAbs : Nat) : Int) * (bd : Int) - ((bn.natAbs : Nat) : Int) * (ad : Int)).sign))] ur2 [.inl 3] S8 ?_ ?_
 ·exact jj4 (loA 2 wA yas (yay yae yae)) (loA 3 wA yas (yay yae yae)) (cc2 wA (qO 0 48 rfl) (qO 1 49 rfl) (yah _) (fun w u v h1 h2 => yn7 (k1 := 8388608) (k2 := 8388608) (k3 := 8388608) (k4 := 8388608) ha hb (by omega) (by omega) (by omega) (by omega) w u v (yga (by rw [zd0]; exact ba) ba2 _ _ h1) (yga (by rw [zd0]; exact bb) bb2 _ _ h2))) (mO 2 50)
 intro _ a9 _ (S9 : Zt [_,_] [_])
 refine wq [V (Is (.int .i64 (((an.natAbs : Nat) : Int) * (bd : Int) - ((bn.natAbs : Nat) : Int) * (ad : Int)).sign)), kT, kT, .off, .off, V (Is (undef)), .off, .off, .off, .off, .off, kT, kT] [] [.inl 12] S9 ?_ ?_
 ·exact ⟨⟨⟨⟨⟨jj8 (mS 0 11) (ybu wA (oO 0 51) (yac _) (h := hc)) (mO 1 52) (oF 2 53) (oF 2 53) (yuq 2 53 rfl rfl rfl (by kernel_rfl) rfl (by decide)) (yhc 5 56 rfl rfl rfl (by kernel_rfl) rfl) (yhc 5 56 rfl rfl rfl (by kernel_rfl) rfl), yhc 5 56 rfl rfl rfl (by kernel_rfl) rfl⟩, yhc 5 56 rfl rfl rfl (by kernel_rfl) rfl⟩, oF 2 53⟩, pT wA (oO 2 53) (yac _)⟩, mO 11 62⟩
 intro _ a10 _ (S10 : Zt [] [_])
 refine wp_ret ?_
 exact ya3 S10 rfl (ya7 S10 0 4 rfl)
theorem to_e (w : World) (u : Value) (A N : Int) (D K : Nat) (h : Hs w (Rv A (D : Int) K K) u) (hK : K ≤ 1048576) (hD : D ≠ 0) (eN : nr A (D : Int) = N) (hN : (digs N.natAbs).length ≤ 1048579) (k : Nat) (hk : k < 256) (up : Bool) (hu : (up = true ∧ N * (D : Int) ≤ A) ∨ (up = false ∧ A < N * (D : Int))) (hv : decide (0 < ((D : Nat) : Int).sign) = true) (X Y : Int) (eX : zgN N up k = X) (eY : zgN N up (k + 1) = Y) (bX : (digs X.natAbs).length ≤ 1048580) (bY : (digs Y.natAbs).length ≤ 1048580) (an bn : Int) (ad bd : Nat) (ea1 : nR (X * (D : Int) - A) D = an) (ea2 : dR (X * (D : Int) - A) D = ad) (eb1 : nR (Y * (D : Int) - A) D = bn) (eb2 : dR (Y * (D : Int) - A) D = bd) (ba : (digs an.natAbs).length ≤ 8388608) (ba2 : (digs ad).length ≤ 8388608) (bb : (digs bn.natAbs).length ≤ 8388608) (bb2 : (digs bd).length ≤ 8388608) (ha : ad ≠ 0) (hb : bd ≠ 0) (hc : (((an.natAbs : Nat) : Int) * (bd : Int) - ((bn.natAbs : Nat) : Int) * (ad : Int)).sign = 0) (hxy : 0 < (X - Y).sign) :
  CG 5 #[u, .int .u8 ((k : Nat) : Int)] w (IS (.bool true)) := by
 refine yap (sl := [(0, (PR (Zv A K) (Zv ((D : Int)) K))), (1, (Is (.int .u8 ((k : Nat) : Int))))]) Tryz.func5 rfl Tryz.ntmps5 (by simp) (yai rfl (h) (yai rfl (ycw _) yat)) ?_
 intro a0 S0
 refine wq [.new (.box 26 (PR (Zv A K) (Zv ((D : Int)) K))), kF] [.inl 0] [.inr 1] S0 ?_ ?_
 ·exact jj2 (bxA wA (oS 0 0) (ydg (yay yaj yaj))) mC
 intro _ a1 _ (S1 : Zt [_] [_])
 refine wp_seq ?_
 refine wq [kT, kF] [.inr 0] [.inl 1, .inr 0] S1 ?_ ?_
 ·exact jj2 (yf3 rfl wA rfl  (yah _) rfl (fun args w => by go_simp) (fun w => yy9 w)) (yfe wA (oO 0 12))
 intro _ a2 _ (S2 : Zt [_] [_,_])
 refine wp_cond_false (S2.bool 0 13 rfl) (wp_skip (thenN (wp_seq ?_)))
 refine wq [V (PR (Zv A K) (Zv ((D : Int)) K)), kT, kF] [.inr 0] [.inl 2, .inr 1] S2 ?_ ?_
 ·exact jj3 (loA 0 wA yas (yay yaj yaj)) (cc1 wA (qO 0 14 rfl) (yah _) (fun w u h1 => Gives.cast (ψ := IS (.bool true)) (yj0 (by omega) (by omega) w u h1) (by rw [hv]))) (yfe wA (oO 1 15))
 intro _ a3 _ (S3 : Zt [_] [_,_])
 refine wp_cond_false (S3.bool 0 16 rfl) (wp_skip (thenN ?_))
 refine wq [V (PR (Zv A K) (Zv ((D : Int)) K)), V (Is (.int .u8 ((k : Nat) : Int))), V (iV ((k : Nat) : Int)), Fw (TWO (ZN (X)) (IS (.int .i64 0))) w, Fw (TWO (ZN (X)) (IS (.int .i64 0))) w, Fw (ZN (X)) w, V (iV 0), .new (.box 24 zI), .put (.inr 7) (.box 24 ((ZN (X)) w.heap.size)), V (iV 0)] [.inr 0, .inl 7] [.inl 9, .inr 1] S3 ?_ ?_
 ·exact ⟨⟨jj8 (loA 0 wA yas (yay yaj yaj)) (mS 1 1) (ylt (x := .tmp 19) rfl wA rfl (oO 1 19) rfl (fun ρ w h1 => yki ρ _ _ w k hk h1)) (ch2 wA (qO 0 18 rfl) (qO 2 20 rfl) (ybj (yaf _) (yah _)) (fun w u v h1 h2 => by obtain rfl : v = _ := h2.now; have q := yuj w u A N D K h1 hK hD eN (by omega) k (by omega) up hu; rw [eX] at q; exact q)) (mO 3 21) (e20 wA (oO 4 17)) (e21 wA (oO 4 17)) (nwA wA yal), puA 7 wA (oO 5 22) yab yau yae⟩, mO 6 23⟩
 intro _ a4 _ (S4 : Zt [_,_] [_,_])
 refine wq [V (PR (Zv A K) (Zv ((D : Int)) K)), V (Is (.int .u8 ((k : Nat) : Int))), V (iV ((k : Nat) : Int)), V (iV ((k + 1 : Nat) : Int)), Fw (TWO (ZN (Y)) (IS (.int .i64 0))) w, Fw (TWO (ZN (Y)) (IS (.int .i64 0))) w, Fw (ZN (Y)) w, V (iV 0), .new (.box 24 zI), .put (.inr 8) (.box 24 ((ZN (Y)) w.heap.size)), V (iV 0)] [.inr 0, .inr 1, .inl 8] [.inl 10, .inr 0] S4 ?_ ?_
 ·exact ⟨⟨⟨jj8 (loA 0 wA yas (yay yaj yaj)) (mS 1 1) (ylt (x := .tmp 26) rfl wA rfl (oO 1 26) rfl (fun ρ w h1 => yki ρ _ _ w k hk h1)) (ybc wA (oO 2 27) (yac _)) (ch2 wA (qO 0 25 rfl) (qO 3 28 rfl) (ybj (yaf _) (yah _)) (fun w u v h1 h2 => by obtain rfl : v = _ := h2.now; have q := yuj w u A N D K h1 hK hD eN (by omega) (k + 1) (by omega) up hu; rw [eY] at q; exact q)) (mO 4 29) (e20 wA (oO 5 24)) (e21 wA (oO 5 24)), nwA wA yal⟩, puA 8 wA (oO 6 30) yab yau yae⟩, mO 7 31⟩
 intro _ a5 _ (S5 : Zt [_,_,_] [_,_])
 refine wp_seq ?_
 refine wq [V (iV 0), kF, kF, V (iV 0), kF, kF] ur3 [.inl 5] S5 ?_ ?_
 ·exact jj6 (mS 1 6) (ybo wA (oO 0 32) (yac _) (h := rfl)) (mO 1 33) (mW (wI 2 34) (oS 0 8)) (ybo (wI 2 34) (oO 3 35) (yac _) (h := rfl)) (pF wA (oO 2 34) (oO 4 36))
 intro _ a6 _ (S6 : Zt [_,_,_] [_])
 refine wp_cond_false (S6.bool 0 37 rfl) (wp_skip (thenN ?_))
 refine wq [Fw (ZN (X)) w, Fw (RN X 1) w, V (PR (Zv A K) (Zv ((D : Int)) K)), Fw (RN an ad) w, Fw (RN (((an.natAbs : Nat) : Int)) ad) w, .new (.box 26 zR), .put (.inr 5) (.box 26 ((RN (((an.natAbs : Nat) : Int)) ad) w.heap.size))] [.inr 0, .inr 1, .inr 2, .inl 5] [] S6 ?_ ?_
 ·repeat' refine And.intro ?_ ?_
  ·trivial
  ·exact loA 1 wA yab yae
  ·exact cc1 wA (qO 0 38 rfl) (ybx _ _) (fun w u h1 => yn6 (k := 8388608) (by omega) w u (ya0 (zdf bX (by omega)) _ _ h1))
  ·exact loA 0 wA yas (yay yaj yaj)
  ·exact cc2 wA (qO 1 39 rfl) (qO 2 40 rfl) (ybx _ _) (fun w u v h1 h2 => Gives.cast (ψ := (RN an ad)) (subT (kx := 8388608) hD (by omega) (by omega) (by omega) w u v (yga (zdf bX (by omega)) yfj _ _ h1) h2) (by rw [ea1, ea2]))
  ·exact cc1 wA (qO 3 41 rfl) (ybx _ _) (fun w u h1 => yjz (k1 := 8388608) (k2 := 8388608) hD ea1 ea2 (by omega) (by omega) w u (yga ba ba2 _ _ h1))
  ·exact nwA wA yb4
  ·exact puA 5 wA (oO 4 42) yas yd7 (yay yae yae)
 intro _ a7 _ (S7 : Zt [_,_,_,_] [])
 refine wq [Fw (ZN (Y)) w, Fw (RN Y 1) w, V (PR (Zv A K) (Zv ((D : Int)) K)), Fw (RN bn bd) w, Fw (RN (((bn.natAbs : Nat) : Int)) bd) w, .new (.box 26 zR), .put (.inr 5) (.box 26 ((RN (((bn.natAbs : Nat) : Int)) bd) w.heap.size))] [.inr 1, .inr 2, .inr 3, .inl 5] [] S7 ?_ ?_
 ·repeat' refine And.intro ?_ ?_
  ·trivial
  ·exact loA 2 wA yab yae
  ·exact cc1 wA (qO 0 43 rfl) (ybx _ _) (fun w u h1 => yn6 (k := 8388608) (by omega) w u (ya0 (zdf bY (by omega)) _ _ h1))
  ·exact loA 0 wA yas (yay yaj yaj)
  ·exact cc2 wA (qO 1 44 rfl) (qO 2 45 rfl) (ybx _ _) (fun w u v h1 h2 => Gives.cast (ψ := (RN bn bd)) (subT (kx := 8388608) hD (by omega) (by omega) (by omega) w u v (yga (zdf bY (by omega)) yfj _ _ h1) h2) (by rw [eb1, eb2]))
  ·exact cc1 wA (qO 3 46 rfl) (ybx _ _) (fun w u h1 => yjz (k1 := 8388608) (k2 := 8388608) hD eb1 eb2 (by omega) (by omega) w u (yga bb bb2 _ _ h1))
  ·exact nwA wA yb4
  ·exact puA 5 wA (oO 4 47) yas yd7 (yay yae yae)
 intro _ a8 _ (S8 : Zt [_,_,_,_] [])
 refine wq [Fw (RN (((an.natAbs : Nat) : Int)) ad) w, Fw (RN (((bn.natAbs : Nat) : Int)) bd) w, V (Is (.int .i64 (((an.natAbs : Nat) : Int) * (bd : Int) - ((bn.natAbs : Nat) : Int) * (ad : Int)).sign)), V (Is (.int .i64 (((an.natAbs : Nat) : Int) * (bd : Int) - ((bn.natAbs : Nat) : Int) * (ad : Int)).sign))] ur2 [.inl 3] S8 ?_ ?_
 ·exact jj4 (loA 2 wA yas (yay yae yae)) (loA 3 wA yas (yay yae yae)) (cc2 wA (qO 0 48 rfl) (qO 1 49 rfl) (yah _) (fun w u v h1 h2 => yn7 (k1 := 8388608) (k2 := 8388608) (k3 := 8388608) (k4 := 8388608) ha hb (by omega) (by omega) (by omega) (by omega) w u v (yga (by rw [zd0]; exact ba) ba2 _ _ h1) (yga (by rw [zd0]; exact bb) bb2 _ _ h2))) (mO 2 50)
 intro _ a9 _ (S9 : Zt [_,_] [_])
 refine wq [V (Is (.int .i64 (((an.natAbs : Nat) : Int) * (bd : Int) - ((bn.natAbs : Nat) : Int) * (ad : Int)).sign)), kF, kF, V (Is (.int .i64 (((an.natAbs : Nat) : Int) * (bd : Int) - ((bn.natAbs : Nat) : Int) * (ad : Int)).sign)), kT, kT, Fw (ZN (X)) w, Fw (ZN (Y)) w, V (iV ((X - Y).sign)), kT, kT, kT, kT] [] [.inl 12] S9 ?_ ?_
 ·exact ⟨⟨⟨⟨⟨jj8 (mS 0 11) (ya8 wA (oO 0 51) (yac _)) (mO 1 52) (mW (wI 2 53) (oS 0 11)) (ybt (wI 2 53) (oO 3 54) (yac _) (h := hc)) (mW (wI 2 53) (oO 4 55)) (loA 0 (wI 5 56) yab yae) (loA 1 (wI 5 56) yab yae), cc2 (wI 5 56) (qO 6 57 rfl) (qO 7 58 rfl) (yah _) (fun w u v h1 h2 => yxo (by omega) (by omega) w u v (ya0 bX _ _ h1) (ya0 bY _ _ h2))⟩, yef (wI 5 56) (oO 8 59) (yac _) (h := hxy)⟩, pT (wI 2 53) (oO 5 56) (oO 9 60)⟩, pF wA (oO 2 53) (oO 10 61)⟩, mO 11 62⟩
 intro _ a10 _ (S10 : Zt [] [_])
 refine wp_ret ?_
 exact ya3 S10 rfl (ya7 S10 0 4 rfl)
theorem ywv {N : Int} {up : Bool} {k K : Nat} (hk : k ≤ 1000) (hK : 1 ≤ K) (h : (digs N.natAbs).length ≤ K) : (digs (zgN N up k).natAbs).length ≤ K + 1 := by
 have d1 : (digs (((k / 2 + k % 2 : Nat) : Int)).natAbs).length ≤ K := zdf (yan (k := 1) (by rw [zg8]; omega)) hK
 unfold zgN
 split
 ·exact yhq h d1
 ·exact yb8 h d1
theorem yil (w : World) (s1 : Bool) (p1 : Option Addr) (n1 c1 : Nat) (xs1 : List Nat) (t1 : Bool) (q1 : Option Addr) (m1 d1 : Nat) (ys1 : List Nat) (x : Int)
  (h1 : Sl w p1 n1 c1 xs1) (g1 : Sl w q1 m1 d1 ys1) (b1 : c1 ≤ 1048576) (b2 : d1 ≤ 1048576) (hx : 0 ≤ x ∧ x ≤ 255) :
  Calls Tryz.prog 5 #[.agg #[.bool s1, .slice p1 n1 c1, .bool t1, .slice q1 m1 d1], .int .u8 x] w fun e w' => e = .returned (.bool true) ∧ Below w.heap.size w w' := by
 obtain ⟨k, rfl⟩ : ∃ k : Nat, x = (k : Int) := ⟨x.toNat, by omega⟩
 have hk : k < 256 := by omega
 have e1 := h1.cap; have e2 := g1.cap
 have key : Calls Tryz.prog 5 #[.agg #[.bool s1, .slice p1 n1 c1, .bool t1, .slice q1 m1 d1], .int .u8 ((k : Nat) : Int)] w (Gives (IS (.bool true)) w) := by
  obtain ⟨A, eA⟩ : ∃ A, sg s1 (val xs1) = A := ⟨_, rfl⟩
  obtain ⟨E, eE⟩ : ∃ E, sg t1 (val ys1) = E := ⟨_, rfl⟩
  have h := yyf h1 g1 eA eE (show n1 ≤ 1048576 by omega) (show m1 ≤ 1048576 by omega)
  cases hv : decide (0 < E.sign) with
  | false => exact to_b w _ A E 1048576 h (zde _) hv k
  | true =>
   obtain ⟨D, rfl, hD⟩ := ym8 hv
   obtain ⟨_, _, _, _, _, za, zd⟩ := h.now
   have dA := yw1 za
   have dD := yw1 zd
   have hN := zau hD dA dD
   have hup : ∃ up, (up = true ∧ nr A (D : Int) * (D : Int) ≤ A) ∨ (up = false ∧ A < nr A (D : Int) * (D : Int)) := by
    by_cases hu : nr A (D : Int) * (D : Int) ≤ A
    ·exact ⟨true, Or.inl ⟨rfl, hu⟩⟩
    ·exact ⟨false, Or.inr ⟨rfl, by omega⟩⟩
   obtain ⟨up, hu⟩ := hup
   have dX := ywv (up := up) (k := k) (by omega) (by omega) hN
   have dY := ywv (up := up) (k := k + 1) (by omega) (by omega) hN
   have ord := yvg hD rfl hu k
   obtain ⟨X, eX⟩ : ∃ X, zgN (nr A (D : Int)) up k = X := ⟨_, rfl⟩
   obtain ⟨Y, eY⟩ : ∃ Y, zgN (nr A (D : Int)) up (k + 1) = Y := ⟨_, rfl⟩
   rw [eX] at dX ord
   rw [eY] at dY ord
   have o1 : (digs (X * (D : Int) - A).natAbs).length ≤ 8388608 := zdf (yb8 (k := 2097156) (by rw [zd5]; exact zdf (yao dX dD) (by omega)) (zdf dA (by omega))) (by omega)
   have o2 : (digs (Y * (D : Int) - A).natAbs).length ≤ 8388608 := zdf (yb8 (k := 2097156) (by rw [zd5]; exact zdf (yao dY dD) (by omega)) (zdf dA (by omega))) (by omega)
   have dD' : (digs D).length ≤ 8388608 := by rw [zd0] at dD; omega
   have sg := yqz (P := X * (D : Int) - A) (Q := Y * (D : Int) - A) hD (ygm hD) (ygm hD) (yiz _ D) (yiz _ D)
   rcases ord with o | ⟨o, hxy⟩
   ·exact to_l w _ A _ D 1048576 h (zde _) hD rfl hN k hk up hu hv X Y eX eY dX dY _ _ _ _ rfl rfl rfl rfl (yoe o1) (ynw dD') (yoe o2) (ynw dD') (ygm hD) (ygm hD) (by rw [sg]; exact yso (by omega))
   ·exact to_e w _ A _ D 1048576 h (zde _) hD rfl hN k hk up hu hv X Y eX eY dX dY _ _ _ _ rfl rfl rfl rfl (yoe o1) (ynw dD') (yoe o2) (ynw dD') (ygm hD) (ygm hD) (by rw [sg, show (((X * (D : Int) - A).natAbs : Nat) : Int) - (((Y * (D : Int) - A).natAbs : Nat) : Int) = 0 by omega]; rfl) (yyx (by omega))
 refine key.mono ?_
 rintro e w' ⟨v, rfl, hb, hv⟩
 obtain rfl : v = _ := hv
 exact ⟨rfl, hb⟩
end Go.Proofs.YtdnindaohpdblaaGreat
