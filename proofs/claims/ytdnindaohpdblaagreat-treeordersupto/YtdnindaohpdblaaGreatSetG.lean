import Derived.Test.YtdnindaohpdblaaGreatSetQ
set_option linter.all false
namespace Go.Proofs.YtdnindaohpdblaaGreat
open Go Go.RowKit Nt
set_option maxRecDepth 20000
set_option maxHeartbeats 16000000
theorem za4 {A B : Int} (hB : B ≠ 0) : (rm A B).natAbs ≤ B.natAbs := by
 unfold rm fl
 by_cases hp : 0 < B
 ·rw [if_pos hp]
  have h1 := zgr A (by omega : B ≠ 0)
  have h2 := zf3 A hp
  have h3 := zf4 A B
  rw [zez] at h3
  omega
 ·rw [if_neg hp]
  have h1 := zgr (-A) (by omega : -B ≠ 0)
  have h2 := zf3 (-A) (by omega : 0 < -B)
  have h3 := zf4 (-A) (-B)
  rw [zez, zg0] at h3
  omega
theorem yzj {t : Bool} {ys : List Nat} {B : Int} (e : sg t (val ys) = B) (hB : B ≠ 0) : val ys ≠ 0 := fun h => hB (by rw [← e, h]; cases t <;> rfl)
theorem yfz {A B : Int} {ka kb : Nat} (hB : B ≠ 0) (hk : ka + 1 ≤ 70368744177663) (hk' : kb ≤ 70368744177663) : ∀ w u v, Zv A ka u w → Zv B kb v w → CG 108 #[u, v] w (THREE (ZN (fl A B)) (ZN (rm A B)) (IS (.int .i64 0))) := by
 rintro w u v ⟨s, p, n, c, xs, rfl, h, rfl, hn⟩ ⟨t, q, m, d, ys, rfl, h', rfl, hm⟩
 refine (yvf w s t p q n c m d xs ys h h' (yzj rfl hB) (by omega) (by omega)).mono ?_
 rintro e w' ⟨bq, Lq, Dq, rq, cq, br, Lr, Dr, rr, cr, rfl, hb, S1, S2, N1, N2, _, _, f1, f2⟩
 exact ⟨_, rfl, hb, _, _, _, rfl, yui N1.out S1.out f1.out, yui N2.out S2.out f2.out, rfl⟩
theorem yif {A B : Int} (hB : B ≠ 0) : A = fl A B * B + rm A B ∧ (0 < B → 0 ≤ rm A B ∧ rm A B < B) ∧ (B < 0 → B < rm A B ∧ rm A B ≤ 0) := by
 unfold rm
 refine ⟨by omega, fun hp => ?_, fun hp => ?_⟩
 ·unfold fl
  rw [if_pos hp]
  have h1 := zgr A (by omega : B ≠ 0)
  have h2 := zf3 A hp
  have h3 := zf4 A B
  rw [zez] at h3
  omega
 ·unfold fl
  rw [if_neg (by omega)]
  have h1 := zgr (-A) (by omega : -B ≠ 0)
  have h2 := zf3 (-A) (by omega : 0 < -B)
  have h3 := zf4 (-A) (-B)
  rw [zez, zg0] at h3
  omega
def nr (A B : Int) : Int := fl (2 * A + B) (2 * B)
theorem yx6 {A B : Int} (hB : B ≠ 0) (h : B.natAbs ≤ 2 * (rm A B).natAbs) : fl A B + 1 = nr A B := by
 obtain ⟨e, h1, h2⟩ := yif (A := A) hB
 refine (yet (r := 2 * rm A B - B) (by omega) ?_ (fun hp => ?_) (fun hp => ?_)).1.symm
 ·rw [zfv]
  have : fl A B * (2 * B) = 2 * (fl A B * B) := by rw [← ze1, zez (fl A B) 2, ze1]
  omega
 ·have := h1 (by omega); omega
 ·have := h2 (by omega); omega
theorem yrk {A B : Int} (hB : B ≠ 0) (h : 2 * (rm A B).natAbs < B.natAbs) : fl A B = nr A B := by
 obtain ⟨e, h1, h2⟩ := yif (A := A) hB
 refine (yet (r := 2 * rm A B + B) (by omega) ?_ (fun hp => ?_) (fun hp => ?_)).1.symm
 ·have : fl A B * (2 * B) = 2 * (fl A B * B) := by rw [← ze1, zez (fl A B) 2, ze1]
  omega
 ·have := h1 (by omega); omega
 ·have := h2 (by omega); omega
theorem ytt {x y : Nat} (h : y ≤ x) : 0 ≤ cmpN x y := by unfold cmpN; split; omega; split <;> omega
theorem ytu {x y : Nat} (h : x < y) : cmpN x y < 0 := by unfold cmpN; rw [if_pos h]; omega
theorem yz0 {A B : Int} (hB : B ≠ 0) : (fl A B).natAbs ≤ A.natAbs + 1 := by
 obtain ⟨e, h1, h2⟩ := yif (A := A) hB
 have key : (fl A B * B).natAbs ≤ A.natAbs + (rm A B).natAbs := by omega
 have hr : (rm A B).natAbs < B.natAbs := by
  rcases Int.lt_or_gt_of_ne hB with hp | hp
  ·have := h2 hp; omega
  ·have := h1 hp; omega
 rw [zd5] at key
 obtain ⟨f, hf⟩ : ∃ f, (fl A B).natAbs = f := ⟨_, rfl⟩
 obtain ⟨b, hb⟩ : ∃ b, B.natAbs = b := ⟨_, rfl⟩
 rw [hf, hb] at key
 rw [hb] at hr
 rw [hf]
 apply Classical.byContradiction
 intro hc
 obtain ⟨k, rfl⟩ : ∃ k, f = A.natAbs + 2 + k := ⟨f - (A.natAbs + 2), by omega⟩
 have h3 : (A.natAbs + 2 + k) * b = A.natAbs * b + 2 * b + k * b := by rw [zdx, zdx]
 have h4 : A.natAbs * 1 ≤ A.natAbs * b := zdn _ (by omega)
 omega
theorem yht {A B : Int} {n : Nat} (hB : B ≠ 0) (h : (digs A.natAbs).length ≤ n) : (digs (fl A B).natAbs).length ≤ n + 1 := by
 refine zdf (yag (yz0 hB)) ?_
 by_cases hn : n = 0
 ·subst hn
  have : A.natAbs = 0 := (yaq _).1 (by omega)
  rw [this]
  exact yan (by omega)
 ·refine yb7 h (zdf (yan (k := 1) (by omega)) (by omega))
theorem yvh (w : World) (s t : Bool) (p q : Option Addr) (n c m d : Nat) (xs ys : List Nat) (h : Sl w p n c xs) (h' : Sl w q m d ys) (A B : Int) (eA : sg s (val xs) = A) (eB : sg t (val ys) = B) (hB : B ≠ 0) (hc : 0 ≤ cmpN ((rm A B).natAbs + (rm A B).natAbs) (val ys)) (hs : n + m + 9 ≤ 35184372088831) :
  Calls Tryz.prog 83 #[.agg #[.bool s, .slice p n c], .agg #[.bool t, .slice q m d]] w (Gives (TWO (ZN (fl A B + 1)) (IS (.int .i64 0))) w) := by
 have dA : (digs A.natAbs).length ≤ n := by rw [← eA]; exact ymb h
 have dB : (digs B.natAbs).length ≤ m := by rw [← eB]; exact ymb h'
 have dR : (digs (rm A B).natAbs).length ≤ m := zdf (yag (za4 hB)) dB
 have dF : (digs (fl A B).natAbs).length ≤ n + 1 := yht hB dA
 have d1 : (digs (1 : Int).natAbs).length ≤ 1 := ynz (by decide)
 refine yap (sl := [(0, (Zx s p n c xs)), (1, (Zx t q m d ys))]) Tryz.func83 rfl Tryz.ntmps83 (by simp) (yai rfl (ygk h) (yai rfl (ygk h') yat)) ?_
 intro a0 S0
 refine wq [.new (.box 24 (Zx s p n c xs)), .new (.box 24 (Zx t q m d ys)), .new (.box 24 zI), V (iV 0)] [.inl 0, .inl 1, .inl 2] [.inl 3] S0 ?_ ?_
 ·exact jj4 (bxA wA (oS 0 0) (ydm ydw)) (bxA wA (oS 1 1) (ydm ydw)) (nwA wA yal) mC
 intro _ a1 _ (S1 : Zt [_,_,_] [_])
 refine wq [V (Zx s p n c xs), V (Zx t q m d ys), Fw (THREE (ZN (fl A B)) (ZN (rm A B)) (IS (.int .i64 0))) w, Fw (THREE (ZN (fl A B)) (ZN (rm A B)) (IS (.int .i64 0))) w, Fw (ZN (fl A B)) w, Fw (ZN (rm A B)) w, V (iV 0), .new (.box 24 zI), .new (.box 24 zI), .put (.inr 7) (.box 24 ((ZN (fl A B)) w.heap.size)), .put (.inr 8) (.box 24 ((ZN (rm A B)) w.heap.size)), V (iV 0)] [.inr 0, .inr 1, .inr 2, .inl 7, .inl 8] [.inl 11, .inr 0] S1 ?_ ?_
 ·exact ⟨⟨⟨⟨jj8 (loA 0 wA yab ydw) (loA 1 wA yab ydw) (cc2 wA (qO 0 10 rfl) (qO 1 11 rfl) (yca (yaf _) (yaf _) (yah _)) (fun w u v h1 h2 => yfz hB (by omega) (by omega) w u v ((yml eA (zde _)) _ _ h1) ((yml eB (zde _)) _ _ h2))) (mO 2 12) (e30 wA (oO 3 9)) (e31 wA (oO 3 9)) (e32 wA (oO 3 9)) (nwA wA yal), nwA wA yal⟩, puA 7 wA (oO 4 13) yab yau yae⟩, puA 8 wA (oO 5 14) yab yau yae⟩, mO 6 15⟩
 intro _ a2 _ (S2 : Zt [_,_,_,_,_] [_,_])
 refine wp_seq ?_
 refine wq [V (iV 0), kF] ur5 (.inl 1 :: ur2) S2 ?_ ?_
 ·exact jj2 (mS 0 8) (ybo wA (oO 0 16) (yac _) (h := rfl))
 intro _ a3 _ (S3 : Zt [_,_,_,_,_] [_,_,_])
 refine wp_cond_false (S3.bool 0 17 rfl) (wp_skip (thenN (wp_seq ?_)))
 refine wq [V (Part a3 7 1), Fw (NN ((rm A B).natAbs)) w, V (Part a3 7 1), Fw (NN ((rm A B).natAbs)) w, Fw (NN (((rm A B).natAbs) + ((rm A B).natAbs))) w, V (Part a3 3 1), V (Nx q m d ys), V (Is (.int .i64 (cmpN (((rm A B).natAbs) + ((rm A B).natAbs)) (val ys)))), kT] ur5 (.inl 8 :: ur3) S3 ?_ ?_
 ·exact ⟨jj8 (ptA wA 4 ycn) (plA wA (oO 0 20) 4 rfl rfl (ycq yo9)) (ptA wA 4 ycn) (plA wA (oO 2 22) 4 rfl rfl (ycq yo9)) (cc2 wA (qO 1 21 rfl) (qO 3 23 rfl) (yek _) (fun w u v h1 h2 => yz1 (by omega) (by omega) w u v ((ypx dR) _ _ h1) ((ypx dR) _ _ h2))) (ptA wA 1 ycn) (plA wA (oO 5 25) 1 rfl rfl (ycq yin)) (cc2 wA (qO 4 24 rfl) (qO 6 26 rfl) (yah _) (fun w u v h1 h2 => yz2  w u v ((ypx (zde _)) _ _ h1) ((ym5 (zde _)) _ _ h2))), yhk wA (oO 7 27) (yac _) (h := hc)⟩
 intro _ a4 _ (S4 : Zt [_,_,_,_,_] [_,_,_,_])
 refine wp_cond_true (S4.bool 0 28 rfl) ?_
 refine wr [Fw (ZN (fl A B)) w, Fw (ZN (1)) w, Fw (ZN ((fl A B) + 1)) w, .put (.inl 6) (.box 24 ((ZN ((fl A B) + 1)) w.heap.size))] ur5 ur4 S4 ?_ ?_
 ·exact jj4 (loA 3 wA yab yae) (cc1 wA (yac _) (yaf _) (yio 1 (by omega) (by omega))) (cc2 wA (qO 0 29 rfl) (qO 1 30 rfl) (yaf _) (fun w u v h1 h2 => yiu (by omega) (by omega) w u v ((ya0 dF) _ _ h1) ((ya0 d1) _ _ h2))) (seA 3 wA (oO 2 31) yab yae yae)
 intro _ a5 _ (S5 : Zt [_,_,_,_,_] [_,_,_,_])
 refine thenN ?_
 refine wq [Fw (ZN ((fl A B) + 1)) w, .put (.inl 4) (.box 24 ((ZN ((fl A B) + 1)) w.heap.size)), V (iV 0)] ur5 (.inl 2 :: ur3) S5 ?_ ?_
 ·exact jj3 (loA 3 wA yab yae) (seA 2 wA (oO 0 32) yab yau yae) mC
 intro _ a6 _ (S6 : Zt [_,_,_,_,_] [_,_,_,_])
 refine wp_ret ?_
 exact ydo S6 rfl (ya2 S6 2 4 rfl yab yae) (ya7 S6 0 5 rfl)
theorem yvi (w : World) (s t : Bool) (p q : Option Addr) (n c m d : Nat) (xs ys : List Nat) (h : Sl w p n c xs) (h' : Sl w q m d ys) (A B : Int) (eA : sg s (val xs) = A) (eB : sg t (val ys) = B) (hB : B ≠ 0) (hc : cmpN ((rm A B).natAbs + (rm A B).natAbs) (val ys) < 0) (hs : n + m + 9 ≤ 35184372088831) :
  Calls Tryz.prog 83 #[.agg #[.bool s, .slice p n c], .agg #[.bool t, .slice q m d]] w (Gives (TWO (ZN (fl A B)) (IS (.int .i64 0))) w) := by
 have dA : (digs A.natAbs).length ≤ n := by rw [← eA]; exact ymb h
 have dB : (digs B.natAbs).length ≤ m := by rw [← eB]; exact ymb h'
 have dR : (digs (rm A B).natAbs).length ≤ m := zdf (yag (za4 hB)) dB
 have dF : (digs (fl A B).natAbs).length ≤ n + 1 := yht hB dA
 have d1 : (digs (1 : Int).natAbs).length ≤ 1 := ynz (by decide)
 refine yap (sl := [(0, (Zx s p n c xs)), (1, (Zx t q m d ys))]) Tryz.func83 rfl Tryz.ntmps83 (by simp) (yai rfl (ygk h) (yai rfl (ygk h') yat)) ?_
 intro a0 S0
 refine wq [.new (.box 24 (Zx s p n c xs)), .new (.box 24 (Zx t q m d ys)), .new (.box 24 zI), V (iV 0)] [.inl 0, .inl 1, .inl 2] [.inl 3] S0 ?_ ?_
 ·exact jj4 (bxA wA (oS 0 0) (ydm ydw)) (bxA wA (oS 1 1) (ydm ydw)) (nwA wA yal) mC
 intro _ a1 _ (S1 : Zt [_,_,_] [_])
 refine wq [V (Zx s p n c xs), V (Zx t q m d ys), Fw (THREE (ZN (fl A B)) (ZN (rm A B)) (IS (.int .i64 0))) w, Fw (THREE (ZN (fl A B)) (ZN (rm A B)) (IS (.int .i64 0))) w, Fw (ZN (fl A B)) w, Fw (ZN (rm A B)) w, V (iV 0), .new (.box 24 zI), .new (.box 24 zI), .put (.inr 7) (.box 24 ((ZN (fl A B)) w.heap.size)), .put (.inr 8) (.box 24 ((ZN (rm A B)) w.heap.size)), V (iV 0)] [.inr 0, .inr 1, .inr 2, .inl 7, .inl 8] [.inl 11, .inr 0] S1 ?_ ?_
 ·exact ⟨⟨⟨⟨jj8 (loA 0 wA yab ydw) (loA 1 wA yab ydw) (cc2 wA (qO 0 10 rfl) (qO 1 11 rfl) (yca (yaf _) (yaf _) (yah _)) (fun w u v h1 h2 => yfz hB (by omega) (by omega) w u v ((yml eA (zde _)) _ _ h1) ((yml eB (zde _)) _ _ h2))) (mO 2 12) (e30 wA (oO 3 9)) (e31 wA (oO 3 9)) (e32 wA (oO 3 9)) (nwA wA yal), nwA wA yal⟩, puA 7 wA (oO 4 13) yab yau yae⟩, puA 8 wA (oO 5 14) yab yau yae⟩, mO 6 15⟩
 intro _ a2 _ (S2 : Zt [_,_,_,_,_] [_,_])
 refine wp_seq ?_
 refine wq [V (iV 0), kF] ur5 (.inl 1 :: ur2) S2 ?_ ?_
 ·exact jj2 (mS 0 8) (ybo wA (oO 0 16) (yac _) (h := rfl))
 intro _ a3 _ (S3 : Zt [_,_,_,_,_] [_,_,_])
 refine wp_cond_false (S3.bool 0 17 rfl) (wp_skip (thenN (wp_seq ?_)))
 refine wq [V (Part a3 7 1), Fw (NN ((rm A B).natAbs)) w, V (Part a3 7 1), Fw (NN ((rm A B).natAbs)) w, Fw (NN (((rm A B).natAbs) + ((rm A B).natAbs))) w, V (Part a3 3 1), V (Nx q m d ys), V (Is (.int .i64 (cmpN (((rm A B).natAbs) + ((rm A B).natAbs)) (val ys)))), kF] ur5 (.inl 8 :: ur3) S3 ?_ ?_
 ·exact ⟨jj8 (ptA wA 4 ycn) (plA wA (oO 0 20) 4 rfl rfl (ycq yo9)) (ptA wA 4 ycn) (plA wA (oO 2 22) 4 rfl rfl (ycq yo9)) (cc2 wA (qO 1 21 rfl) (qO 3 23 rfl) (yek _) (fun w u v h1 h2 => yz1 (by omega) (by omega) w u v ((ypx dR) _ _ h1) ((ypx dR) _ _ h2))) (ptA wA 1 ycn) (plA wA (oO 5 25) 1 rfl rfl (ycq yin)) (cc2 wA (qO 4 24 rfl) (qO 6 26 rfl) (yah _) (fun w u v h1 h2 => yz2  w u v ((ypx (zde _)) _ _ h1) ((ym5 (zde _)) _ _ h2))), yfd wA (oO 7 27) (yac _) (h := hc)⟩
 intro _ a4 _ (S4 : Zt [_,_,_,_,_] [_,_,_,_])
 refine wp_cond_false (S4.bool 0 28 rfl) (wp_skip (thenN ?_))
 refine wq [Fw (ZN (fl A B)) w, .put (.inl 4) (.box 24 ((ZN (fl A B)) w.heap.size)), V (iV 0)] ur5 (.inl 2 :: ur3) S4 ?_ ?_
 ·exact jj3 (loA 3 wA yab yae) (seA 2 wA (oO 0 32) yab yau yae) mC
 intro _ a5 _ (S5 : Zt [_,_,_,_,_] [_,_,_,_])
 refine wp_ret ?_
 exact ydo S5 rfl (ya2 S5 2 4 rfl yab yae) (ya7 S5 0 5 rfl)
theorem yxs {A B : Int} {ka kb : Nat} (hB : B ≠ 0) (hk : ka + kb + 9 ≤ 35184372088831) : ∀ w u v, Zv A ka u w → Zv B kb v w → CG 83 #[u, v] w (TWO (ZN (nr A B)) (IS (.int .i64 0))) := by
 rintro w u v ⟨s, p, n, c, xs, rfl, h, rfl, hn⟩ ⟨t, q, m, d, ys, rfl, h', rfl, hm⟩
 have ey := sg_abs t (val ys)
 by_cases hc : val ys ≤ 2 * (rm (sg s (val xs)) (sg t (val ys))).natAbs
 ·rw [← yx6 hB (by rw [ey]; exact hc)]
  exact yvh w s t p q n c m d xs ys h h' _ _ rfl rfl hB (ytt (by omega)) (by omega)
 ·rw [← yrk hB (by rw [ey]; omega)]
  exact yvi w s t p q n c m d xs ys h h' _ _ rfl rfl hB (ytu (by omega)) (by omega)
theorem ytd (w : World) (s t : Bool) (p q : Option Addr) (n c m d : Nat) (xs ys : List Nat) (h : Sl w p n c xs) (h' : Sl w q m d ys) (hy : val ys ≠ 0) (hl : (0 : Int) < (((digs (val xs % val ys)).length : Nat) : Int)) (hs : n + m + 9 ≤ 35184372088831) :
  Calls Tryz.prog 98 #[.agg #[.bool s, .slice p n c], .agg #[.bool t, .slice q m d]] w (Gives (TWO (IS (.agg #[.bool false, .slice none 0 0])) (IS (.int .i64 20))) w) := by
 refine yap (sl := [(0, (Zx s p n c xs)), (1, (Zx t q m d ys))]) Tryz.func98 rfl Tryz.ntmps98 (by simp) (yai rfl (ygk h) (yai rfl (ygk h') yat)) ?_
 intro a0 S0
 refine wq [.new (.box 24 (Zx s p n c xs)), .new (.box 24 (Zx t q m d ys)), .new (.box 24 zI), V (iV 0)] [.inl 0, .inl 1, .inl 2] [.inl 3] S0 ?_ ?_
 ·exact jj4 (bxA wA (oS 0 0) (ydm ydw)) (bxA wA (oS 1 1) (ydm ydw)) (nwA wA yal) mC
 intro _ a1 _ (S1 : Zt [_,_,_] [_])
 refine wq [V (Part a1 2 1), V (Nx p n c xs), V (Part a1 3 1), V (Nx q m d ys), Fw (THREE (NN (val xs / val ys)) (NN (val xs % val ys)) (IS (.int .i64 0))) w, Fw (THREE (NN (val xs / val ys)) (NN (val xs % val ys)) (IS (.int .i64 0))) w, Fw (NN (val xs / val ys)) w, Fw (NN (val xs % val ys)) w, V (iV 0), Fw (NN (val xs / val ys)) w, Fw (NN (val xs % val ys)) w, V (iV 0)] ur3 [.inl 9, .inl 10, .inl 11, .inr 0] S1 ?_ ?_
 ·exact ⟨⟨⟨⟨jj8 (ptA wA 0 ycn) (plA wA (oO 0 10) 0 rfl rfl (ycq yin)) (ptA wA 1 ycn) (plA wA (oO 2 12) 1 rfl rfl (ycq yin)) (cc2 wA (qO 1 11 rfl) (qO 3 13 rfl) (yca (yek _) (yek _) (yah _)) (fun w u v h1 h2 => yz3 hy (by omega) w u v ((ym5 (zde _)) _ _ h1) ((ym5 (zde _)) _ _ h2))) (mO 4 14) (e30 wA (oO 5 9)) (e31 wA (oO 5 9)), e32 wA (oO 5 9)⟩, mO 6 15⟩, mO 7 16⟩, mO 8 17⟩
 intro _ a2 _ (S2 : Zt [_,_,_] [_,_,_,_])
 refine wp_seq (wp_block ?_)
 refine wq [V (iV 0), kF, kF] ur3 (.inl 2 :: ur4) S2 ?_ ?_
 ·exact jj3 (mS 2 8) (ybo wA (oO 0 19) (yac _) (h := rfl)) (mO 1 20)
 intro _ a3 _ (S3 : Zt [_,_,_] [_,_,_,_,_])
 refine wp_cond_false (S3.bool 0 18 rfl) ?_
 refine wq [Fw (NN (val xs % val ys)) w, V (Is (.int .i64 ((digs (val xs % val ys)).length : Nat))), kT, kT] ur3 [.inl 3, .inr 0, .inr 1, .inr 3, .inr 4] S3 ?_ ?_
 ·exact jj4 (mS 2 7) (yh4 rfl wA rfl (oO 0 24) yv7 Tryz.underlying22 rfl) (yef wA (oO 1 25) (yac _) (h := hl)) (mO 2 26)
 intro _ a4 _ (S4 : Zt [_,_,_] [_,_,_,_,_])
 refine wp_cond_true (S4.bool 0 23 rfl) ?_
 refine wq [.val zI, .put (.inl 4) (.box 24 zI), V (iV 20)] ur3 (.inl 2 :: ur4) S4 ?_ ?_
 ·exact jj3 (yc2 rfl wA rfl rfl) (seA 2 wA (oO 0 27) yab yau yau) mC
 intro _ a5 _ (S5 : Zt [_,_,_] [_,_,_,_,_])
 refine wp_ret (inBlkR (thenR ?_))
 exact ydo S5 rfl (ya2 S5 2 4 rfl yab yau) (ya7 S5 0 5 rfl)
theorem yte (w : World) (s t : Bool) (p q : Option Addr) (n c m d : Nat) (xs ys : List Nat) (h : Sl w p n c xs) (h' : Sl w q m d ys) (hy : val ys ≠ 0) (hl : (((digs (val xs % val ys)).length : Nat) : Int) ≤ 0) (hs : n + m + 9 ≤ 35184372088831) :
  Calls Tryz.prog 98 #[.agg #[.bool s, .slice p n c], .agg #[.bool t, .slice q m d]] w (Gives (TWO (ZN (sg (s != t) (val xs / val ys))) (IS (.int .i64 0))) w) := by
 refine yap (sl := [(0, (Zx s p n c xs)), (1, (Zx t q m d ys))]) Tryz.func98 rfl Tryz.ntmps98 (by simp) (yai rfl (ygk h) (yai rfl (ygk h') yat)) ?_
 intro a0 S0
 refine wq [.new (.box 24 (Zx s p n c xs)), .new (.box 24 (Zx t q m d ys)), .new (.box 24 zI), V (iV 0)] [.inl 0, .inl 1, .inl 2] [.inl 3] S0 ?_ ?_
 ·exact jj4 (bxA wA (oS 0 0) (ydm ydw)) (bxA wA (oS 1 1) (ydm ydw)) (nwA wA yal) mC
 intro _ a1 _ (S1 : Zt [_,_,_] [_])
 refine wq [V (Part a1 2 1), V (Nx p n c xs), V (Part a1 3 1), V (Nx q m d ys), Fw (THREE (NN (val xs / val ys)) (NN (val xs % val ys)) (IS (.int .i64 0))) w, Fw (THREE (NN (val xs / val ys)) (NN (val xs % val ys)) (IS (.int .i64 0))) w, Fw (NN (val xs / val ys)) w, Fw (NN (val xs % val ys)) w, V (iV 0), Fw (NN (val xs / val ys)) w, Fw (NN (val xs % val ys)) w, V (iV 0)] ur3 [.inl 9, .inl 10, .inl 11, .inr 0] S1 ?_ ?_
 ·exact ⟨⟨⟨⟨jj8 (ptA wA 0 ycn) (plA wA (oO 0 10) 0 rfl rfl (ycq yin)) (ptA wA 1 ycn) (plA wA (oO 2 12) 1 rfl rfl (ycq yin)) (cc2 wA (qO 1 11 rfl) (qO 3 13 rfl) (yca (yek _) (yek _) (yah _)) (fun w u v h1 h2 => yz3 hy (by omega) w u v ((ym5 (zde _)) _ _ h1) ((ym5 (zde _)) _ _ h2))) (mO 4 14) (e30 wA (oO 5 9)) (e31 wA (oO 5 9)), e32 wA (oO 5 9)⟩, mO 6 15⟩, mO 7 16⟩, mO 8 17⟩
 intro _ a2 _ (S2 : Zt [_,_,_] [_,_,_,_])
 refine wp_seq (wp_block ?_)
 refine wq [V (iV 0), kF, kF] ur3 (.inl 2 :: ur4) S2 ?_ ?_
 ·exact jj3 (mS 2 8) (ybo wA (oO 0 19) (yac _) (h := rfl)) (mO 1 20)
 intro _ a3 _ (S3 : Zt [_,_,_] [_,_,_,_,_])
 refine wp_cond_false (S3.bool 0 18 rfl) ?_
 refine wq [Fw (NN (val xs % val ys)) w, V (Is (.int .i64 ((digs (val xs % val ys)).length : Nat))), kF, kF] ur3 [.inl 3, .inr 0, .inr 1, .inr 3, .inr 4] S3 ?_ ?_
 ·exact jj4 (mS 2 7) (yh4 rfl wA rfl (oO 0 24) yv7 Tryz.underlying22 rfl) (ycj wA (oO 1 25) (yac _) (h := hl)) (mO 2 26)
 intro _ a4 _ (S4 : Zt [_,_,_] [_,_,_,_,_])
 refine wp_cond_false (S4.bool 0 23 rfl) (wp_skip (inBlkN (thenN ?_)))
 refine wq [V (Part a4 2 0), V (Is (.bool s)), V (Part a4 3 0), V (Is (.bool t)), V (Is (.bool (s != t))), Fw (NN (val xs / val ys)) w, Fw (ZN (sg (s != t) (val xs / val ys))) w, .put (.inl 4) (.box 24 ((ZN (sg (s != t) (val xs / val ys))) w.heap.size)), V (iV 0)] ur3 [.inl 8, .inr 0, .inr 1, .inr 3] S4 ?_ ?_
 ·exact ⟨jj8 (ptZ wA 0 ylw) (plA wA (oO 0 28) 0 rfl rfl (yly yw3)) (ptZ wA 1 ylw) (plA wA (oO 2 30) 1 rfl rfl (yly yw3)) (ypd wA (oO 1 29) (oO 3 31)) (mS 2 6) (yi9 rfl wA rfl (oO 4 32) (oO 5 33) rfl (fun args w => by go_simp) yn8) (seA 2 wA (oO 6 34) yab yau yae), mC⟩
 intro _ a5 _ (S5 : Zt [_,_,_] [_,_,_,_])
 refine wp_ret ?_
 exact ydo S5 rfl (ya2 S5 2 4 rfl yab yae) (ya7 S5 0 5 rfl)
theorem ysb {s t : Bool} {x y : Nat} (hy : y ≠ 0) : rm (sg s x) (sg t y) = 0 ↔ x % y = 0 := by
 by_cases h0 : x % y = 0
 ·rw [(yej s t x y hy (Or.inr h0)).2, h0]
  constructor
  ·exact fun _ => rfl
  ·intro _; cases t <;> rfl
 ·have hlt := zed x (zdy hy)
  have : rm (sg s x) (sg t y) ≠ 0 := by
   by_cases hst : s = t
   ·rw [(yej s t x y hy (Or.inl hst)).2]
    intro e
    have := sg_abs t (x % y)
    rw [e] at this
    exact h0 (by simpa using this.symm)
   ·rw [(yn2 s t x y hy hst h0).2]
    intro e
    have := sg_abs t (y - x % y)
    rw [e] at this
    simp at this
    omega
  exact ⟨fun e => absurd e this, fun e => absurd e h0⟩
theorem yq3 {A B : Int} {ka kb : Nat} (hB : B ≠ 0) (hr : rm A B ≠ 0) (hk : ka + kb + 9 ≤ 35184372088831) : ∀ w u v, Zv A ka u w → Zv B kb v w → CG 98 #[u, v] w (TWO (IS (.agg #[.bool false, .slice none 0 0])) (IS (.int .i64 20))) := by
 rintro w u v ⟨s, p, n, c, xs, rfl, h, rfl, hn⟩ ⟨t, q, m, d, ys, rfl, h', rfl, hm⟩
 have hy := yzj (t := t) rfl hB
 have h0 : val xs % val ys ≠ 0 := fun e => hr ((ysb hy).2 e)
 have hl : (digs (val xs % val ys)).length ≠ 0 := fun e => h0 ((yaq _).1 e)
 exact ytd w s t p q n c m d xs ys h h' hy (by omega) (by omega)
theorem yhu {A B : Int} {ka kb : Nat} (hB : B ≠ 0) (hr : rm A B = 0) (hk : ka + kb + 9 ≤ 35184372088831) : ∀ w u v, Zv A ka u w → Zv B kb v w → CG 98 #[u, v] w (TWO (ZN (fl A B)) (IS (.int .i64 0))) := by
 rintro w u v ⟨s, p, n, c, xs, rfl, h, rfl, hn⟩ ⟨t, q, m, d, ys, rfl, h', rfl, hm⟩
 have hy := yzj (t := t) rfl hB
 have h0 : val xs % val ys = 0 := (ysb hy).1 hr
 rw [(yej s t (val xs) (val ys) hy (Or.inr h0)).1]
 exact yte w s t p q n c m d xs ys h h' hy (by rw [h0]; decide) (by omega)
end Go.Proofs.YtdnindaohpdblaaGreat
