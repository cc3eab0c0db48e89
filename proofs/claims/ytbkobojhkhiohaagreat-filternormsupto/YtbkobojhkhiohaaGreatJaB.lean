import Derived.Test.YtbkobojhkhiohaaGreatJaA
set_option linter.all false
namespace Go.Proofs.YtbkobojhkhiohaaGreat
open Go Go.RowKit Nt
set_option maxRecDepth 20000
set_option maxHeartbeats 16000000
section
variable {G : Nat → Nat → Int} {n t E F : Nat}
end
def cmN (ts : List (Int × Int)) : Nat → Nat
 | 0 => 1
 | k + 1 => cmN ts k * ((ts.getD k (0, 0)).2.toNat / Nat.gcd (cmN ts k) (ts.getD k (0, 0)).2.toNat)
def DenOk (ts : List (Int × Int)) : Prop := ∀ k, k < ts.length → 0 < (ts.getD k (0, 0)).2
theorem yr3 (a b : Nat) : Nat.gcd a b * (b / Nat.gcd a b) = b := Nat.mul_div_cancel' (zhj a b)
theorem zan {ts : List (Int × Int)} (h : DenOk ts) : ∀ k, k ≤ ts.length → cmN ts k ≠ 0
 | 0, _ => Nat.one_ne_zero
 | k + 1, hk => by
  have h1 := zan h k (by omega)
  have h2 := h k (by omega)
  have h3 := yr3 (cmN ts k) (ts.getD k (0, 0)).2.toNat
  refine zfu h1 (fun e => ?_)
  rw [e, zgi] at h3
  omega
theorem yrf {ts : List (Int × Int)} : ∀ k j, j < k → k ≤ ts.length → (ts.getD j (0, 0)).2.toNat ∣ cmN ts k
  | k + 1, j, hj, hk => by
    rcases zge j k with h1 | h1
    · exact zhz (yrf k j h1 (by omega)) (Nat.dvd_mul_right _ _)
    · have e : j = k := by omega
      subst e
      rw [cmN]
      generalize (ts.getD j (0, 0)).2.toNat = d
      obtain ⟨q, hq⟩ := zhv (cmN ts j) d
      have h3 := yr3 (cmN ts j) d
      refine ⟨q, ?_⟩
      calc cmN ts j * (d / Nat.gcd (cmN ts j) d) = (Nat.gcd (cmN ts j) d * (d / Nat.gcd (cmN ts j) d)) * q := by
            conv => lhs; rw [hq]
            rw [zfe, zfe, ze8 q]
            congr 3 <;> rw [← hq]
        _ = d * q := by rw [h3]
def dsum (ts : List (Int × Int)) : Nat → Nat
 | 0 => 1
 | k + 1 => dsum ts k + (digs (ts.getD k (0, 0)).2.natAbs).length
theorem yi9 {ts : List (Int × Int)} (h : DenOk ts) : ∀ k, k ≤ ts.length → (digs (cmN ts k)).length ≤ dsum ts k
 | 0, _ => by
  show (digs 1).length ≤ 1
  exact yay (by decide)
 | k + 1, hk => by
  have h1 := yi9 h k (by omega)
  have h2 := h k (by omega)
  rw [cmN, dsum]
  refine yam h1 (yae (ze6 (zfy _ _) (by omega)))
def tlL (ts : List (Int × Int)) (M : Nat) : List Int := ts.map (fun t => t.1 * ((M / t.2.toNat : Nat) : Int))
theorem ypu (ts : List (Int × Int)) (M : Nat) : (tlL ts M).length = ts.length := by simp [tlL]
theorem zdd {ts : List (Int × Int)} {M k : Nat} (hk : k < ts.length) : (tlL ts M).getD k 0 = (ts.getD k (0, 0)).1 * ((M / (ts.getD k (0, 0)).2.toNat : Nat) : Int) := by
 rw [ze7, ze7, tlL, zfg, zfb hk]
 rfl
theorem zev {ts : List (Int × Int)} (h : DenOk ts) {k : Nat} (hk : k < ts.length) : (tlL ts (cmN ts ts.length)).getD k 0 * (ts.getD k (0, 0)).2 = (ts.getD k (0, 0)).1 * ((cmN ts ts.length : Nat) : Int) := by
 rw [zdd hk, Int.mul_assoc]
 congr 1
 have h1 := h k hk
 obtain ⟨q, hq⟩ := yrf ts.length k hk (ze5 _)
 rw [hq, Nat.mul_div_cancel_left _ (by omega), zfh, zhx, show (((ts.getD k (0, 0)).2.toNat : Nat) : Int) = (ts.getD k (0, 0)).2 by omega]
abbrev QV (n : Nat) (ts : List (Int × Int)) (k : Nat) : Pr := Ar 4 n (ts.map (fun t => PR (Zv t.1 k) (Zv t.2 k)))
theorem ymc {k : Nat} : ∀ v w, Is (.slice none 0 0) v w → QV 0 [] k v w := fun v w h => ⟨none, 0, h, rfl, ⟨ze5 _, by unfold maxLen; omega, fun _ => rfl⟩, fun i φ hφ => by simp at hφ⟩
theorem yht {ts : List (Int × Int)} {k i : Nat} (h : i < ts.length) : (ts.map (fun t => PR (Zv t.1 k) (Zv t.2 k)))[i]? = some (PR (Zv (ts.getD i (0, 0)).1 k) (Zv (ts.getD i (0, 0)).2 k)) := by
 rw [zfg, zfb h, ze7, zfb h]
 rfl
section
variable {ops : Array Oper} {l : List Kd} {bx : Bxs} {sl : List (Tmp × Pr)} {i : Nat} {o : Oper} {Q : Exit → Act → World → Prop} {a0 : Act} {n : Nat} {w0 : World}
end
theorem ytr {z : Int} (h : 0 ≤ z) : 0 ≤ z.sign := by
 by_cases h0 : z = 0
 ·rw [h0]; decide
 ·rw [zf9 (by omega)]; decide
theorem yn7 {E lo k : Nat} {a b : Int} : ∀ v w, Sng E 4 (PR (Zv a k) (Zv b k)) lo v w → QV 1 [(a, b)] k v w := by
 rintro v w ⟨g, u, rfl, h1, h2, h3, h4⟩
 refine ⟨_, _, rfl, rfl, ⟨ze5 _, by unfold maxLen; omega, fun e => by cases e⟩, fun i φ hφ => ?_⟩
 match i, hφ with
 | 0, hφ =>
  simp at hφ
  subst hφ
  refine ⟨g, 0, u, rfl, fun j x hx => ?_, h3.siz, h4⟩
  rw [zgi, zga, zf7, yfa h2]
  exact hx
 | i + 1, hφ => simp at hφ
theorem yjh (w : World) (u : Value) (n k : Nat) (ts : List (Int × Int)) (h : Hs w (QV n ts k) u) (hn : n ≤ 1048576) (hk : k ≤ 8388608) (lt : ts.length = n) (ht : ∀ i, i < n → 0 < (ts.getD i (0, 0)).2) :
  CG 41 #[u] w (IS (.bool true)) := by
 refine yan (sl := [(0, (QV n ts k))]) Tryz.func41 rfl Tryz.ntmps41 (by simp) (yad rfl (h) yar) ?_
 intro a0 S0
 refine wq [kF] [] [.inr 0] S0 ?_ ?_
 ·exact jj1 mC
 intro _ a1 _ (S1 : Zt [] [_])
 refine wp_seq ?_
 refine wq [V (QV n ts k), V (iV (n : Nat)), V (iV 0)] [] [.inl 0, .inl 1, .inl 2] S1 ?_ ?_
 ·exact jj3 (mS 0 0) (lnA wA (oO 0 5) Tryz.underlying26) mC
 intro B2 a2 _ (S2 : Zt [] [_,_,_])
 refine wp_block ?_
 refine ya8 (fun (k0 : Nat) a W => (k0 ≤ n) ∧ ∃ Bq, Sta w 16 [] [(5, (QV n ts k)), (6, iV (n : Nat)), (7, iV (k0 : Nat))] Bq a W) (fun (k0 : Nat) => n - k0) ?_ 0 ⟨zfq _, B2, S2.sub [] [0, 1, 2]⟩
 rintro k0 a3 _ ⟨hcond, _, S3⟩
 by_cases hlt : k0 < n
 ·have hp := yfk (ht k0 hlt)
  refine wq [kT] [] (.inl 0 :: ur3) S3 ?_ ?_
  ·exact jj1 (ya7 wA (oS 2 7) (oS 1 6))
  intro B4 a4 W4 (S4 : Zt [] [_,_,_,_])
  refine wp_seq (wp_cond_true (S4.bool 0 8 rfl) (wp_skip (thenN (wp_seq (wp_block ?_)))))
  refine wq [V (AtE 4 (PR (Zv ((ts.getD k0 (0, 0)).1) k) (Zv ((ts.getD k0 (0, 0)).2) k))), V (PR (Zv ((ts.getD k0 (0, 0)).1) k) (Zv ((ts.getD k0 (0, 0)).2) k)), .new (.box 31 zR), .put (.inr 2) (.box 31 (PR (Zv ((ts.getD k0 (0, 0)).1) k) (Zv ((ts.getD k0 (0, 0)).2) k)))] [.inl 2] [.inr 1, .inr 2, .inr 3] S4 ?_ ?_
  ·exact jj4 (axA wA yc8 (oS 1 5) (oS 3 7) (yht (by omega)) rfl) (alC wA ydi (ya2 yak yak) (oO 0 9)) (nwA wA ya5) (puA 2 wA (oO 1 10) yaj ybk (ya2 yak yak))
  intro B5 a5 W5 (S5 : Zt [_] [_,_,_])
  refine wq [V (Part a5 4 2), V (Zv ((ts.getD k0 (0, 0)).2) k), V (Is (.int .i64 ((ts.getD k0 (0, 0)).2).sign)), kF] [] (.inl 3 :: ur3) S5 ?_ ?_
  ·exact jj4 (ptA wA 0 yby) (plA wA (oO 0 11) 0 rfl rfl yb1) (cc1 wA (qO 1 12 rfl) (yaf _) (fun w u h1 => yge (by omega) w u ((fun _ _ h => h) _ _ h1))) (yd8 wA (oO 2 13) (yab _))
  intro _ a6 _ (S6 : Zt [] [_,_,_,_])
  refine wp_cond_false (S6.bool 0 14 rfl) (wp_skip (inBlkN (thenN ?_)))
  refine wr [V (iV (k0 + 1 : Nat)), V (iV (k0 + 1 : Nat))] [] [.inl 1, .inr 1, .inr 2] S6 ?_ ?_
  ·exact jj2 (yba wA (oS 3 7) (yab _)) (mO 0 15)
  intro B7 a7 _ (S7 : Zt [] [_,_,_])
  refine thenN ?_
  exact ⟨k0 + 1, ⟨by omega, B7, S7.sub [] [1, 2, 0]⟩, by omega⟩
 ·skip
  refine wq [kF] [] (.inl 0 :: ur3) S3 ?_ ?_
  ·exact jj1 (ybl wA (oS 2 7) (oS 1 6))
  intro B4 a4 W4 (S4 : Zt [] [_,_,_,_])
  refine wp_seq (wp_cond_false (S4.bool 0 8 rfl) (wp_exit (thenX (thenX (inBlkE (thenN ?_))))))
  refine wq [kT] [] [.inl 0, .inr 1, .inr 2, .inr 3] S4 ?_ ?_
  ·exact jj1 mC
  intro B5 a5 W5 (S5 : Zt [] [_,_,_,_])
  refine wp_ret ?_
  exact yav S5 rfl (yaw S5 0 2 rfl)
abbrev yjt (k : Nat) (ts : List (Int × Int)) (k0 : Nat) : Pr := PR (Zv ((ts.getD k0 (0, 0)).1) k) (Zv ((ts.getD k0 (0, 0)).2) k)
theorem yo9 (w : World) (u : Value) (n k : Nat) (ts : List (Int × Int)) (h : Hs w (QV n ts k) u) (hn : n ≤ 1048576) (hk : k ≤ 8388608) (lt : ts.length = n) (i0 : Nat) (hi : i0 < n) (ht : ∀ i, i < i0 → 0 < (ts.getD i (0, 0)).2) (hz : (ts.getD i0 (0, 0)).2 ≤ 0) :
  CG 41 #[u] w (IS (.bool false)) := by
 refine yan (sl := [(0, (QV n ts k))]) Tryz.func41 rfl Tryz.ntmps41 (by simp) (yad rfl (h) yar) ?_
 intro a0 S0
 refine wq [kF] [] [.inr 0] S0 ?_ ?_
 ·exact jj1 mC
 intro _ a1 _ (S1 : Zt [] [_])
 refine wp_seq ?_
 refine wq [V (QV n ts k), V (iV (n : Nat)), V (iV 0)] [] [.inl 0, .inl 1, .inl 2] S1 ?_ ?_
 ·exact jj3 (mS 0 0) (lnA wA (oO 0 5) Tryz.underlying26) mC
 intro B2 a2 _ (S2 : Zt [] [_,_,_])
 refine wp_block ?_
 refine ya8 (fun (k0 : Nat) a W => (k0 ≤ i0) ∧ ∃ Bq, Sta w 16 [] [(5, (QV n ts k)), (6, iV (n : Nat)), (7, iV (k0 : Nat))] Bq a W) (fun (k0 : Nat) => n - k0) ?_ 0 ⟨zfq _, B2, S2.sub [] [0, 1, 2]⟩
 rintro k0 a3 _ ⟨hcond, _, S3⟩
 by_cases hlt : k0 < i0
 ·have hp := yfk (ht k0 hlt)
  refine wq [kT] [] (.inl 0 :: ur3) S3 ?_ ?_
  ·exact jj1 (ya7 wA (oS 2 7) (oS 1 6))
  intro B4 a4 W4 (S4 : Zt [] [_,_,_,_])
  refine wp_seq (wp_cond_true (S4.bool 0 8 rfl) (wp_skip (thenN (wp_seq (wp_block ?_)))))
  refine wq [V (AtE 4 (yjt k ts k0)), V (yjt k ts k0), .new (.box 31 zR), .put (.inr 2) (.box 31 (yjt k ts k0))] [.inl 2] [.inr 1, .inr 2, .inr 3] S4 ?_ ?_
  ·exact jj4 (axA wA yc8 (oS 1 5) (oS 3 7) (yht (by omega)) rfl) (alC wA ydi (ya2 yak yak) (oO 0 9)) (nwA wA ya5) (puA 2 wA (oO 1 10) yaj ybk (ya2 yak yak))
  intro B5 a5 W5 (S5 : Zt [_] [_,_,_])
  refine wq [V (Part a5 4 2), V (Zv ((ts.getD k0 (0, 0)).2) k), V (Is (.int .i64 ((ts.getD k0 (0, 0)).2).sign)), kF] [] (.inl 3 :: ur3) S5 ?_ ?_
  ·exact jj4 (ptA wA 0 yby) (plA wA (oO 0 11) 0 rfl rfl yb1) (cc1 wA (qO 1 12 rfl) (yaf _) (fun w u h1 => yge (by omega) w u ((fun _ _ h => h) _ _ h1))) (yd8 wA (oO 2 13) (yab _))
  intro B6 a6 W6 (S6 : Zt [] [_,_,_,_])
  refine wp_cond_false (S6.bool 0 14 rfl) (wp_skip (inBlkN (thenN ?_)))
  refine wr [V (iV (k0 + 1 : Nat)), V (iV (k0 + 1 : Nat))] [] [.inl 1, .inr 1, .inr 2] S6 ?_ ?_
  ·exact jj2 (yba wA (oS 3 7) (yab _)) (mO 0 15)
  intro B7 a7 W7 (S7 : Zt [] [_,_,_])
  refine thenN ?_
  exact ⟨k0 + 1, ⟨by omega, B7, S7.sub [] [1, 2, 0]⟩, by omega⟩
 ·have ek : k0 = i0 := by omega
  rw [← ek] at hz
  have hp := yd1 hz
  refine wq [kT] [] (.inl 0 :: ur3) S3 ?_ ?_
  ·exact jj1 (ya7 wA (oS 2 7) (oS 1 6))
  intro B4 a4 W4 (S4 : Zt [] [_,_,_,_])
  refine wp_seq (wp_cond_true (S4.bool 0 8 rfl) (wp_skip (thenN (wp_seq (wp_block ?_)))))
  refine wq [V (AtE 4 (yjt k ts k0)), V (yjt k ts k0), .new (.box 31 zR), .put (.inr 2) (.box 31 (yjt k ts k0))] [.inl 2] [.inr 1, .inr 2, .inr 3] S4 ?_ ?_
  ·exact jj4 (axA wA yc8 (oS 1 5) (oS 3 7) (yht (by omega)) rfl) (alC wA ydi (ya2 yak yak) (oO 0 9)) (nwA wA ya5) (puA 2 wA (oO 1 10) yaj ybk (ya2 yak yak))
  intro B5 a5 W5 (S5 : Zt [_] [_,_,_])
  refine wq [V (Part a5 4 2), V (Zv ((ts.getD k0 (0, 0)).2) k), V (Is (.int .i64 ((ts.getD k0 (0, 0)).2).sign)), kT] [] (.inl 3 :: ur3) S5 ?_ ?_
  ·exact jj4 (ptA wA 0 yby) (plA wA (oO 0 11) 0 rfl rfl yb1) (cc1 wA (qO 1 12 rfl) (yaf _) (fun w u h1 => yge (by omega) w u ((fun _ _ h => h) _ _ h1))) (yes wA (oO 2 13) (yab _))
  intro B6 a6 W6 (S6 : Zt [] [_,_,_,_])
  refine wp_cond_true (S6.bool 0 14 rfl) ?_
  refine wq [kF] [] [.inl 0, .inr 1, .inr 2, .inr 3] S6 ?_ ?_
  ·exact jj1 mC
  intro B7 a7 W7 (S7 : Zt [] [_,_,_,_])
  refine wp_ret (inBlkR (thenR (thenR (inBlkR (thenR ?_)))))
  exact yav S7 rfl (yaw S7 0 2 rfl)
theorem zbc {A B : Int} {ka kb : Nat} (hk : ka ≤ 67108864) (hk' : kb ≤ 67108864) : ∀ w u v, Zv A ka u w → Zv B kb v w → CG 81 #[u, v] w (ZN ((Nat.gcd A.natAbs B.natAbs : Nat) : Int)) := by
 rintro w u v ⟨s, p, n, c, xs, rfl, h, rfl, hn⟩ ⟨t, q, m, d, ys, rfl, h', rfl, hm⟩
 rw [sg_abs, sg_abs]
 refine (yxj w s t p q n c m d xs ys h h' (by omega) (by omega)).mono ?_
 rintro e w' ⟨r, cr, rfl, hb, hs, hf⟩
 refine ⟨_, rfl, hb, r, cr, ?_, ?_, hf⟩
 ·rw [zfn, show ng ((Nat.gcd (val xs) (val ys) : Nat) : Int) = false by simp [ng]]
 ·rw [zfn]; exact hs
theorem ywf {a b : Nat} (hb : b ≠ 0) (h : b ∣ a) : fl (a : Int) (b : Int) = ((a / b : Nat) : Int) ∧ rm (a : Int) (b : Int) = 0 := by
 obtain ⟨q, rfl⟩ := h
 rw [Nat.mul_div_cancel_left _ (by omega)]
 exact yx7 (by omega) (zfh b q)
section
variable {ops : Array Oper} {l : List Kd} {bx : Bxs} {sl : List (Tmp × Pr)} {i : Nat} {o : Oper} {Q : Exit → Act → World → Prop} {a0 : Act} {n : Nat} {w0 : World}
end
theorem zci {n k : Nat} {ts : List (Int × Int)} {v : Value} {w : World} (h : QV n ts k v w) {i : Nat} (hi : i < ts.length) : (digs (ts.getD i (0, 0)).1.natAbs).length ≤ k ∧ (digs (ts.getD i (0, 0)).2.natAbs).length ≤ k := by
 obtain ⟨p, c, rfl, hl, hb, ha⟩ := h
 obtain ⟨b, o, u, _, _, _, x0, x1, y0, y1, _, h1, h2⟩ := ha i _ (yht hi)
 exact ⟨yv6 h1, yv6 h2⟩
theorem ylz (ts : List (Int × Int)) : ∀ {a b : Nat}, a ≤ b → dsum ts a ≤ dsum ts b
 | a, 0, h => by rw [show a = 0 by omega]; exact ze5 _
 | a, b + 1, h => by
  rcases zge a (b + 1) with h1 | h1
  ·exact ze6 (ylz ts (show a ≤ b by omega)) (Nat.le_add_right _ _)
  ·rw [show a = b + 1 by omega]; exact ze5 _
theorem yt7 {ts : List (Int × Int)} {M k : Nat} (hk : k < ts.length) : (tlL ts M)[k]? = some (((ts.getD k (0, 0)).1) * (((M / (ts.getD k (0, 0)).2.toNat : Nat) : Int))) := by
 rw [tlL, zfg, zfb hk, ze7, zfb hk]
 rfl
theorem yvb {a : Int} (h : 0 < a) : a.natAbs = a.toNat := by omega
theorem yyv {n k k' : Nat} {A : List (List Int)} (hk : k ≤ k') : ∀ v w, Mv n A k v w → Mv n A k' v w := ye5 (by simp) (fun i φ φ' h1 h2 v w h => by
 obtain ⟨a, ha, rfl⟩ := ya3 h1
 obtain ⟨b, hb, rfl⟩ := ya3 h2
 obtain rfl : a = b := Option.some.inj (ha.symm.trans hb)
 exact ye5 (by simp) (fun i φ φ' h1 h2 v w h => by
  obtain ⟨a', ha', rfl⟩ := ya3 h1
  obtain ⟨b', hb', rfl⟩ := ya3 h2
  obtain rfl : a' = b' := Option.some.inj (ha'.symm.trans hb')
  exact yhd hk v w h) v w h)
theorem ykz {M : Nat} (hM : M ≠ 0) : RN 0 1 = QQ 0 M := by
 rw [qq_1]
 exact yhs (by decide) hM (by simp)
end Go.Proofs.YtbkobojhkhiohaaGreat
