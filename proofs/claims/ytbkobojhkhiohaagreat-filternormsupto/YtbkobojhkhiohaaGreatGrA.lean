import Derived.Test.YtbkobojhkhiohaaGreatJaD
set_option linter.all false
namespace Go.Proofs.YtbkobojhkhiohaaGreat
open Go Go.RowKit Nt
set_option maxRecDepth 20000
set_option maxHeartbeats 16000000
theorem yrv {es : List El} : ∀ (i : Nat) ψ, (es.map El.zo)[i]? = some ψ → Fresh ψ := fun i ψ h => by obtain ⟨e, _, rfl⟩ := ya3 h; exact yex _ _ _
theorem yrt (w : World) (u : Value) (n : Nat) (es : List El) (h : Hs w (Vx n es) u) (hn : n ≤ 1048576) (hC : ∀ (i : Nat) e, es[i]? = some e → e.c ≤ 35184372087808) :
  CG 8 #[u] w (LFW 29 2 n (es.map El.zo)) := by
 have hA : es.length = n := by obtain ⟨p, c, _, hl, _⟩ := h.now; simpa using hl
 refine yan (sl := [(0, (Vx n es))]) Tryz.func8 rfl Tryz.ntmps8 (by simp) (yad rfl (h) yar) ?_
 intro a0 S0
 refine wq [V (Is (.slice none 0 0))] [] [.inr 0] S0 ?_ ?_
 ·exact jj1 mC
 intro _ a1 _ (S1 : Zt [] [_])
 refine wq [.new (.row 29 2 0 (CE 2 (((es.map El.zo).map (· w.heap.size)).take 0)))] [.inl 0] [.inr 0] S1 ?_ ?_
 ·exact jj1 (yg5 rfl wA rfl rfl yoo)
 intro _ a2 _ (S2 : Zt [_] [_])
 refine wp_seq ?_
 refine wq [V (iV 0)] [.inr 0] [.inl 0, .inr 0] S2 ?_ ?_
 ·exact jj1 mC
 intro B3 a3 _ (S3 : Zt [_] [_,_])
 refine wp_block ?_
 refine ya8 (fun (k0 : Nat) a W => (k0 ≤ n) ∧ ∃ Bq, Sta w 20 [(3, (.row 29 2 k0 (CE 2 (((es.map El.zo).map (· w.heap.size)).take k0))))] [(4, iV k0), (0, Vx n es)] Bq a W) (fun (k0 : Nat) => n - k0) ?_ 0 ⟨zfq _, B3, S3.sub [0] [0, 1]⟩
 rintro k0 a4 _ ⟨hcond, _, S4⟩
 by_cases hlt : k0 < n
 ·obtain ⟨e, he⟩ : ∃ e, es[k0]? = some e := ⟨es[k0]'(by omega), zfb _⟩
  have hec := hC k0 e he
  have htk : ((es.map El.zo).map (· w.heap.size)).take (k0 + 1) = ((es.map El.zo).map (· w.heap.size)).take k0 ++ [ZO e.s e.n e.xs w.heap.size] := by rw [zg7, yb6 _ (yb6 _ he)]; rfl
  refine wp_seq ?_
  refine wq [V (iV k0), V (Vx n es), V (iV (n : Nat)), kT] [.inr 0] (.inl 3 :: ur2) S4 ?_ ?_
  ·exact jj4 (mS 0 4) (mS 1 0) (lnA wA (oO 1 6) Tryz.underlying22) (ya7 wA (oO 0 5) (oO 2 7))
  intro B5 a5 W5 (S5 : Zt [_] [_,_,_])
  refine wp_cond_true (S5.bool 0 8 rfl) (wp_skip (thenN (wp_seq (wp_block ?_))))
  refine wr [V (Is (a5.eval (.tmp 3))), V (Vx n es), V (iV k0), V (AtE 2 (Zx e.s e.p e.n e.c e.xs)), V (Zx e.s e.p e.n e.c e.xs), Fw (ZO e.s e.n e.xs) w, V (Sng 29 2 ((ZO e.s e.n e.xs) w.heap.size) w.heap.size), .mov 3 (.row 29 2 (k0 + 1) (CE 2 (((es.map El.zo).map (· w.heap.size)).take (k0 + 1)))), .ref 7] [.inl 8] [.inr 1, .inr 2] S5 ?_ ?_
  ·exact ⟨jj8 (yfz rfl wA (Or.inl rfl) (by kernel_rfl) rfl) (mS 2 0) (mS 1 4) (axA wA ybr (oO 1 12) (oO 2 13) (yb6 El.pr he) rfl) (alC wA ya9 ycm (oO 3 14)) (cc1 wA (qO 4 15 rfl) (yex _ _ _) (yyb hec)) (yhi rfl wA rfl ynh (oO 5 16) (yc0 (by decide) ymz) rfl) (yg4 rfl wA rfl (oO 0 11) (k := 0) rfl (by kernel_rfl) ((oO 6 17).imp ylt) yhy Tryz.underlying22 (by decide) ⟨by unfold maxLen; omega, by omega⟩ rfl (fun xs ys w h1 h2 => by rw [htk]; exact ye9 xs ys w h1 h2)), ygg 7 rfl wA (Or.inr rfl) (by kernel_rfl) rfl rfl⟩
  intro B6 a6 W6 (S6 : Zt [_] [_,_])
  refine inBlkN (thenN ?_)
  refine wr [V (iV k0), V (iV (k0 + 1 : Nat)), V (iV (k0 + 1 : Nat))] [.inr 0] [.inl 2, .inr 1] S6 ?_ ?_
  ·exact jj3 (mS 0 4) (yba wA (oO 0 9) (yab _)) (mO 1 10)
  intro B7 a7 W7 (S7 : Zt [_] [_,_])
  refine thenN ?_
  exact ⟨k0 + 1, ⟨by omega, B7, S7.sub [0] [0, 1]⟩, by omega⟩
 ·have ek : n = k0 := by omega
  have hend : ((es.map El.zo).map (· w.heap.size)).take k0 = (es.map El.zo).map (· w.heap.size) := ze9 (by simp; omega)
  refine wp_seq ?_
  refine wq [V (iV k0), V (Vx n es), V (iV (n : Nat)), kF] [.inr 0] (.inl 3 :: ur2) S4 ?_ ?_
  ·exact jj4 (mS 0 4) (mS 1 0) (lnA wA (oO 1 6) Tryz.underlying22) (ybl wA (oO 0 5) (oO 2 7))
  intro B5 a5 W5 (S5 : Sta w 20 [(3, (.row 29 2 k0 (CE 2 (((es.map El.zo).map (· w.heap.size)).take k0))))] [(8, bF), (4, iV k0), (0, Vx n es)] _ _ _)
  refine wp_cond_false (S5.bool 0 8 rfl) (wp_exit (thenX (thenX (inBlkE (thenN ?_)))))
  rw [hend, show Rk.row 29 2 k0 (CE 2 ((es.map El.zo).map (· w.heap.size))) = Rk.row 29 2 n (CE 2 ((es.map El.zo).map (· w.heap.size))) from by rw [← ek]] at S5
  obtain ⟨B6, S6⟩ : ∃ Bq, Sta w 20 [] [(3, ((LFW 29 2 n (es.map El.zo)) w.heap.size)), (8, bF), (4, iV k0), (0, Vx n es)] Bq a5 W5 := ⟨_, S5.freezeW 0 rfl (by simp)⟩
  obtain ⟨a6, W6, e1, e2⟩ : ∃ a W, a5 = a ∧ W5 = W := ⟨_, _, rfl, rfl⟩
  rw [e1, e2] at S6 ⊢
  clear e1 e2
  refine wq [Fw (LFW 29 2 n (es.map El.zo)) w, Fw (LFW 29 2 n (es.map El.zo)) w] [] [.inl 1, .inr 0, .inr 2, .inr 3] S6 ?_ ?_
  ·exact jj2 (mS 0 3) (mO 0 19)
  intro B7 a7 W7 (S7 : Zt [] [_,_,_,_])
  refine wp_ret ?_
  exact yav S7 rfl (yaw S7 0 2 rfl)
theorem zb5 {M D1 R : Int} (h : D1 ≠ 0) : (nx M D1 R).1 * (R * D1) = M * (nx M D1 R).2 := by
 rw [nx]
 have hb := (yfj (A := M) h).1
 split
 ·rename_i hr
  rw [hr, Int.add_zero] at hb
  show fl M D1 * (R * D1) = M * R
  generalize fl M D1 = q at hb
  subst hb
  grind
 ·rfl
theorem yh0 {x : List Int} {a : Int} {m j : Nat} (lx : x.length = m) (h : j < m) : (x ++ [a]).getD j 0 = x.getD j 0 := by
 rw [ze7, ze7, zfm (by omega)]
theorem ykk {x : List Int} {a : Int} {m : Nat} (lx : x.length = m) : (x ++ [a]).getD m 0 = a := by
 subst lx
 rw [ze7, zff (ze5 _)]
 simp
theorem you {D sh sh' : List Int} {L : List (List Int)} {n k : Nat} (h : ∀ j, j < k + 1 → sh.getD j 0 = sh'.getD j 0) : fW D sh L n k = fW D sh' L n k := by
 rw [fW, fW, h k (by omega), ygl (fun j hj => h j (by omega))]
theorem yot {D sh sh' : List Int} {L : List (List Int)} {n : Nat} : ∀ k, (∀ j, j < k → sh.getD j 0 = sh'.getD j 0) → fS D sh L n k = fS D sh' L n k
 | 0, _ => rfl
 | k + 1, h => by
  rw [fS, fS, yot k (fun j hj => h j (by omega))]
  have e : fM D sh L n k (fS D sh' L n k) = fM D sh' L n k (fS D sh' L n k) := by rw [fM, fM, you h]
  rw [e]
theorem ytt {x : List Int} {a dn : Int} {τ : List Int} {n m : Nat} (lx : x.length = m) : ∀ k, k ≤ m → shL (x ++ [a]) dn τ n k = shL x dn τ n k
 | 0, _ => rfl
 | k + 1, h => by rw [shL, shL, ytt lx k (by omega), yh0 lx (by omega)]
theorem yrs {x : List Int} {a dn : Int} {τ D : List Int} {L : List (List Int)} {n m : Nat} (lx : x.length = m) {k : Nat} (hk : k ≤ m) : fS D (shL (x ++ [a]) dn τ n (m + 1)) L n k = fS D (shL x dn τ n m) L n k :=
 yot k (fun j hj => by rw [yfl (by omega), yfl (by omega), yh0 lx (by omega)])
theorem yx6 {x : List Int} {a dn T0 D0 D1 cn cd W : Int} {τ D : List Int} {L : List (List Int)} {n m : Nat} (lx : x.length = m) (hm : m < n) (eT : τ.getD (n - 1 - m) 0 = T0) (eD0 : D.getD (n - 1 - m) 0 = D0) (eD1 : D.getD (n - 1 - m + 1) 0 = D1) (ecn : T0 * D1 - fB (shL x dn τ n m) L n m = cn) (ecd : dn * D1 = cd) (eW : a * cd - cn = W) :
  fS D (shL (x ++ [a]) dn τ n (m + 1)) L n (m + 1) = nx ((fS D (shL x dn τ n m) L n m).1 * D0 + (fS D (shL x dn τ n m) L n m).2 * (W * W)) D1 (fS D (shL x dn τ n m) L n m).2 := by
 rw [← zb4 (k := m) (m := m + 1) (by omega) (by omega) eD0 eD1 (W := W) ?_ rfl, yrs lx (ze5 _)]
 rw [ykk lx, eT, ytt lx m (ze5 _), ← eW, ← ecn, ← ecd]
 grind
section
variable {N R D0 D1 N' R' W dn : Int}
theorem zc8 (d : Int) : 0 ≤ d * d := by rw [← zir]; exact Int.natCast_nonneg _
end
theorem za3 {q B : Int} (hB : B ≠ 0) : fl (q * B) B = q := (yfe hB (Int.add_zero _).symm (fun h => ⟨zi3 _, h⟩) (fun h => ⟨h, zi3 _⟩)).1
theorem zbj {A B z a : Int} (h : 2 * (((z * B - A).natAbs : Nat) : Int) ≤ ((B.natAbs : Nat) : Int)) : (z * B - A) * (z * B - A) ≤ (a * B - A) * (a * B - A) := by
 have h1 : (z * B - A).natAbs ≤ (a * B - A).natAbs := by
  by_cases hz : a = z
  ·rw [hz]; exact ze5 _
  ·have e : a * B - A = (z * B - A) + (a - z) * B := by grind
   have h2 : B.natAbs ≤ ((a - z) * B).natAbs := by
    rw [zft]
    exact Nat.le_mul_of_pos_left _ (by omega)
   rw [e]
   omega
 have h2 := zgr h1 h1
 rw [← zir (a := z * B - A), ← zir (a := a * B - A)]
 exact Int.ofNat_le.2 h2
theorem zbi {P : Int} {Q D : Nat} {n z : Int} (hQ : Q ≠ 0) (hD : D ≠ 0) (e : n * (Q : Int) = P * (D : Int)) (h : 2 * (((z * (D : Int) - n).natAbs : Nat) : Int) ≤ (((D : Int).natAbs : Nat) : Int)) : 2 * (((z * (Q : Int) - P).natAbs : Nat) : Int) ≤ (((Q : Int).natAbs : Nat) : Int) := by
 have a1 : (z * (Q : Int) - P) * (D : Int) = (z * (D : Int) - n) * (Q : Int) := by
  rw [Int.sub_mul, Int.sub_mul, e]
  grind
 have a2 : (z * (Q : Int) - P).natAbs * D = (z * (D : Int) - n).natAbs * Q := by
  have := congrArg Int.natAbs a1
  rwa [zft, zft, zfn, zfn] at this
 rw [zfn] at h ⊢
 have a3 : 2 * (z * (D : Int) - n).natAbs ≤ D := by omega
 have a4 : (2 * (z * (Q : Int) - P).natAbs) * D ≤ Q * D := by
  rw [zfe, a2, ← zfe, ze8 Q D]
  exact zfj _ a3
 have a5 := Nat.le_of_mul_le_mul_right a4 (by omega)
 omega
theorem zb3 {M D1 R : Int} {k r d : Nat} (h : D1 ≠ 0) (hM : (digs M.natAbs).length ≤ k) (hR : (digs R.natAbs).length ≤ r) (hD : (digs D1.natAbs).length ≤ d) : (digs (nx M D1 R).1.natAbs).length ≤ k ∧ (digs (nx M D1 R).2.natAbs).length ≤ r + d := by
 rw [nx]
 have hb := (yfj (A := M) h).1
 split
 ·rename_i hr
  rw [hr, Int.add_zero] at hb
  refine ⟨ze6 (yae ?_) hM, by show (digs R.natAbs).length ≤ _; omega⟩
  show (fl M D1).natAbs ≤ _
  rw [hb, zft]
  refine ze6 ?_ (zfk _ (show 1 ≤ D1.natAbs by omega))
  rw [zgv, ← hb]
  exact ze5 _
 ·exact ⟨hM, yco hR hD⟩
theorem zaw {D sh : List Int} {L : List (List Int)} {n k : Nat} : fS D sh L n (k + 1) = nx (fM D sh L n k (fS D sh L n k)) (D.getD (n - 1 - k + 1) 0) (fS D sh L n k).2 := by
 rw [fS, nx]
theorem yuc (D : List Int) (k : Nat) : wtD D (k + 1) = wtD D k + (digs (D.getD k 0).natAbs).length := rfl
theorem zax {D sh : List Int} {L : List (List Int)} (g : Good D L) {Kd Ks n m W : Nat} (hn : n = L.length) (hm : m ≤ n) (hD : Dl D Kd) (hL : Mdl L Kd) (hs : Dl sh Ks) (hW : Ks + Kd + m + 1 ≤ W) : ∀ k, k ≤ m → (digs (fS D sh L n k).2.natAbs).length + wtD D (n + 1 - k) ≤ 1 + wtD D (n + 1) ∧ (digs (fS D sh L n k).1.natAbs).length + wtD D (n - k) ≤ 2 * W + 2 + wtD D (n + 1) + wtD D n + k
 | 0, _ => ⟨by show (digs (1 : Int).natAbs).length + _ ≤ _; have : (digs (1 : Int).natAbs).length ≤ 1 := yhh; simp only [zhw]; omega, by show (digs (0 : Int).natAbs).length + _ ≤ _; rw [show (0 : Int).natAbs = 0 from rfl, yc1]; simp only [zhw, zit]; omega⟩
 | k + 1, h => by
  obtain ⟨h1, h2⟩ := zax (sh := sh) g hn hm hD hL hs hW k (by omega)
  have hw : (digs (fW D sh L n k).natAbs).length ≤ W := ze6 (zay hD hL hs) (by omega)
  have hm1 : D.getD (n - 1 - k + 1) 0 ≠ 0 := Int.ne_of_gt (g.d _ (by have := g.len; omega))
  have w1 : wtD D (n + 1 - k) = wtD D (n + 1 - (k + 1)) + (digs (D.getD (n - 1 - k + 1) 0).natAbs).length := by
   rw [show n + 1 - k = (n + 1 - (k + 1)) + 1 by omega, yuc, show n + 1 - (k + 1) = n - 1 - k + 1 by omega]
  have w2 : wtD D (n - k) = wtD D (n - (k + 1)) + (digs (D.getD (n - 1 - k) 0).natAbs).length := by
   rw [show n - k = (n - (k + 1)) + 1 by omega, yuc, show n - (k + 1) = n - 1 - k by omega]
  have w3 : wtD D n ≤ wtD D (n + 1) := by rw [yuc]; omega
  have w4 : wtD D (n - (k + 1)) ≤ wtD D n := by
   have : ∀ a b, a ≤ b → wtD D a ≤ wtD D b := fun a b hab => by
    induction hab with
    | refl => exact ze5 _
    | step _ ih => rw [yuc]; omega
   exact this _ _ (by omega)
  have m1 : (digs (fM D sh L n k (fS D sh L n k)).natAbs).length ≤ (2 * W + 2 + wtD D (n + 1) + wtD D n + k - wtD D (n - (k + 1))) + 1 := by
   refine yf5 (ze6 (yco (ze5 _) (ze5 _)) (by omega)) (ze6 (yco (ze5 _) (yco hw hw)) (by omega))
  obtain ⟨q1, q2⟩ := zb3 (R := (fS D sh L n k).2) hm1 m1 (ze5 _) (ze5 _)
  rw [zaw]
  exact ⟨by omega, by omega⟩
theorem yyw {A z : Int} {B k : Nat} (hB : B ≠ 0) (h : 2 * (((z * (B : Int) - A).natAbs : Nat) : Int) ≤ (((B : Int).natAbs : Nat) : Int)) (hA : (digs A.natAbs).length ≤ k) : (digs z.natAbs).length ≤ k := by
 refine ze6 (yae ?_) hA
 rw [zfn] at h
 have h1 : z.natAbs * B = (z * (B : Int)).natAbs := by rw [zft, zfn]
 have h2 : 2 * (z.natAbs * B) ≤ 2 * A.natAbs + B := by rw [h1]; omega
 rcases zge A.natAbs z.natAbs with hl | hl
 ·exfalso
  have h3 : (A.natAbs + 1) * B ≤ z.natAbs * B := zfj _ hl
  rw [zfo, zgf] at h3
  have h4 : A.natAbs ≤ A.natAbs * B := zh4 _ (by omega)
  omega
 ·exact hl
theorem ysg {A B : Int} (hB : B ≠ 0) : 2 * (((nr A B * B - A).natAbs : Nat) : Int) ≤ ((B.natAbs : Nat) : Int) := by
 have h2 : (2 * B) ≠ 0 := by omega
 have rb := yfj (A := 2 * A + B) h2
 have e : fl (2 * A + B) (2 * B) = nr A B := rfl
 rw [e] at rb
 have e3 : nr A B * (2 * B) = 2 * (nr A B * B) := by rw [Int.mul_left_comm]
 rw [e3] at rb
 generalize nr A B * B = z at *
 generalize rm (2 * A + B) (2 * B) = r at *
 rcases zig B 0 with h | h | h
 ·have := rb.2.2 (by omega); omega
 ·exact absurd h hB
 ·have := rb.2.1 (by omega); omega
theorem yws {z : Int} {k : Nat} (h : 0 < z) (hz : (digs z.natAbs).length ≤ k) : z = ((z.toNat : Nat) : Int) ∧ z.toNat ≠ 0 ∧ (digs z.toNat).length ≤ k := by
 refine ⟨(Int.toNat_of_nonneg (zhe h)).symm, by omega, ?_⟩
 rw [show z.toNat = z.natAbs by omega]
 exact hz
theorem zaq {x : List Int} {a : Int} {k : Nat} (hx : Dl x k) (ha : (digs a.natAbs).length ≤ k) : Dl (x ++ [a]) k := fun i z hz => by
 rcases zge i x.length with h | h
 ·rw [zfm h] at hz
  exact hx i z hz
 ·rw [zff h] at hz
  match i - x.length, hz with
  | 0, hz => simp at hz; subst hz; exact ha
  | j + 1, hz => simp at hz
section
variable {D : List Int} {L : List (List Int)} {x τ : List Int} {dn T0 D0 D1 cn cd : Int} {nL m : Nat}
end
end Go.Proofs.YtbkobojhkhiohaaGreat
