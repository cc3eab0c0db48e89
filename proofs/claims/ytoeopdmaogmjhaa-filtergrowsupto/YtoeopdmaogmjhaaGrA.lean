import Derived.Test.YtoeopdmaogmjhaaAmE
import Derived.Test.YtoeopdmaogmjhaaSetV
import Derived.Test.YtoeopdmaogmjhaaJaD
import Derived.Test.YtoeopdmaogmjhaaAmA
/-
 The law's owns: a list of numbers with memory of its own, handed back as a row.
-/
namespace Go.Proofs.Ytoeopdmaogmjhaa
open Go Go.RowKit Nt
set_option linter.unusedSimpArgs false
set_option linter.unusedVariables false
set_option maxRecDepth 20000

theorem fresh_zos {es : List El} : ∀ (i : Nat) ψ, (es.map El.zo)[i]? = some ψ → Fresh ψ := fun i ψ h => by obtain ⟨e, _, rfl⟩ := map_get h; exact fresh_zo _ _ _

abbrev qauoc0 (w : World) (es : List El) (k0 : Nat) : Rk := .row 29 2 (k0 + 1) (CE 2 (((es.map El.zo).map (· w.heap.size)).take (k0 + 1)))
abbrev qauoc1 (w : World) (es : List El) : Rk := .row 29 2 0 (CE 2 (((es.map El.zo).map (· w.heap.size)).take 0))
set_option maxHeartbeats 400000 in
theorem fowns_w (w : World) (u : Value) (n : Nat) (es : List El) (h : Hs w (Vx n es) u) (hn : n ≤ 1048576) (hC : ∀ (i : Nat) e, es[i]? = some e → e.c ≤ 35184372087808) :
  Calls Try.prog 8 #[u] w (Gives (LFW 29 2 n (es.map El.zo)) w) := by
 have hA : es.length = n := by obtain ⟨p, c, _, hl, _⟩ := h.now; simpa using hl
 refine calls_sta (sl := [(0, (Vx n es))]) Try.func8 rfl Try.ntmps8 (by simp) (args_cons rfl (h) args_nil) ?_
 intro a0 S0
 refine wq [.val (Is (.slice none 0 0))] [] [.inr 0] S0 ?_ ?_
 ·apply jj1
  ·exact mC
 intro _ a1 _ (S1 : Sta w 20 [] [(0, Vx n es)] _ _ _)
 refine wq [.new (qauoc1 w es)] [.inl 0] [.inr 0] S1 ?_ ?_
 ·apply jj1
  ·exact owe_nilrow rfl wA rfl rfl ce_nil
 intro _ a2 _ (S2 : Sta w 20 [(3, (qauoc1 w es))] [(0, Vx n es)] _ _ _)
 refine wp_seq ?_
 refine wq [.val (iV 0)] [.inr 0] [.inl 0, .inr 0] S2 ?_ ?_
 ·apply jj1
  ·exact mC
 intro B3 a3 _ (S3 : Sta w 20 [(3, (qauoc1 w es))] [(4, iV 0), (0, Vx n es)] _ _ _)
 refine wp_block ?_
 refine wp_loop_ghost (fun (k0 : Nat) a W => (k0 ≤ n) ∧ ∃ Bq, Sta w 20 [(3, (.row 29 2 k0 (CE 2 (((es.map El.zo).map (· w.heap.size)).take k0))))] [(4, iV k0), (0, Vx n es)] Bq a W) (fun (k0 : Nat) => n - k0) ?_ 0 ⟨Nat.zero_le _, B3, S3.sub [0] [0, 1]⟩
 rintro k0 a4 _ ⟨hcond, _, S4⟩
 by_cases hlt : k0 < n
 ·obtain ⟨e, he⟩ : ∃ e, es[k0]? = some e := ⟨es[k0]'(by omega), List.getElem?_eq_getElem _⟩
  have hec := hC k0 e he
  have htk : ((es.map El.zo).map (· w.heap.size)).take (k0 + 1) = ((es.map El.zo).map (· w.heap.size)).take k0 ++ [ZO e.s e.n e.xs w.heap.size] := by rw [List.take_add_one, map_get' _ (map_get' _ he)]; rfl
  refine wp_seq ?_
  refine wq [.val (iV k0), .val (Vx n es), .val (iV (n : Nat)), kT] [.inr 0] [.inl 3, .inr 0, .inr 1] S4 ?_ ?_
  ·apply jj4
   ·exact mS 0 4
   ·exact mS 1 0
   ·exact owe_len rfl wA rfl (oO 1 6) ar_len Try.underlying22 rfl
   ·exact b_lss_int_t wA (oO 0 5) (oO 2 7)
  intro B5 a5 W5 (S5 : Sta w 20 [(3, (.row 29 2 k0 (CE 2 (((es.map El.zo).map (· w.heap.size)).take k0))))] [(8, bT), (4, iV k0), (0, Vx n es)] _ _ _)
  refine wp_cond_true (S5.bool 0 8 rfl) (wp_skip (thenN (wp_seq (wp_block ?_))))
  refine wr [.val (Is (a5.eval (.tmp 3))), .val (Vx n es), .val (iV k0), .val (AtE 2 (Zx e.s e.p e.n e.c e.xs)), .val (Zx e.s e.p e.n e.c e.xs), .val ((ZO e.s e.n e.xs) w.heap.size), .val (Sng 29 2 ((ZO e.s e.n e.xs) w.heap.size) w.heap.size), .mov 3 (qauoc0 w es k0), .ref 7] [.inl 8] [.inr 1, .inr 2] S5 ?_ ?_
  ·repeat' refine And.intro ?_ ?_
   ·trivial
   ·exact owe_same rfl wA (Or.inl rfl) (by kernel_rfl) rfl
   ·exact mS 2 0
   ·exact mS 1 4
   ·exact owe_aindex rfl wA rfl idx_ints (oO 1 12) (oO 2 13) (map_get' El.pr he) rfl
   ·exact owe_aload rfl wA rfl ldr_int (by decide) (cel_shp (by decide) shp_zx) (oO 3 14) rfl
   ·exact cc1 wA (qO 4 15 rfl) (fresh_zo _ _ _) (g_own hec)
   ·exact owe_b1 rfl wA rfl bld_int (oO 5 16) (cel_shp (by decide) shp_zo) rfl
   ·exact owe_append rfl wA rfl (oO 0 11) (k := 0) rfl (by kernel_rfl) ((oO 6 17).imp b1_src) einf_int Try.underlying22 (by decide) ⟨by unfold maxLen; omega, by omega⟩ rfl (fun xs ys w h1 h2 => by rw [htk]; exact ce_append xs ys w h1 h2)
   ·exact owe_ref 7 rfl wA (Or.inr rfl) (by kernel_rfl) rfl rfl
  intro B6 a6 W6 (S6 : Sta w 20 [(3, (qauoc0 w es k0))] [(4, iV k0), (0, Vx n es)] _ _ _)
  refine inBlkN (thenN ?_)
  refine wr [.val (iV k0), .val (iV (k0 + 1 : Nat)), .val (iV (k0 + 1 : Nat))] [.inr 0] [.inl 2, .inr 1] S6 ?_ ?_
  ·apply jj3
   ·exact mS 0 4
   ·exact b_add_int wA (oO 0 9) (opnd_const _)
   ·exact mO 1 10
  intro B7 a7 W7 (S7 : Sta w 20 [(3, (qauoc0 w es k0))] [(4, iV (k0 + 1 : Nat)), (0, Vx n es)] _ _ _)
  refine thenN ?_
  exact ⟨k0 + 1, ⟨by omega, B7, S7.sub [0] [0, 1]⟩, by omega⟩
 ·have ek : n = k0 := by omega
  have hend : ((es.map El.zo).map (· w.heap.size)).take k0 = (es.map El.zo).map (· w.heap.size) := List.take_of_length_le (by simp; omega)
  refine wp_seq ?_
  refine wq [.val (iV k0), .val (Vx n es), .val (iV (n : Nat)), kF] [.inr 0] [.inl 3, .inr 0, .inr 1] S4 ?_ ?_
  ·apply jj4
   ·exact mS 0 4
   ·exact mS 1 0
   ·exact owe_len rfl wA rfl (oO 1 6) ar_len Try.underlying22 rfl
   ·exact b_lss_int_f wA (oO 0 5) (oO 2 7)
  intro B5 a5 W5 (S5 : Sta w 20 [(3, (.row 29 2 k0 (CE 2 (((es.map El.zo).map (· w.heap.size)).take k0))))] [(8, bF), (4, iV k0), (0, Vx n es)] _ _ _)
  refine wp_cond_false (S5.bool 0 8 rfl) (wp_exit (thenX (thenX (inBlkE (thenN ?_)))))
  rw [hend, show Rk.row 29 2 k0 (CE 2 ((es.map El.zo).map (· w.heap.size))) = Rk.row 29 2 n (CE 2 ((es.map El.zo).map (· w.heap.size))) from by rw [← ek]] at S5
  obtain ⟨B6, S6⟩ : ∃ Bq, Sta w 20 [] [(3, ((LFW 29 2 n (es.map El.zo)) w.heap.size)), (8, bF), (4, iV k0), (0, Vx n es)] Bq a5 W5 := ⟨_, S5.freezeW 0 rfl (by simp)⟩
  obtain ⟨a6, W6, e1, e2⟩ : ∃ a W, a5 = a ∧ W5 = W := ⟨_, _, rfl, rfl⟩
  rw [e1, e2] at S6 ⊢
  clear e1 e2
  refine wq [.val ((LFW 29 2 n (es.map El.zo)) w.heap.size), .val ((LFW 29 2 n (es.map El.zo)) w.heap.size)] [] [.inl 1, .inr 0, .inr 2, .inr 3] S6 ?_ ?_
  ·apply jj2
   ·exact mS 0 3
   ·exact mO 0 19
  intro B7 a7 W7 (S7 : Sta w 20 [] [(2, ((LFW 29 2 n (es.map El.zo)) w.heap.size)), (3, ((LFW 29 2 n (es.map El.zo)) w.heap.size)), (4, iV k0), (0, Vx n es)] _ _ _)
  refine wp_ret ?_
  exact end_one S7 rfl (res_tmp S7 0 2 rfl)

end Go.Proofs.Ytoeopdmaogmjhaa

/-
 A number more: how a norm grows, which number makes it least, and which numbers keep it within a bound.
-/
namespace Go.Proofs.Ytoeopdmaogmjhaa
open Go Go.RowKit Nt
set_option linter.unusedSimpArgs false
set_option linter.unusedVariables false
set_option maxRecDepth 20000

theorem nx_is {M D1 R : Int} (h : D1 ≠ 0) : (nx M D1 R).1 * (R * D1) = M * (nx M D1 R).2 := by
 rw [nx]
 have hb := (rm_bounds (A := M) h).1
 split
 ·rename_i hr
  rw [hr, Int.add_zero] at hb
  show fl M D1 * (R * D1) = M * R
  generalize fl M D1 = q at hb
  subst hb
  grind
 ·rfl
theorem getD_app {x : List Int} {a : Int} {m j : Nat} (lx : x.length = m) (h : j < m) : (x ++ [a]).getD j 0 = x.getD j 0 := by
 rw [List.getD_eq_getElem?_getD, List.getD_eq_getElem?_getD, List.getElem?_append_left (by omega)]
theorem getD_end {x : List Int} {a : Int} {m : Nat} (lx : x.length = m) : (x ++ [a]).getD m 0 = a := by
 subst lx
 rw [List.getD_eq_getElem?_getD, List.getElem?_append_right (Nat.le_refl _)]
 simp
theorem fW_congr {D sh sh' : List Int} {L : List (List Int)} {n k : Nat} (h : ∀ j, j < k + 1 → sh.getD j 0 = sh'.getD j 0) : fW D sh L n k = fW D sh' L n k := by
 rw [fW, fW, h k (by omega), fbL_congr (fun j hj => h j (by omega))]
theorem fS_congr {D sh sh' : List Int} {L : List (List Int)} {n : Nat} : ∀ k, (∀ j, j < k → sh.getD j 0 = sh'.getD j 0) → fS D sh L n k = fS D sh' L n k
 | 0, _ => rfl
 | k + 1, h => by
  rw [fS, fS, fS_congr k (fun j hj => h j (by omega))]
  have e : fM D sh L n k (fS D sh' L n k) = fM D sh' L n k (fS D sh' L n k) := by rw [fM, fM, fW_congr h]
  rw [e]
theorem shL_pre {x : List Int} {a dn : Int} {τ : List Int} {n m : Nat} (lx : x.length = m) : ∀ k, k ≤ m → shL (x ++ [a]) dn τ n k = shL x dn τ n k
 | 0, _ => rfl
 | k + 1, h => by rw [shL, shL, shL_pre lx k (by omega), getD_app lx (by omega)]
theorem fS_pre {x : List Int} {a dn : Int} {τ D : List Int} {L : List (List Int)} {n m : Nat} (lx : x.length = m) {k : Nat} (hk : k ≤ m) : fS D (shL (x ++ [a]) dn τ n (m + 1)) L n k = fS D (shL x dn τ n m) L n k :=
 fS_congr k (fun j hj => by rw [shL_at (by omega), shL_at (by omega), getD_app lx (by omega)])
/-- A row more, by what the number misses of the centre. -/
theorem fS_grow {x : List Int} {a dn T0 D0 D1 cn cd W : Int} {τ D : List Int} {L : List (List Int)} {n m : Nat} (lx : x.length = m) (hm : m < n) (eT : τ.getD (n - 1 - m) 0 = T0) (eD0 : D.getD (n - 1 - m) 0 = D0) (eD1 : D.getD (n - 1 - m + 1) 0 = D1) (ecn : T0 * D1 - fB (shL x dn τ n m) L n m = cn) (ecd : dn * D1 = cd) (eW : a * cd - cn = W) :
  fS D (shL (x ++ [a]) dn τ n (m + 1)) L n (m + 1) = nx ((fS D (shL x dn τ n m) L n m).1 * D0 + (fS D (shL x dn τ n m) L n m).2 * (W * W)) D1 (fS D (shL x dn τ n m) L n m).2 := by
 rw [← nx_fS (k := m) (m := m + 1) (by omega) (by omega) eD0 eD1 (W := W) ?_ rfl, fS_pre lx (Nat.le_refl _)]
 rw [getD_end lx, eT, shL_pre lx m (Nat.le_refl _), ← eW, ← ecn, ← ecd]
 grind
section
variable {N R D0 D1 N' R' W dn : Int}
theorem sq_nn (d : Int) : 0 ≤ d * d := by rw [← Int.natAbs_mul_self]; exact Int.natCast_nonneg _
theorem gr_up (e : N' * (R * D1) = (N * D0 + R * (W * W)) * R') : N' * (dn * dn * (R * D1)) - N * (dn * dn * (R' * D0)) = dn * dn * R' * R * (W * W) := by
 have h : N' * (dn * dn * (R * D1)) = dn * dn * (N' * (R * D1)) := by grind
 rw [h, e]
 grind
theorem gr_cmp {N1 N2 R1 R2 W1 W2 : Int} (e1 : N1 * (R * D1) = (N * D0 + R * (W1 * W1)) * R1) (e2 : N2 * (R * D1) = (N * D0 + R * (W2 * W2)) * R2) (hR : 0 < R) (hD1 : 0 < D1) (hD0 : 0 < D0) (h1 : 0 < R1) (h2 : 0 < R2) (h : W2 * W2 ≤ W1 * W1) : 0 ≤ N1 * (dn * dn * (R2 * D0)) - N2 * (dn * dn * (R1 * D0)) := by
 have hp : 0 < R * D1 := Int.mul_pos hR hD1
 have key : (N1 * (dn * dn * (R2 * D0)) - N2 * (dn * dn * (R1 * D0))) * (R * D1) = dn * dn * (D0 * (R1 * (R2 * (R * (W1 * W1 - W2 * W2))))) := by
  have a1 : (N1 * (dn * dn * (R2 * D0)) - N2 * (dn * dn * (R1 * D0))) * (R * D1) = (N1 * (R * D1)) * (dn * dn * (R2 * D0)) - (N2 * (R * D1)) * (dn * dn * (R1 * D0)) := by grind
  rw [a1, e1, e2]
  grind
 have hn : 0 ≤ dn * dn * (D0 * (R1 * (R2 * (R * (W1 * W1 - W2 * W2))))) := Int.mul_nonneg (sq_nn dn) (Int.mul_nonneg (Int.le_of_lt hD0) (Int.mul_nonneg (Int.le_of_lt h1) (Int.mul_nonneg (Int.le_of_lt h2) (Int.mul_nonneg (Int.le_of_lt hR) (by omega)))))
 rw [← key] at hn
 exact Int.nonneg_of_mul_nonneg_left hn hp
theorem gr_lf {rn rd : Int} (e : N' * (R * D1) = (N * D0 + R * (W * W)) * R') (eP : rn * (dn * dn * (R' * D0)) = N' * rd) (hp : dn * dn * R' ≠ 0) : (rn * (dn * dn) * (D1 * R) - N * rd) * D0 = W * W * (rd * R) := by
 refine Int.eq_of_mul_eq_mul_right hp ?_
 have a1 : (rn * (dn * dn) * (D1 * R) - N * rd) * D0 * (dn * dn * R') = rn * (dn * dn * (R' * D0)) * (dn * dn * (D1 * R)) - N * rd * D0 * (dn * dn * R') := by grind
 rw [a1, eP]
 have a2 : N' * rd * (dn * dn * (D1 * R)) = (N' * (R * D1)) * (rd * (dn * dn)) := by grind
 rw [a2, e]
 grind
end
theorem fl_mul {q B : Int} (hB : B ≠ 0) : fl (q * B) B = q := (fl_unique hB (Int.add_zero _).symm (fun h => ⟨Int.le_refl _, h⟩) (fun h => ⟨h, Int.le_refl _⟩)).1
theorem le_fl {q A B : Int} (hB : 0 < B) (h : q * B ≤ A) : q ≤ fl A B := by
 rw [fl, if_pos hB]
 exact Int.le_ediv_of_mul_le hB h
theorem rt_sq (W : Int) : ((rt (W * W).natAbs : Nat) : Int) = ((W.natAbs : Nat) : Int) := by
 rw [Int.natAbs_mul, rt_eq (R := W.natAbs) ⟨Nat.le_refl _, by rw [Nat.mul_add, Nat.add_mul]; omega⟩]
/-- All from the least to the greatest; the number is one of both. -/
theorem gr_in {a cn cd W : Int} (hcd : 0 < cd) (eW : a * cd - cn = W) : -fl (((W.natAbs : Nat) : Int) - cn) cd ≤ a ∧ a ≤ fl (cn + ((W.natAbs : Nat) : Int)) cd ∧ (-fl (((W.natAbs : Nat) : Int) - cn) cd = a ∨ a = fl (cn + ((W.natAbs : Nat) : Int)) cd) := by
 have h0 : cd ≠ 0 := by omega
 rcases Int.le_total 0 W with h | h
 ·rw [Int.natAbs_of_nonneg h, show cn + W = a * cd by omega, fl_mul h0]
  have h1 : -a ≤ fl (W - cn) cd := le_fl hcd (by rw [Int.neg_mul]; omega)
  exact ⟨by omega, Int.le_refl _, Or.inr rfl⟩
 ·rw [Int.ofNat_natAbs_of_nonpos h, show -W - cn = -a * cd by rw [Int.neg_mul]; omega, fl_mul h0]
  have h1 : a ≤ fl (cn + -W) cd := le_fl hcd (by omega)
  exact ⟨by omega, h1, Or.inl (by omega)⟩
/-- Nearest misses least. -/
theorem gr_off {A B z a : Int} (h : 2 * (((z * B - A).natAbs : Nat) : Int) ≤ ((B.natAbs : Nat) : Int)) : (z * B - A) * (z * B - A) ≤ (a * B - A) * (a * B - A) := by
 have h1 : (z * B - A).natAbs ≤ (a * B - A).natAbs := by
  by_cases hz : a = z
  ·rw [hz]; exact Nat.le_refl _
  ·have e : a * B - A = (z * B - A) + (a - z) * B := by grind
   have h2 : B.natAbs ≤ ((a - z) * B).natAbs := by
    rw [Int.natAbs_mul]
    exact Nat.le_mul_of_pos_left _ (by omega)
   rw [e]
   omega
 have h2 := Nat.mul_le_mul h1 h1
 rw [← Int.natAbs_mul_self (a := z * B - A), ← Int.natAbs_mul_self (a := a * B - A)]
 exact Int.ofNat_le.2 h2
/-- The nearest to a fraction in lowest terms is the nearest to the fraction. -/
theorem gr_low {P : Int} {Q D : Nat} {n z : Int} (hQ : Q ≠ 0) (hD : D ≠ 0) (e : n * (Q : Int) = P * (D : Int)) (h : 2 * (((z * (D : Int) - n).natAbs : Nat) : Int) ≤ (((D : Int).natAbs : Nat) : Int)) : 2 * (((z * (Q : Int) - P).natAbs : Nat) : Int) ≤ (((Q : Int).natAbs : Nat) : Int) := by
 have a1 : (z * (Q : Int) - P) * (D : Int) = (z * (D : Int) - n) * (Q : Int) := by
  rw [Int.sub_mul, Int.sub_mul, e]
  grind
 have a2 : (z * (Q : Int) - P).natAbs * D = (z * (D : Int) - n).natAbs * Q := by
  have := congrArg Int.natAbs a1
  rwa [Int.natAbs_mul, Int.natAbs_mul, Int.natAbs_natCast, Int.natAbs_natCast] at this
 rw [Int.natAbs_natCast] at h ⊢
 have a3 : 2 * (z * (D : Int) - n).natAbs ≤ D := by omega
 have a4 : (2 * (z * (Q : Int) - P).natAbs) * D ≤ Q * D := by
  rw [Nat.mul_assoc, a2, ← Nat.mul_assoc, Nat.mul_comm Q D]
  exact Nat.mul_le_mul_right _ a3
 have a5 := Nat.le_of_mul_le_mul_right a4 (by omega)
 omega
end Go.Proofs.Ytoeopdmaogmjhaa

/-
 How long a norm's numbers are, by the lengths of all the data.
-/
namespace Go.Proofs.Ytoeopdmaogmjhaa
open Go Go.RowKit Nt
set_option linter.unusedSimpArgs false
set_option linter.unusedVariables false
set_option maxRecDepth 20000

theorem nx_dl {M D1 R : Int} {k r d : Nat} (h : D1 ≠ 0) (hM : (digs M.natAbs).length ≤ k) (hR : (digs R.natAbs).length ≤ r) (hD : (digs D1.natAbs).length ≤ d) : (digs (nx M D1 R).1.natAbs).length ≤ k ∧ (digs (nx M D1 R).2.natAbs).length ≤ r + d := by
 rw [nx]
 have hb := (rm_bounds (A := M) h).1
 split
 ·rename_i hr
  rw [hr, Int.add_zero] at hb
  refine ⟨Nat.le_trans (digs_length_mono ?_) hM, by show (digs R.natAbs).length ≤ _; omega⟩
  show (fl M D1).natAbs ≤ _
  rw [hb, Int.natAbs_mul]
  refine Nat.le_trans ?_ (Nat.mul_le_mul_left _ (show 1 ≤ D1.natAbs by omega))
  rw [Nat.mul_one, ← hb]
  exact Nat.le_refl _
 ·exact ⟨hM, dl_mul hR hD⟩
theorem fS_nx {D sh : List Int} {L : List (List Int)} {n k : Nat} : fS D sh L n (k + 1) = nx (fM D sh L n k (fS D sh L n k)) (D.getD (n - 1 - k + 1) 0) (fS D sh L n k).2 := by
 rw [fS, nx]
theorem wtD_s (D : List Int) (k : Nat) : wtD D (k + 1) = wtD D k + (digs (D.getD k 0).natAbs).length := rfl
theorem fS_wt {D sh : List Int} {L : List (List Int)} (g : Good D L) {Kd Ks n m W : Nat} (hn : n = L.length) (hm : m ≤ n) (hD : Dl D Kd) (hL : Mdl L Kd) (hs : Dl sh Ks) (hW : Ks + Kd + m + 1 ≤ W) : ∀ k, k ≤ m → (digs (fS D sh L n k).2.natAbs).length + wtD D (n + 1 - k) ≤ 1 + wtD D (n + 1) ∧ (digs (fS D sh L n k).1.natAbs).length + wtD D (n - k) ≤ 2 * W + 2 + wtD D (n + 1) + wtD D n + k
 | 0, _ => ⟨by show (digs (1 : Int).natAbs).length + _ ≤ _; have : (digs (1 : Int).natAbs).length ≤ 1 := one_dl; simp only [Nat.sub_zero]; omega, by show (digs (0 : Int).natAbs).length + _ ≤ _; rw [show (0 : Int).natAbs = 0 from rfl, digs_zero]; simp only [Nat.sub_zero, List.length_nil]; omega⟩
 | k + 1, h => by
  obtain ⟨h1, h2⟩ := fS_wt (sh := sh) g hn hm hD hL hs hW k (by omega)
  have hw : (digs (fW D sh L n k).natAbs).length ≤ W := Nat.le_trans (fW_dl hD hL hs) (by omega)
  have hm1 : D.getD (n - 1 - k + 1) 0 ≠ 0 := Int.ne_of_gt (g.d _ (by have := g.len; omega))
  have w1 : wtD D (n + 1 - k) = wtD D (n + 1 - (k + 1)) + (digs (D.getD (n - 1 - k + 1) 0).natAbs).length := by
   rw [show n + 1 - k = (n + 1 - (k + 1)) + 1 by omega, wtD_s, show n + 1 - (k + 1) = n - 1 - k + 1 by omega]
  have w2 : wtD D (n - k) = wtD D (n - (k + 1)) + (digs (D.getD (n - 1 - k) 0).natAbs).length := by
   rw [show n - k = (n - (k + 1)) + 1 by omega, wtD_s, show n - (k + 1) = n - 1 - k by omega]
  have w3 : wtD D n ≤ wtD D (n + 1) := by rw [wtD_s]; omega
  have w4 : wtD D (n - (k + 1)) ≤ wtD D n := by
   have : ∀ a b, a ≤ b → wtD D a ≤ wtD D b := fun a b hab => by
    induction hab with
    | refl => exact Nat.le_refl _
    | step _ ih => rw [wtD_s]; omega
   exact this _ _ (by omega)
  have m1 : (digs (fM D sh L n k (fS D sh L n k)).natAbs).length ≤ (2 * W + 2 + wtD D (n + 1) + wtD D n + k - wtD D (n - (k + 1))) + 1 := by
   refine dl_add (Nat.le_trans (dl_mul (Nat.le_refl _) (Nat.le_refl _)) (by omega)) (Nat.le_trans (dl_mul (Nat.le_refl _) (dl_mul hw hw)) (by omega))
  obtain ⟨q1, q2⟩ := nx_dl (R := (fS D sh L n k).2) hm1 m1 (Nat.le_refl _) (Nat.le_refl _)
  rw [fS_nx]
  exact ⟨by omega, by omega⟩
/-- The nearest is no longer than the numerator. -/
theorem near_dl {A z : Int} {B k : Nat} (hB : B ≠ 0) (h : 2 * (((z * (B : Int) - A).natAbs : Nat) : Int) ≤ (((B : Int).natAbs : Nat) : Int)) (hA : (digs A.natAbs).length ≤ k) : (digs z.natAbs).length ≤ k := by
 refine Nat.le_trans (digs_length_mono ?_) hA
 rw [Int.natAbs_natCast] at h
 have h1 : z.natAbs * B = (z * (B : Int)).natAbs := by rw [Int.natAbs_mul, Int.natAbs_natCast]
 have h2 : 2 * (z.natAbs * B) ≤ 2 * A.natAbs + B := by rw [h1]; omega
 rcases Nat.lt_or_ge A.natAbs z.natAbs with hl | hl
 ·exfalso
  have h3 : (A.natAbs + 1) * B ≤ z.natAbs * B := Nat.mul_le_mul_right _ hl
  rw [Nat.add_mul, Nat.one_mul] at h3
  have h4 : A.natAbs ≤ A.natAbs * B := Nat.le_mul_of_pos_right _ (by omega)
  omega
 ·exact hl
theorem near_offF {A B : Int} (hB : B ≠ 0) : 2 * (((nr A B * B - A).natAbs : Nat) : Int) ≤ ((B.natAbs : Nat) : Int) := by
 have h2 : (2 * B) ≠ 0 := by omega
 have rb := rm_bounds (A := 2 * A + B) h2
 have e : fl (2 * A + B) (2 * B) = nr A B := rfl
 rw [e] at rb
 have e3 : nr A B * (2 * B) = 2 * (nr A B * B) := by rw [Int.mul_left_comm]
 rw [e3] at rb
 generalize nr A B * B = z at *
 generalize rm (2 * A + B) (2 * B) = r at *
 rcases Int.lt_trichotomy B 0 with h | h | h
 ·have := rb.2.2 (by omega); omega
 ·exact absurd h hB
 ·have := rb.2.1 (by omega); omega
end Go.Proofs.Ytoeopdmaogmjhaa
