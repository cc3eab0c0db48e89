import Derived.Test.YtoeopdmaogmjhaaJaA
import Derived.Test.YtoeopdmaogmjhaaDtA
import Derived.Test.YtoeopdmaogmjhaaHxA
import Derived.Test.YtoeopdmaogmjhaaGsD
import Derived.Test.YtoeopdmaogmjhaaGsA
/-
 One row more beside a basis: its data, how long they are, by how much of each row one comes to it.
-/
namespace Go.Proofs.Ytoeopdmaogmjhaa
open Go Go.RowKit Nt
set_option linter.unusedSimpArgs false
set_option linter.unusedVariables false
set_option maxRecDepth 20000

section
variable {G : Nat → Nat → Int} {n t E F : Nat}
end

/-- The basis and the row behind it. -/
abbrev bxT (Bm : List (List Int)) (T : List Int) : List (List Int) := Bm ++ [T]
theorem bx_lo {Bm : List (List Int)} {T : List Int} {j : Nat} (hj : j < Bm.length) : (bxT Bm T).getD j [] = Bm.getD j [] := by rw [getD_snoc, if_pos hj]
theorem grx_lo {Bm : List (List Int)} {T : List Int} {r c : Nat} (hr : r < Bm.length) (hc : c < Bm.length) : gr (bxT Bm T) r c = gr Bm r c := by unfold gr; rw [bx_lo hr, bx_lo hc]
theorem box {Bm : List (List Int)} {T : List Int} {k i j : Nat} (hk : k < Bm.length) (hi : i < Bm.length) (hj : j < Bm.length) : Dt.bo (gr (bxT Bm T)) k i j = Dt.bo (gr Bm) k i j := Dt.det_congr (fun r c hr hc => grx_lo (by split <;> omega) (by split <;> omega))
/-! Rationals over one denominator. -/
/-- The least number that the denominators of the first k divide. -/
def cmN (ts : List (Int × Int)) : Nat → Nat
 | 0 => 1
 | k + 1 => cmN ts k * ((ts.getD k (0, 0)).2.toNat / Nat.gcd (cmN ts k) (ts.getD k (0, 0)).2.toNat)
/-- All denominators are above 0. -/
def DenOk (ts : List (Int × Int)) : Prop := ∀ k, k < ts.length → 0 < (ts.getD k (0, 0)).2
theorem gcd_dv (a b : Nat) : Nat.gcd a b * (b / Nat.gcd a b) = b := Nat.mul_div_cancel' (Nat.gcd_dvd_right a b)
theorem cm_ne {ts : List (Int × Int)} (h : DenOk ts) : ∀ k, k ≤ ts.length → cmN ts k ≠ 0
 | 0, _ => Nat.one_ne_zero
 | k + 1, hk => by
  have h1 := cm_ne h k (by omega)
  have h2 := h k (by omega)
  have h3 := gcd_dv (cmN ts k) (ts.getD k (0, 0)).2.toNat
  refine Nat.mul_ne_zero h1 (fun e => ?_)
  rw [e, Nat.mul_zero] at h3
  omega
theorem cm_dvd {ts : List (Int × Int)} : ∀ k j, j < k → k ≤ ts.length → (ts.getD j (0, 0)).2.toNat ∣ cmN ts k
  | k + 1, j, hj, hk => by
    rcases Nat.lt_or_ge j k with h1 | h1
    · exact Nat.dvd_trans (cm_dvd k j h1 (by omega)) (Nat.dvd_mul_right _ _)
    · have e : j = k := by omega
      subst e
      rw [cmN]
      generalize (ts.getD j (0, 0)).2.toNat = d
      obtain ⟨q, hq⟩ := Nat.gcd_dvd_left (cmN ts j) d
      have h3 := gcd_dv (cmN ts j) d
      refine ⟨q, ?_⟩
      calc cmN ts j * (d / Nat.gcd (cmN ts j) d) = (Nat.gcd (cmN ts j) d * (d / Nat.gcd (cmN ts j) d)) * q := by
            conv => lhs; rw [hq]
            rw [Nat.mul_assoc, Nat.mul_assoc, Nat.mul_comm q]
            congr 3 <;> rw [← hq]
        _ = d * q := by rw [h3]
/-- The limbs of the first k denominators together. -/
def dsum (ts : List (Int × Int)) : Nat → Nat
 | 0 => 1
 | k + 1 => dsum ts k + (digs (ts.getD k (0, 0)).2.natAbs).length
theorem cm_len {ts : List (Int × Int)} (h : DenOk ts) : ∀ k, k ≤ ts.length → (digs (cmN ts k)).length ≤ dsum ts k
 | 0, _ => by
  show (digs 1).length ≤ 1
  exact digs_length_le (by decide)
 | k + 1, hk => by
  have h1 := cm_len h k (by omega)
  have h2 := h k (by omega)
  rw [cmN, dsum]
  refine digs_mul_len h1 (digs_length_mono (Nat.le_trans (Nat.div_le_self _ _) (by omega)))
/-- The rationals times M. -/
def tlL (ts : List (Int × Int)) (M : Nat) : List Int := ts.map (fun t => t.1 * ((M / t.2.toNat : Nat) : Int))
theorem tl_len (ts : List (Int × Int)) (M : Nat) : (tlL ts M).length = ts.length := by simp [tlL]
end Go.Proofs.Ytoeopdmaogmjhaa

/-
 Layer 11: the struct of a tree, its rules; lists of rationals that come in.
-/
namespace Go.Proofs.Ytoeopdmaogmjhaa
open Go Go.RowKit Nt
set_option linter.unusedSimpArgs false
set_option linter.unusedVariables false
set_option maxRecDepth 20000

/-- A list of rationals that came in, by worth. -/
abbrev QV (n : Nat) (ts : List (Int × Int)) (k : Nat) : Pr := Ar 4 n (ts.map (fun t => PR (Zv t.1 k) (Zv t.2 k)))
theorem nil_qv {k : Nat} : ∀ v w, Is (.slice none 0 0) v w → QV 0 [] k v w := fun v w h => ⟨none, 0, h, rfl, ⟨Nat.le_refl _, by unfold maxLen; omega, fun _ => rfl⟩, fun i φ hφ => by simp at hφ⟩
theorem qv_at {ts : List (Int × Int)} {k i : Nat} (h : i < ts.length) : (ts.map (fun t => PR (Zv t.1 k) (Zv t.2 k)))[i]? = some (PR (Zv (ts.getD i (0, 0)).1 k) (Zv (ts.getD i (0, 0)).2 k)) := by
 rw [List.getElem?_map, List.getElem?_eq_getElem h, List.getD_eq_getElem?_getD, List.getElem?_eq_getElem h]
 rfl
section
variable {ops : Array Oper} {l : List Kd} {bx : Bxs} {sl : List (Tmp × Pr)} {i : Nat} {o : Oper} {Q : Exit → Act → World → Prop} {a0 : Act} {n : Nat} {w0 : World}
end
end Go.Proofs.Ytoeopdmaogmjhaa

/-
 scale.MayBe, tree.Valid.
-/
namespace Go.Proofs.Ytoeopdmaogmjhaa
open Go Go.RowKit Nt
set_option linter.unusedSimpArgs false
set_option linter.unusedVariables false
set_option maxRecDepth 20000


theorem sgn_nn {z : Int} (h : 0 ≤ z) : 0 ≤ z.sign := by
 by_cases h0 : z = 0
 ·rw [h0]; decide
 ·rw [Int.sign_eq_one_of_pos (by omega)]; decide
theorem sng_ar1 {E lo k : Nat} {a b : Int} : ∀ v w, Sng E 4 (PR (Zv a k) (Zv b k)) lo v w → QV 1 [(a, b)] k v w := by
 rintro v w ⟨g, u, rfl, h1, h2, h3, h4⟩
 refine ⟨_, _, rfl, rfl, ⟨Nat.le_refl _, by unfold maxLen; omega, fun e => by cases e⟩, fun i φ hφ => ?_⟩
 match i, hφ with
 | 0, hφ =>
  simp at hφ
  subst hφ
  refine ⟨g, 0, u, rfl, fun j x hx => ?_, h3.siz, h4⟩
  rw [Nat.mul_zero, Nat.add_zero, Nat.zero_add, cell_of h2]
  exact hx
 | i + 1, hφ => simp at hφ
abbrev qnk1o0 (k : Nat) (ts : List (Int × Int)) (k0 : Nat) : Pr := PR (Zv ((ts.getD k0 (0, 0)).1) k) (Zv ((ts.getD k0 (0, 0)).2) k)
set_option maxHeartbeats 400000 in
theorem mayb_t (w : World) (u : Value) (n k : Nat) (ts : List (Int × Int)) (h : Hs w (QV n ts k) u) (hn : n ≤ 1048576) (hk : k ≤ 8388608) (lt : ts.length = n) (ht : ∀ i, i < n → 0 < (ts.getD i (0, 0)).2) :
  Calls Try.prog 33 #[u] w (Gives (IS (.bool true)) w) := by
 refine calls_sta (sl := [(0, (QV n ts k))]) Try.func33 rfl Try.ntmps33 (by simp) (args_cons rfl (h) args_nil) ?_
 intro a0 S0
 refine wq [kF] [] [.inr 0] S0 ?_ ?_
 ·apply jj1
  ·exact mC
 intro _ a1 _ (S1 : Sta w 16 [] [(0, (QV n ts k))] _ _ _)
 refine wp_seq ?_
 refine wq [.val (QV n ts k), .val (iV (n : Nat)), .val (iV 0)] [] [.inl 0, .inl 1, .inl 2] S1 ?_ ?_
 ·apply jj3
  ·exact mS 0 0
  ·exact owe_len rfl wA rfl (oO 0 5) ar_len Try.underlying26 rfl
  ·exact mC
 intro B2 a2 _ (S2 : Sta w 16 [] [(5, (QV n ts k)), (6, iV (n : Nat)), (7, iV 0)] _ _ _)
 refine wp_block ?_
 refine wp_loop_ghost (fun (k0 : Nat) a W => (k0 ≤ n) ∧ ∃ Bq, Sta w 16 [] [(5, (QV n ts k)), (6, iV (n : Nat)), (7, iV (k0 : Nat))] Bq a W) (fun (k0 : Nat) => n - k0) ?_ 0 ⟨Nat.zero_le _, B2, S2.sub [] [0, 1, 2]⟩
 rintro k0 a3 _ ⟨hcond, _, S3⟩
 by_cases hlt : k0 < n
 ·have hp := sgn_pos (ht k0 hlt)
  refine wq [kT] [] [.inl 0, .inr 0, .inr 1, .inr 2] S3 ?_ ?_
  ·apply jj1
   ·exact b_lss_int_t wA (oS 2 7) (oS 1 6)
  intro B4 a4 W4 (S4 : Sta w 16 [] [(8, bT), (5, (QV n ts k)), (6, iV (n : Nat)), (7, iV (k0 : Nat))] _ _ _)
  refine wp_seq (wp_cond_true (S4.bool 0 8 rfl) (wp_skip (thenN (wp_seq (wp_block ?_)))))
  refine wq [.val (AtE 4 (qnk1o0 k ts k0)), .val (qnk1o0 k ts k0), .new (.box 32 zR), .put (.inr 2) (.box 32 (qnk1o0 k ts k0))] [.inl 2] [.inr 1, .inr 2, .inr 3] S4 ?_ ?_
  ·apply jj4
   ·exact owe_aindex rfl wA rfl idx_rats (oS 1 5) (oS 3 7) (qv_at (by omega)) rfl
   ·exact owe_aload rfl wA rfl ldr_rat4 (by decide) (cel_shp (by decide) (shp_pr shp_zv shp_zv)) (oO 0 9) rfl
   ·exact owe_new rfl wA rfl rfl (fun ρ w => alloc_rat ρ _ w)
   ·exact owe_put 2 rfl wA rfl (by kernel_rfl) rfl (oO 1 10) (stores_of strct_rat shp_r0 (shp_pr shp_zv shp_zv)) rfl
  intro B5 a5 W5 (S5 : Sta w 16 [(4, (.box 32 (qnk1o0 k ts k0)))] [(5, (QV n ts k)), (6, iV (n : Nat)), (7, iV (k0 : Nat))] _ _ _)
  refine wq [.val (Part a5 4 2), .val (Zv ((ts.getD k0 (0, 0)).2) k), .val (Is (.int .i64 ((ts.getD k0 (0, 0)).2).sign)), kF] [] [.inl 3, .inr 0, .inr 1, .inr 2] S5 ?_ ?_
  ·apply jj4
   ·exact owe_part rfl wA rfl (k := 0) rfl (by kernel_rfl) rfl (fun ρ w b h => part_rat1 ρ _ _ w b 0 h)
   ·exact owe_pload rfl wA rfl (oO 0 11) (k := 0) rfl (by kernel_rfl) rfl (fun ρ w b u h1 h2 h3 => pload_den ρ _ _ w b u h1 h2 h3)
   ·exact cc1 wA (qO 1 12 rfl) (fresh_is _) (fun w u h1 => h_zsign (by omega) w u ((fun _ _ h => h) _ _ h1))
   ·exact b_leq_int_f wA (oO 2 13) (opnd_const _)
  intro _ a6 _ (S6 : Sta w 16 [] [(14, bF), (5, (QV n ts k)), (6, iV (n : Nat)), (7, iV (k0 : Nat))] _ _ _)
  refine wp_cond_false (S6.bool 0 14 rfl) (wp_skip (inBlkN (thenN ?_)))
  refine wr [.val (iV (k0 + 1 : Nat)), .val (iV (k0 + 1 : Nat))] [] [.inl 1, .inr 1, .inr 2] S6 ?_ ?_
  ·apply jj2
   ·exact b_add_int wA (oS 3 7) (opnd_const _)
   ·exact mO 0 15
  intro B7 a7 _ (S7 : Sta w 16 [] [(7, iV (k0 + 1 : Nat)), (5, (QV n ts k)), (6, iV (n : Nat))] _ _ _)
  refine thenN ?_
  exact ⟨k0 + 1, ⟨by omega, B7, S7.sub [] [1, 2, 0]⟩, by omega⟩
 ·skip
  refine wq [kF] [] [.inl 0, .inr 0, .inr 1, .inr 2] S3 ?_ ?_
  ·apply jj1
   ·exact b_lss_int_f wA (oS 2 7) (oS 1 6)
  intro B4 a4 W4 (S4 : Sta w 16 [] [(8, bF), (5, (QV n ts k)), (6, iV (n : Nat)), (7, iV (k0 : Nat))] _ _ _)
  refine wp_seq (wp_cond_false (S4.bool 0 8 rfl) (wp_exit (thenX (thenX (inBlkE (thenN ?_))))))
  refine wq [kT] [] [.inl 0, .inr 1, .inr 2, .inr 3] S4 ?_ ?_
  ·apply jj1
   ·exact mC
  intro B5 a5 W5 (S5 : Sta w 16 [] [(2, bT), (5, (QV n ts k)), (6, iV (n : Nat)), (7, iV (k0 : Nat))] _ _ _)
  refine wp_ret ?_
  exact end_one S5 rfl (res_tmp S5 0 2 rfl)

abbrev q3ipg0 (k : Nat) (ts : List (Int × Int)) (k0 : Nat) : Pr := PR (Zv ((ts.getD k0 (0, 0)).1) k) (Zv ((ts.getD k0 (0, 0)).2) k)
set_option maxHeartbeats 400000 in
theorem mayb_f (w : World) (u : Value) (n k : Nat) (ts : List (Int × Int)) (h : Hs w (QV n ts k) u) (hn : n ≤ 1048576) (hk : k ≤ 8388608) (lt : ts.length = n) (i0 : Nat) (hi : i0 < n) (ht : ∀ i, i < i0 → 0 < (ts.getD i (0, 0)).2) (hz : (ts.getD i0 (0, 0)).2 ≤ 0) :
  Calls Try.prog 33 #[u] w (Gives (IS (.bool false)) w) := by
 refine calls_sta (sl := [(0, (QV n ts k))]) Try.func33 rfl Try.ntmps33 (by simp) (args_cons rfl (h) args_nil) ?_
 intro a0 S0
 refine wq [kF] [] [.inr 0] S0 ?_ ?_
 ·apply jj1
  ·exact mC
 intro _ a1 _ (S1 : Sta w 16 [] [(0, (QV n ts k))] _ _ _)
 refine wp_seq ?_
 refine wq [.val (QV n ts k), .val (iV (n : Nat)), .val (iV 0)] [] [.inl 0, .inl 1, .inl 2] S1 ?_ ?_
 ·apply jj3
  ·exact mS 0 0
  ·exact owe_len rfl wA rfl (oO 0 5) ar_len Try.underlying26 rfl
  ·exact mC
 intro B2 a2 _ (S2 : Sta w 16 [] [(5, (QV n ts k)), (6, iV (n : Nat)), (7, iV 0)] _ _ _)
 refine wp_block ?_
 refine wp_loop_ghost (fun (k0 : Nat) a W => (k0 ≤ i0) ∧ ∃ Bq, Sta w 16 [] [(5, (QV n ts k)), (6, iV (n : Nat)), (7, iV (k0 : Nat))] Bq a W) (fun (k0 : Nat) => n - k0) ?_ 0 ⟨Nat.zero_le _, B2, S2.sub [] [0, 1, 2]⟩
 rintro k0 a3 _ ⟨hcond, _, S3⟩
 by_cases hlt : k0 < i0
 ·have hp := sgn_pos (ht k0 hlt)
  refine wq [kT] [] [.inl 0, .inr 0, .inr 1, .inr 2] S3 ?_ ?_
  ·apply jj1
   ·exact b_lss_int_t wA (oS 2 7) (oS 1 6)
  intro B4 a4 W4 (S4 : Sta w 16 [] [(8, bT), (5, (QV n ts k)), (6, iV (n : Nat)), (7, iV (k0 : Nat))] _ _ _)
  refine wp_seq (wp_cond_true (S4.bool 0 8 rfl) (wp_skip (thenN (wp_seq (wp_block ?_)))))
  refine wq [.val (AtE 4 (q3ipg0 k ts k0)), .val (q3ipg0 k ts k0), .new (.box 32 zR), .put (.inr 2) (.box 32 (q3ipg0 k ts k0))] [.inl 2] [.inr 1, .inr 2, .inr 3] S4 ?_ ?_
  ·apply jj4
   ·exact owe_aindex rfl wA rfl idx_rats (oS 1 5) (oS 3 7) (qv_at (by omega)) rfl
   ·exact owe_aload rfl wA rfl ldr_rat4 (by decide) (cel_shp (by decide) (shp_pr shp_zv shp_zv)) (oO 0 9) rfl
   ·exact owe_new rfl wA rfl rfl (fun ρ w => alloc_rat ρ _ w)
   ·exact owe_put 2 rfl wA rfl (by kernel_rfl) rfl (oO 1 10) (stores_of strct_rat shp_r0 (shp_pr shp_zv shp_zv)) rfl
  intro B5 a5 W5 (S5 : Sta w 16 [(4, (.box 32 (q3ipg0 k ts k0)))] [(5, (QV n ts k)), (6, iV (n : Nat)), (7, iV (k0 : Nat))] _ _ _)
  refine wq [.val (Part a5 4 2), .val (Zv ((ts.getD k0 (0, 0)).2) k), .val (Is (.int .i64 ((ts.getD k0 (0, 0)).2).sign)), kF] [] [.inl 3, .inr 0, .inr 1, .inr 2] S5 ?_ ?_
  ·apply jj4
   ·exact owe_part rfl wA rfl (k := 0) rfl (by kernel_rfl) rfl (fun ρ w b h => part_rat1 ρ _ _ w b 0 h)
   ·exact owe_pload rfl wA rfl (oO 0 11) (k := 0) rfl (by kernel_rfl) rfl (fun ρ w b u h1 h2 h3 => pload_den ρ _ _ w b u h1 h2 h3)
   ·exact cc1 wA (qO 1 12 rfl) (fresh_is _) (fun w u h1 => h_zsign (by omega) w u ((fun _ _ h => h) _ _ h1))
   ·exact b_leq_int_f wA (oO 2 13) (opnd_const _)
  intro B6 a6 W6 (S6 : Sta w 16 [] [(14, bF), (5, (QV n ts k)), (6, iV (n : Nat)), (7, iV (k0 : Nat))] _ _ _)
  refine wp_cond_false (S6.bool 0 14 rfl) (wp_skip (inBlkN (thenN ?_)))
  refine wr [.val (iV (k0 + 1 : Nat)), .val (iV (k0 + 1 : Nat))] [] [.inl 1, .inr 1, .inr 2] S6 ?_ ?_
  ·apply jj2
   ·exact b_add_int wA (oS 3 7) (opnd_const _)
   ·exact mO 0 15
  intro B7 a7 W7 (S7 : Sta w 16 [] [(7, iV (k0 + 1 : Nat)), (5, (QV n ts k)), (6, iV (n : Nat))] _ _ _)
  refine thenN ?_
  exact ⟨k0 + 1, ⟨by omega, B7, S7.sub [] [1, 2, 0]⟩, by omega⟩
 ·have ek : k0 = i0 := by omega
  rw [← ek] at hz
  have hp := sgn_npos hz
  refine wq [kT] [] [.inl 0, .inr 0, .inr 1, .inr 2] S3 ?_ ?_
  ·apply jj1
   ·exact b_lss_int_t wA (oS 2 7) (oS 1 6)
  intro B4 a4 W4 (S4 : Sta w 16 [] [(8, bT), (5, (QV n ts k)), (6, iV (n : Nat)), (7, iV (k0 : Nat))] _ _ _)
  refine wp_seq (wp_cond_true (S4.bool 0 8 rfl) (wp_skip (thenN (wp_seq (wp_block ?_)))))
  refine wq [.val (AtE 4 (q3ipg0 k ts k0)), .val (q3ipg0 k ts k0), .new (.box 32 zR), .put (.inr 2) (.box 32 (q3ipg0 k ts k0))] [.inl 2] [.inr 1, .inr 2, .inr 3] S4 ?_ ?_
  ·apply jj4
   ·exact owe_aindex rfl wA rfl idx_rats (oS 1 5) (oS 3 7) (qv_at (by omega)) rfl
   ·exact owe_aload rfl wA rfl ldr_rat4 (by decide) (cel_shp (by decide) (shp_pr shp_zv shp_zv)) (oO 0 9) rfl
   ·exact owe_new rfl wA rfl rfl (fun ρ w => alloc_rat ρ _ w)
   ·exact owe_put 2 rfl wA rfl (by kernel_rfl) rfl (oO 1 10) (stores_of strct_rat shp_r0 (shp_pr shp_zv shp_zv)) rfl
  intro B5 a5 W5 (S5 : Sta w 16 [(4, (.box 32 (q3ipg0 k ts k0)))] [(5, (QV n ts k)), (6, iV (n : Nat)), (7, iV (k0 : Nat))] _ _ _)
  refine wq [.val (Part a5 4 2), .val (Zv ((ts.getD k0 (0, 0)).2) k), .val (Is (.int .i64 ((ts.getD k0 (0, 0)).2).sign)), kT] [] [.inl 3, .inr 0, .inr 1, .inr 2] S5 ?_ ?_
  ·apply jj4
   ·exact owe_part rfl wA rfl (k := 0) rfl (by kernel_rfl) rfl (fun ρ w b h => part_rat1 ρ _ _ w b 0 h)
   ·exact owe_pload rfl wA rfl (oO 0 11) (k := 0) rfl (by kernel_rfl) rfl (fun ρ w b u h1 h2 h3 => pload_den ρ _ _ w b u h1 h2 h3)
   ·exact cc1 wA (qO 1 12 rfl) (fresh_is _) (fun w u h1 => h_zsign (by omega) w u ((fun _ _ h => h) _ _ h1))
   ·exact b_leq_int_t wA (oO 2 13) (opnd_const _)
  intro B6 a6 W6 (S6 : Sta w 16 [] [(14, bT), (5, (QV n ts k)), (6, iV (n : Nat)), (7, iV (k0 : Nat))] _ _ _)
  refine wp_cond_true (S6.bool 0 14 rfl) ?_
  refine wq [kF] [] [.inl 0, .inr 1, .inr 2, .inr 3] S6 ?_ ?_
  ·apply jj1
   ·exact mC
  intro B7 a7 W7 (S7 : Sta w 16 [] [(2, bF), (5, (QV n ts k)), (6, iV (n : Nat)), (7, iV (k0 : Nat))] _ _ _)
  refine wp_ret (inBlkR (thenR (thenR (inBlkR (thenR ?_)))))
  exact end_one S7 rfl (res_tmp S7 0 2 rfl)

end Go.Proofs.Ytoeopdmaogmjhaa

/-
 gso.solved's row on its way; greatest common divisors; whole quotients; rationals of one denominator: rules.
-/
namespace Go.Proofs.Ytoeopdmaogmjhaa
open Go Go.RowKit Nt
set_option linter.unusedSimpArgs false
set_option linter.unusedVariables false
set_option maxRecDepth 20000

theorem g_zgcd {A B : Int} {ka kb : Nat} (hk : ka ≤ 67108864) (hk' : kb ≤ 67108864) : ∀ w u v, Zv A ka u w → Zv B kb v w → Calls Try.prog 59 #[u, v] w (Gives (ZN ((Nat.gcd A.natAbs B.natAbs : Nat) : Int)) w) := by
 rintro w u v ⟨s, p, n, c, xs, rfl, h, rfl, hn⟩ ⟨t, q, m, d, ys, rfl, h', rfl, hm⟩
 rw [sg_abs, sg_abs]
 refine (zgcd_c w s t p q n c m d xs ys h h' (by omega) (by omega)).mono ?_
 rintro e w' ⟨r, cr, rfl, hb, hs, hf⟩
 refine ⟨_, rfl, hb, r, cr, ?_, ?_, hf⟩
 ·rw [Int.natAbs_natCast, show ng ((Nat.gcd (val xs) (val ys) : Nat) : Int) = false by simp [ng]]
 ·rw [Int.natAbs_natCast]; exact hs
theorem ex_nat {a b : Nat} (hb : b ≠ 0) (h : b ∣ a) : fl (a : Int) (b : Int) = ((a / b : Nat) : Int) ∧ rm (a : Int) (b : Int) = 0 := by
 obtain ⟨q, rfl⟩ := h
 rw [Nat.mul_div_cancel_left _ (by omega)]
 exact fl_even (by omega) (Int.natCast_mul b q)
section
variable {ops : Array Oper} {l : List Kd} {bx : Bxs} {sl : List (Tmp × Pr)} {i : Nat} {o : Oper} {Q : Exit → Act → World → Prop} {a0 : Act} {n : Nat} {w0 : World}
end

theorem qv_dl {n k : Nat} {ts : List (Int × Int)} {v : Value} {w : World} (h : QV n ts k v w) {i : Nat} (hi : i < ts.length) : (digs (ts.getD i (0, 0)).1.natAbs).length ≤ k ∧ (digs (ts.getD i (0, 0)).2.natAbs).length ≤ k := by
 obtain ⟨p, c, rfl, hl, hb, ha⟩ := h
 obtain ⟨b, o, u, _, _, _, x0, x1, y0, y1, _, h1, h2⟩ := ha i _ (qv_at hi)
 exact ⟨zv_dl h1, zv_dl h2⟩
theorem dsum_mono (ts : List (Int × Int)) : ∀ {a b : Nat}, a ≤ b → dsum ts a ≤ dsum ts b
 | a, 0, h => by rw [show a = 0 by omega]; exact Nat.le_refl _
 | a, b + 1, h => by
  rcases Nat.lt_or_ge a (b + 1) with h1 | h1
  ·exact Nat.le_trans (dsum_mono ts (show a ≤ b by omega)) (Nat.le_add_right _ _)
  ·rw [show a = b + 1 by omega]; exact Nat.le_refl _
theorem tl_get' {ts : List (Int × Int)} {M k : Nat} (hk : k < ts.length) : (tlL ts M)[k]? = some (((ts.getD k (0, 0)).1) * (((M / (ts.getD k (0, 0)).2.toNat : Nat) : Int))) := by
 rw [tlL, List.getElem?_map, List.getElem?_eq_getElem hk, List.getD_eq_getElem?_getD, List.getElem?_eq_getElem hk]
 rfl
theorem nabs_pos {a : Int} (h : 0 < a) : a.natAbs = a.toNat := by omega
theorem mv_mono {n k k' : Nat} {A : List (List Int)} (hk : k ≤ k') : ∀ v w, Mv n A k v w → Mv n A k' v w := ar_imp (by simp) (fun i φ φ' h1 h2 v w h => by
 obtain ⟨a, ha, rfl⟩ := map_get h1
 obtain ⟨b, hb, rfl⟩ := map_get h2
 obtain rfl : a = b := Option.some.inj (ha.symm.trans hb)
 exact ar_imp (by simp) (fun i φ φ' h1 h2 v w h => by
  obtain ⟨a', ha', rfl⟩ := map_get h1
  obtain ⟨b', hb', rfl⟩ := map_get h2
  obtain rfl : a' = b' := Option.some.inj (ha'.symm.trans hb')
  exact zv_mono hk v w h) v w h)
end Go.Proofs.Ytoeopdmaogmjhaa

/-
 The document's coordinates as quotients of determinants: what each step comes to.
-/
namespace Go.Proofs.Ytoeopdmaogmjhaa
open Go Go.RowKit Nt
set_option linter.unusedSimpArgs false
set_option linter.unusedVariables false
set_option maxRecDepth 20000

end Go.Proofs.Ytoeopdmaogmjhaa
