import Derived.Test.YtbgelajoomneiaaGreatGsB
import Derived.Test.YtbgelajoomneiaaGreatDtA
import Derived.Test.YtbgelajoomneiaaGreatGlA
import Derived.Test.YtbgelajoomneiaaGreatGsD
/-
 The data of rows are determinants: all divisions come out even, and no number is longer than those.
-/
namespace Go.Proofs.YtbgelajoomneiaaGreat
open Go Go.RowKit Nt
set_option linter.unusedSimpArgs false
set_option linter.unusedVariables false
set_option maxRecDepth 20000

/-- The dot products of the rows. -/
def gr (Bm : List (List Int)) : Nat → Nat → Int := fun r c => dotR (Bm.getD r []) (Bm.getD c [])
theorem gr_sym (Bm : List (List Int)) (i j : Nat) : gr Bm i j = gr Bm j i := by
 unfold gr dotR
 rw [List.zipWith_comm_of_comm (fun x y => Int.mul_comm x y)]
theorem fl_even {A B q : Int} (hB : B ≠ 0) (h : A = B * q) : fl A B = q ∧ rm A B = 0 :=
 fl_unique hB (by rw [h, Int.mul_comm]; omega) (fun h => ⟨by omega, h⟩) (fun h => ⟨h, by omega⟩)
section
variable {G : Dt.Mt} {D L M : List Int} {i j K : Nat}
theorem tk_step (hG : ∀ i j, G i j = G j i) (hL : Dt.Lead G K) (hD : ∀ m, m ≤ K → D.getD m 0 = Dt.det m G) (h1 : ∀ k, k < K → L.getD k 0 = Dt.bo G k i k) (h2 : ∀ k, k < K → M.getD k 0 = Dt.bo G k j k) {k : Nat} (hk : k < K) {x : Int} (hx : x = Dt.bo G k i j) : D.getD (k + 1) 0 * x - L.getD k 0 * M.getD k 0 = D.getD k 0 * Dt.bo G (k + 1) i j := by
 have hl : Dt.Lead G (k + 1) := fun m hm => hL m (by omega)
 rw [hD (k + 1) (by omega), hD k (by omega), h1 k hk, h2 k hk, hx, Dt.bo_step hl, Dt.bo_self, Dt.bo_sym hG (fun m hm => hL m (by omega)) k j]
theorem tk_bo (hG : ∀ i j, G i j = G j i) (hL : Dt.Lead G K) (hD : ∀ m, m ≤ K → D.getD m 0 = Dt.det m G) (h1 : ∀ k, k < K → L.getD k 0 = Dt.bo G k i k) (h2 : ∀ k, k < K → M.getD k 0 = Dt.bo G k j k) : ∀ k, k ≤ K → tk D L M (G i j) k = Dt.bo G k i j
 | 0, _ => (Dt.bo_zero G i j).symm
 | k + 1, hk => by
  rw [tk, (fl_even (by rw [hD k (by omega)]; exact hL k (by omega)) (tk_step hG hL hD h1 h2 (by omega) (tk_bo hG hL hD h1 h2 k (by omega)))).1]
theorem tk_ok {X E : Nat} (hG : ∀ i j, G i j = G j i) (hL : Dt.Lead G K) (hD : ∀ m, m ≤ K → D.getD m 0 = Dt.det m G) (h1 : ∀ k, k < K → L.getD k 0 = Dt.bo G k i k) (h2 : ∀ k, k < K → M.getD k 0 = Dt.bo G k j k) (hX : ∀ k, k ≤ K → (digs (Dt.bo G k i j).natAbs).length ≤ E) : TkOk D L M (G i j) K E where
 ne := fun k hk => by rw [hD k (by omega)]; exact hL k (by omega)
 ex := fun k hk => (fl_even (by rw [hD k (by omega)]; exact hL k (by omega)) (tk_step hG hL hD h1 h2 hk (tk_bo hG hL hD h1 h2 k (by omega)))).2
 dl := fun k hk => by rw [tk_bo hG hL hD h1 h2 k hk]; exact hX k hk
end
theorem getD_snoc {α : Type} (l : List α) (x d : α) (k : Nat) : (l ++ [x]).getD k d = if k < l.length then l.getD k d else if k = l.length then x else d := by
 rw [List.getD_eq_getElem?_getD, List.getD_eq_getElem?_getD]
 rcases Nat.lt_or_ge k l.length with h | h
 ·rw [if_pos h, List.getElem?_append_left h]
 ·rw [if_neg (by omega), List.getElem?_append_right h]
  by_cases e : k = l.length
  ·rw [if_pos e, e, Nat.sub_self]; rfl
  ·rw [if_neg e]
   obtain ⟨t, ht⟩ : ∃ t, k - l.length = t + 1 := ⟨k - l.length - 1, by omega⟩
   rw [ht]; rfl
/-- The data are what the document says that they are, as far as the first minors are not nought. -/
structure GwIs (Bm : List (List Int)) (i : Nat) (D : List Int) (L : List (List Int)) : Prop where
 d : ∀ m, m ≤ i → D.getD m 0 = Dt.det m (gr Bm)
 l : ∀ j, j < i → ∀ k, k < j → (L.getD j []).getD k 0 = Dt.bo (gr Bm) k j k
theorem lf_is {Bm : List (List Int)} {i : Nat} {D : List Int} {L : List (List Int)} (h : GwIs Bm i D L) (hL : Dt.Lead (gr Bm) i) : ∀ j, j ≤ i → ∀ k, k < j → (lfL D L Bm (Bm.getD i []) j).getD k 0 = Dt.bo (gr Bm) k i k
 | 0, _, k, hk => by omega
 | j + 1, hj, k, hk => by
  rw [lfL, getD_snoc, lfL_len]
  rcases Nat.lt_or_ge k j with h1 | h1
  ·rw [if_pos h1]
   exact lf_is h hL j (by omega) k h1
  ·have e : k = j := by omega
   subst e
   rw [if_neg (by omega), if_pos rfl]
   exact tk_bo (G := gr Bm) (gr_sym Bm) (fun m hm => hL m (by omega)) (fun m hm => h.d m (by omega)) (fun t ht => lf_is h hL k (by omega) t ht) (fun t ht => h.l k (by omega) t ht) k (Nat.le_refl _)
theorem gw_is {Bm : List (List Int)} : ∀ {i : Nat}, Dt.Lead (gr Bm) i → GwIs Bm i (gwD Bm i) (gwL Bm i) ∧ gwd Bm i = Dt.det (i + 1) (gr Bm)
 | 0, hL => by
  have h : GwIs Bm 0 (gwD Bm 0) (gwL Bm 0) := ⟨fun m hm => by
   have e : m = 0 := by omega
   subst e; rfl, fun j hj => by omega⟩
  exact ⟨h, (Dt.bo_zero (gr Bm) 0 0).symm.trans (Dt.bo_self _ _)⟩
 | i + 1, hL => by
  obtain ⟨h, hd⟩ := gw_is (i := i) (fun m hm => hL m (by omega))
  have hl := gw_len Bm i
  have hL' : Dt.Lead (gr Bm) i := fun m hm => hL m (by omega)
  have h' : GwIs Bm (i + 1) (gwD Bm (i + 1)) (gwL Bm (i + 1)) := by
   refine ⟨fun m hm => ?_, fun j hj k hk => ?_⟩
   ·rw [gwD_succ, getD_snoc, hl.1]
    rcases Nat.lt_or_ge m (i + 1) with h1 | h1
    ·rw [if_pos h1]; exact h.d m (by omega)
    ·have e : m = i + 1 := by omega
     subst e
     rw [if_neg (by omega), if_pos rfl]
     exact hd
   ·rw [gwL_succ, getD_snoc, hl.2]
    rcases Nat.lt_or_ge j i with h1 | h1
    ·rw [if_pos h1]; exact h.l j h1 k hk
    ·have e : j = i := by omega
     subst e
     rw [if_neg (by omega), if_pos rfl]
     exact lf_is h hL' j (Nat.le_refl _) k hk
  refine ⟨h', ?_⟩
  have := tk_bo (G := gr Bm) (i := i + 1) (j := i + 1) (gr_sym Bm) hL h'.d (fun t ht => lf_is h' hL (i + 1) (Nat.le_refl _) t ht) (fun t ht => lf_is h' hL (i + 1) (Nat.le_refl _) t ht) (i + 1) (Nat.le_refl _)
  exact this.trans (Dt.bo_self _ _)
/-- The first minors are not nought as long as the data are not. -/
theorem gw_lead {Bm : List (List Int)} : ∀ {i : Nat}, (∀ k, k < i → gwd Bm k ≠ 0) → Dt.Lead (gr Bm) i
 | 0, _ => fun m hm => by
  have e : m = 0 := by omega
  subst e
  exact Int.one_ne_zero
 | i + 1, h => fun m hm => by
  have hL := gw_lead (i := i) (fun k hk => h k (by omega))
  rcases Nat.lt_or_ge m (i + 1) with h1 | h1
  ·exact hL m (by omega)
  ·have e : m = i + 1 := by omega
   subst e
   rw [← (gw_is hL).2]
   exact h i (by omega)
/-- All divisions come out even. -/
theorem wd_ok {Bm : List (List Int)} {n X E : Nat} (hn : n ≤ 16) (hd : ∀ k, k + 1 < n → gwd Bm k ≠ 0) (hX : ∀ r c, r < n → c < n → (gr Bm r c).natAbs ≤ X) (hE : ∀ k, k < n → (digs ((16 * X) ^ (k + 1))).length ≤ E) : WdOk Bm n E := fun i hi => by
 have hL : Dt.Lead (gr Bm) i := gw_lead (fun k hk => hd k (by omega))
 have h := (gw_is hL).1
 have hb : ∀ k j, j < n → k ≤ i → (digs (Dt.bo (gr Bm) k i j).natAbs).length ≤ E := fun k j hj hk => Nat.le_trans (digs_length_mono (Dt.bo_abs (n := n) (by omega) hn hi hj hX)) (hE k (by omega))
 refine ⟨fun j hj => ?_, ?_⟩
 ·exact tk_ok (X := X) (G := gr Bm) (gr_sym Bm) (fun m hm => hL m (by omega)) (fun m hm => h.d m (by omega)) (fun t ht => lf_is h hL j (by omega) t ht) (fun t ht => h.l j hj t ht) (fun k hk => hb k j (by omega) (by omega))
 ·exact tk_ok (X := X) (G := gr Bm) (gr_sym Bm) hL h.d (fun t ht => lf_is h hL i (Nat.le_refl _) t ht) (fun t ht => lf_is h hL i (Nat.le_refl _) t ht) (fun k hk => hb k i hi hk)
theorem dot_sm : ∀ (R B : List Int) (w : Nat), R.length ≤ w → dotR R B = Dt.sm (fun x => R.getD x 0 * B.getD x 0) w
 | [], B, w, _ => by
  rw [Dt.sm_congr (g := fun _ => 0) (fun x _ => by simp), Dt.sm_zero]
  simp [dotR, sumZ]
 | a :: R, [], w, _ => by
  rw [Dt.sm_congr (g := fun _ => 0) (fun x _ => by simp), Dt.sm_zero]
  simp [dotR, sumZ]
 | a :: R, b :: B, 0, h => by simp at h
 | a :: R, b :: B, w + 1, h => by
  rw [Dt.sm_front]
  have := dot_sm R B w (by simpa using h)
  simp only [dotR, List.zipWith_cons_cons, sumZ] at this ⊢
  rw [this]
  simp
/-- What the data are is above nought, and the next is not below it. -/
theorem gw_pos {Bm : List (List Int)} {w : Nat} (hw : ∀ r, (Bm.getD r []).length ≤ w) : ∀ {i : Nat}, (∀ k, k < i → gwd Bm k ≠ 0) → (∀ m, m ≤ i → 0 < Dt.det m (gr Bm)) ∧ 0 ≤ gwd Bm i := by
 have hG : ∀ i j, gr Bm i j = Dt.sm (fun x => (Bm.getD i []).getD x 0 * (Bm.getD j []).getD x 0) w := fun i j => dot_sm _ _ w (hw i)
 intro i
 induction i with
 | zero =>
  intro h
  have h0 : ∀ m, m ≤ 0 → 0 < Dt.det m (gr Bm) := fun m hm => by
   have e : m = 0 := by omega
   subst e
   exact Int.one_pos
  refine ⟨h0, ?_⟩
  have hL := gw_lead h
  rw [(gw_is hL).2]
  exact Dt.gram_pos hG hL (h0 0 (Nat.le_refl _))
 | succ i ih =>
  intro h
  obtain ⟨h1, h2⟩ := ih (fun k hk => h k (by omega))
  have hL := gw_lead h
  have h3 : 0 < Dt.det (i + 1) (gr Bm) := by
   have := (gw_is (i := i) (fun m hm => hL m (by omega))).2
   rw [← this]
   have := h i (by omega)
   omega
  refine ⟨fun m hm => ?_, ?_⟩
  ·rcases Nat.lt_or_ge m (i + 1) with h4 | h4
   ·exact h1 m (by omega)
   ·have e : m = i + 1 := by omega
    subst e
    exact h3
  ·rw [(gw_is hL).2]
   exact Dt.gram_pos hG hL h3
end Go.Proofs.YtbgelajoomneiaaGreat

/-
 gso.framed, where it is not well.
-/
namespace Go.Proofs.YtbgelajoomneiaaGreat
open Go Go.RowKit Nt
set_option linter.unusedSimpArgs false
set_option linter.unusedVariables false
set_option maxRecDepth 20000


abbrev wideB (A : List (List Int)) : List (Nat → Pr) := A.map (fun zs => IS (.bool (decide (12 < zs.length))))
theorem wideB_at {A : List (List Int)} {k : Nat} {b : Bool} (h : k < A.length) (hb : decide (12 < (A.getD k []).length) = b) : (wideB A)[k]? = some (IS (.bool b)) := by
 rw [List.getElem?_map, List.getElem?_eq_getElem h]
 rw [List.getD_eq_getElem?_getD, List.getElem?_eq_getElem h] at hb
 show some (IS (.bool (decide (12 < A[k].length)))) = _
 rw [show decide (12 < A[k].length) = b from hb]

set_option maxHeartbeats 400000 in
theorem wide_b (w : World) (u : Value) (n k : Nat) (As : List Int) (h : Hs w (Vv n As k) u) (hn : 12 < n) (hn2 : n ≤ 1048576) :
  Calls Tryz.prog 52 #[u] w (Gives (IS (.bool true)) w) := by
 refine calls_sta (sl := [(0, (Vv n As k))]) Tryz.func52 rfl Tryz.ntmps52 (by simp) (args_cons rfl (h) args_nil) ?_
 intro a0 S0
 refine wq [kF] [] [.inr 0] S0 ?_ ?_
 ·apply jj1
  ·exact mC
 intro _ a1 _ (S1 : Sta w 6 [] [(0, Vv n As k)] _ _ _)
 refine wq [.val (Vv n As k), .val (iV (n : Nat)), kT, kT] [] [.inl 3] S1 ?_ ?_
 ·apply jj4
  ·exact mS 0 0
  ·exact owe_len rfl wA rfl (oO 0 3) ar_len Tryz.underlying23 rfl
  ·exact b_gtr_int_t wA (oO 1 4) (opnd_const _)
  ·exact mO 2 5
 intro _ a2 _ (S2 : Sta w 6 [] [(2, bT)] _ _ _)
 refine wp_ret ?_
 exact end_one S2 rfl (res_tmp S2 0 2 rfl)

theorem wide_any (w : World) (u : Value) (n k : Nat) (As : List Int) (h : Hs w (Vv n As k) u) (hn2 : n ≤ 1048576) : Calls Tryz.prog 52 #[u] w (Gives (IS (.bool (decide (12 < n)))) w) := by
 by_cases e : 12 < n
 ·rw [decide_eq_true e]; exact wide_b w u n k As h e hn2
 ·rw [decide_eq_false e]; exact wide_n w u n k As h (by omega)

set_option maxHeartbeats 400000 in
theorem idxr_b (w : World) (u f : Value) (n k i0 : Nat) (A : List (List Int)) (h : Hs w (Mv n A k) u) (hn : n ≤ 1048576) (lA : A.length = n) (hi0 : i0 < n) (hb : 12 < (A.getD i0 []).length) (hs : ∀ i, i < i0 → (A.getD i []).length ≤ 12) (hf : Hs w (Fn1 (A.map (fun zs => Vv zs.length zs k)) (wideB A)) f) :
  Calls Tryz.prog 75 #[u, f] w (Gives (IS (.int .i64 (i0 : Nat))) w) := by
 refine calls_sta (sl := [(0, (Mv n A k)), (1, (Fn1 (A.map (fun zs => Vv zs.length zs k)) (wideB A)))]) Tryz.func75 rfl Tryz.ntmps75 (by simp) (args_cons rfl (h) (args_cons rfl (hf) args_nil)) ?_
 intro a0 S0
 refine wq [.val (iV 0)] [] [.inr 0, .inr 1] S0 ?_ ?_
 ·apply jj1
  ·exact mC
 intro _ a1 _ (S1 : Sta w 19 [] [(0, Mv n A k), (1, (Fn1 (A.map (fun zs => Vv zs.length zs k)) (wideB A)))] _ _ _)
 refine wp_seq ?_
 refine wq [.val (Mv n A k), .val (iV (n : Nat)), .val (iV 0)] [] [.inl 1, .inl 2, .inr 0, .inr 1] S1 ?_ ?_
 ·apply jj3
  ·exact mS 0 0
  ·exact owe_len rfl wA rfl (oO 0 6) ar_len Tryz.underlying22 rfl
  ·exact mC
 intro B2 a2 _ (S2 : Sta w 19 [] [(7, iV (n : Nat)), (8, iV 0), (0, Mv n A k), (1, (Fn1 (A.map (fun zs => Vv zs.length zs k)) (wideB A)))] _ _ _)
 refine wp_block ?_
 refine wp_loop_ghost (fun (k0 : Nat) a W => (k0 ≤ i0) ∧ ∃ Bq, Sta w 19 [] [(7, iV (n : Nat)), (8, iV (k0 : Nat)), (0, Mv n A k), (1, (Fn1 (A.map (fun zs => Vv zs.length zs k)) (wideB A)))] Bq a W) (fun (k0 : Nat) => n - k0) ?_ 0 ⟨Nat.zero_le _, B2, S2.sub [] [0, 1, 2, 3]⟩
 rintro k0 a3 _ ⟨hcond, _, S3⟩
 by_cases hlt : k0 < i0
 ·have hr := vv_at (A := A) (K := k) (k := k0) (by omega)
  have hz := wideB_at (A := A) (k := k0) (b := false) (by omega) (decide_eq_false (by have := hs k0 hlt; omega))
  refine wq [kT] [] [.inl 0, .inr 0, .inr 1, .inr 2, .inr 3] S3 ?_ ?_
  ·apply jj1
   ·exact b_lss_int_t wA (oS 1 8) (oS 0 7)
  intro B4 a4 W4 (S4 : Sta w 19 [] [(9, bT), (7, iV (n : Nat)), (8, iV (k0 : Nat)), (0, Mv n A k), (1, (Fn1 (A.map (fun zs => Vv zs.length zs k)) (wideB A)))] _ _ _)
  refine wp_seq (wp_cond_true (S4.bool 0 9 rfl) (wp_skip (thenN (wp_seq (wp_block ?_)))))
  refine wq [.val (iV (k0 : Nat)), .val (iV (k0 : Nat))] [] [.inl 1, .inr 1, .inr 2, .inr 3, .inr 4] S4 ?_ ?_
  ·apply jj2
   ·exact mS 2 8
   ·exact mO 0 10
  intro B5 a5 W5 (S5 : Sta w 19 [] [(5, iV (k0 : Nat)), (7, iV (n : Nat)), (8, iV (k0 : Nat)), (0, Mv n A k), (1, (Fn1 (A.map (fun zs => Vv zs.length zs k)) (wideB A)))] _ _ _)
  refine wq [.val (Fn1 (A.map (fun zs => Vv zs.length zs k)) (wideB A)), .val (Mv n A k), .val (iV (k0 : Nat)), .val (AtE 1 (Vv ((A.getD k0 []).length) (A.getD k0 []) k)), .val (Vv ((A.getD k0 []).length) (A.getD k0 []) k), kF] [] [.inl 5, .inr 0, .inr 1, .inr 2, .inr 3, .inr 4] S5 ?_ ?_
  ·apply jj6
   ·exact mS 4 1
   ·exact mS 3 0
   ·exact mS 0 5
   ·exact owe_aindex rfl wA rfl idx_rows (oO 1 12) (oO 2 13) hr rfl
   ·exact owe_aload rfl wA rfl ldr_row1 (by decide) cel_vv (oO 3 14) rfl
   ·exact owe_callv1 k0 rfl wA rfl (oO 0 11) hr hz (oO 4 15) (fresh_is _) rfl
  intro B6 a6 W6 (S6 : Sta w 19 [] [(16, bF), (5, iV (k0 : Nat)), (7, iV (n : Nat)), (8, iV (k0 : Nat)), (0, Mv n A k), (1, (Fn1 (A.map (fun zs => Vv zs.length zs k)) (wideB A)))] _ _ _)
  refine wp_cond_false (S6.bool 0 16 rfl) (wp_skip (inBlkN (thenN ?_)))
  refine wr [.val (iV (k0 + 1 : Nat)), .val (iV (k0 + 1 : Nat))] [] [.inl 1, .inr 2, .inr 4, .inr 5] S6 ?_ ?_
  ·apply jj2
   ·exact b_add_int wA (oS 3 8) (opnd_const _)
   ·exact mO 0 18
  intro B7 a7 W7 (S7 : Sta w 19 [] [(8, iV (k0 + 1 : Nat)), (7, iV (n : Nat)), (0, Mv n A k), (1, (Fn1 (A.map (fun zs => Vv zs.length zs k)) (wideB A)))] _ _ _)
  refine thenN ?_
  exact ⟨k0 + 1, ⟨by omega, B7, S7.sub [] [1, 0, 2, 3]⟩, by omega⟩
 ·have ek : k0 = i0 := by omega
  subst ek
  have hr := vv_at (A := A) (K := k) (k := k0) (by omega)
  have hz := wideB_at (A := A) (k := k0) (b := true) (by omega) (decide_eq_true hb)
  refine wq [kT] [] [.inl 0, .inr 0, .inr 1, .inr 2, .inr 3] S3 ?_ ?_
  ·apply jj1
   ·exact b_lss_int_t wA (oS 1 8) (oS 0 7)
  intro B4 a4 W4 (S4 : Sta w 19 [] [(9, bT), (7, iV (n : Nat)), (8, iV (k0 : Nat)), (0, Mv n A k), (1, (Fn1 (A.map (fun zs => Vv zs.length zs k)) (wideB A)))] _ _ _)
  refine wp_seq (wp_cond_true (S4.bool 0 9 rfl) (wp_skip (thenN (wp_seq (wp_block ?_)))))
  refine wq [.val (iV (k0 : Nat)), .val (iV (k0 : Nat))] [] [.inl 1, .inr 1, .inr 2, .inr 3, .inr 4] S4 ?_ ?_
  ·apply jj2
   ·exact mS 2 8
   ·exact mO 0 10
  intro B5 a5 W5 (S5 : Sta w 19 [] [(5, iV (k0 : Nat)), (7, iV (n : Nat)), (8, iV (k0 : Nat)), (0, Mv n A k), (1, (Fn1 (A.map (fun zs => Vv zs.length zs k)) (wideB A)))] _ _ _)
  refine wq [.val (Fn1 (A.map (fun zs => Vv zs.length zs k)) (wideB A)), .val (Mv n A k), .val (iV (k0 : Nat)), .val (AtE 1 (Vv ((A.getD k0 []).length) (A.getD k0 []) k)), .val (Vv ((A.getD k0 []).length) (A.getD k0 []) k), kT] [] [.inl 5, .inr 0, .inr 1, .inr 2, .inr 3, .inr 4] S5 ?_ ?_
  ·apply jj6
   ·exact mS 4 1
   ·exact mS 3 0
   ·exact mS 0 5
   ·exact owe_aindex rfl wA rfl idx_rows (oO 1 12) (oO 2 13) hr rfl
   ·exact owe_aload rfl wA rfl ldr_row1 (by decide) cel_vv (oO 3 14) rfl
   ·exact owe_callv1 k0 rfl wA rfl (oO 0 11) hr hz (oO 4 15) (fresh_is _) rfl
  intro B6 a6 W6 (S6 : Sta w 19 [] [(16, bT), (5, iV (k0 : Nat)), (7, iV (n : Nat)), (8, iV (k0 : Nat)), (0, Mv n A k), (1, (Fn1 (A.map (fun zs => Vv zs.length zs k)) (wideB A)))] _ _ _)
  refine wp_cond_true (S6.bool 0 16 rfl) ?_
  refine wq [.val (iV (k0 : Nat)), .val (iV (k0 : Nat))] [] [.inl 1, .inr 2, .inr 3, .inr 4, .inr 5] S6 ?_ ?_
  ·apply jj2
   ·exact mS 1 5
   ·exact mO 0 17
  intro B7 a7 W7 (S7 : Sta w 19 [] [(4, iV (k0 : Nat)), (7, iV (n : Nat)), (8, iV (k0 : Nat)), (0, Mv n A k), (1, (Fn1 (A.map (fun zs => Vv zs.length zs k)) (wideB A)))] _ _ _)
  refine wp_ret (inBlkR (thenR (thenR (inBlkR (thenR ?_)))))
  exact end_one S7 rfl (res_tmp S7 0 4 rfl)

set_option maxHeartbeats 400000 in
theorem has_b (w : World) (u f : Value) (n k i0 : Nat) (A : List (List Int)) (h : Hs w (Mv n A k) u) (hn : n ≤ 1048576) (lA : A.length = n) (hi0 : i0 < n) (hb : 12 < (A.getD i0 []).length) (hs : ∀ i, i < i0 → (A.getD i []).length ≤ 12) (hf : Hs w (Fn1 (A.map (fun zs => Vv zs.length zs k)) (wideB A)) f) :
  Calls Tryz.prog 53 #[u, f] w (Gives (IS (.bool true)) w) := by
 refine calls_sta (sl := [(0, (Mv n A k)), (1, (Fn1 (A.map (fun zs => Vv zs.length zs k)) (wideB A)))]) Tryz.func53 rfl Tryz.ntmps53 (by simp) (args_cons rfl (h) (args_cons rfl (hf) args_nil)) ?_
 intro a0 S0
 refine wq [kF] [] [.inr 0, .inr 1] S0 ?_ ?_
 ·apply jj1
  ·exact mC
 intro _ a1 _ (S1 : Sta w 9 [] [(0, Mv n A k), (1, (Fn1 (A.map (fun zs => Vv zs.length zs k)) (wideB A)))] _ _ _)
 refine wq [.val (Mv n A k), .val (Fn1 (A.map (fun zs => Vv zs.length zs k)) (wideB A)), .val (iV (i0 : Nat)), kT, kT] [] [.inl 4] S1 ?_ ?_
 ·apply jj5
  ·exact mS 0 0
  ·exact mS 1 1
  ·exact ch2 wA (qO 0 5 rfl) (qO 1 6 rfl) (fresh_is _) (fun w u f h hf => idxr_b w u f n k i0 A h hn lA hi0 hb hs hf)
  ·exact b_geq_int_t wA (oO 2 7) (opnd_const _)
  ·exact mO 3 8
 intro _ a2 _ (S2 : Sta w 9 [] [(4, bT)] _ _ _)
 refine wp_ret ?_
 exact end_one S2 rfl (res_tmp S2 0 4 rfl)

set_option maxHeartbeats 400000 in
theorem framed_many (w : World) (u : Value) (n k : Nat) (A : List (List Int)) (h : Hs w (Mv n A k) u) (hn : 12 < n) (lA : A.length = n) (hn2 : n ≤ 1048576) :
  Calls Tryz.prog 31 #[u] w (Gives (IS (.int .i64 40)) w) := by
 refine calls_sta (sl := [(0, (Mv n A k))]) Tryz.func31 rfl Tryz.ntmps31 (by simp) (args_cons rfl (h) args_nil) ?_
 intro a0 S0
 refine wq [.val (iV 0)] [] [.inr 0] S0 ?_ ?_
 ·apply jj1
  ·exact mC
 intro _ a1 _ (S1 : Sta w 27 [] [(0, Mv n A k)] _ _ _)
 refine wq [.val (Is (.func (.func 52) #[] #[]))] [] [.inl 0, .inr 0] S1 ?_ ?_
 ·apply jj1
  ·exact owe_move rfl wA (Or.inr rfl) (opnd_func _) rfl
 intro _ a2 _ (S2 : Sta w 27 [] [(3, Is (.func (.func 52) #[] #[])), (0, Mv n A k)] _ _ _)
 refine wp_seq (wp_block ?_)
 refine wq [.val (Mv n A k), .val (iV (n : Nat)), kT, kT, .off, .off, .off, kT, kT] [] [.inl 8, .inr 1] S2 ?_ ?_
 ·repeat' refine And.intro ?_ ?_
  ·trivial
  ·exact mS 1 0
  ·exact owe_len rfl wA rfl (oO 0 8) ar_len Tryz.underlying22 rfl
  ·exact b_gtr_int_t wA (oO 1 9) (opnd_const _)
  ·exact mO 2 10
  ·exact oF 3 11
  ·exact oF 3 11
  ·exact oF 3 11
  ·exact pT wA (oO 3 11) (opnd_const _)
  ·exact mO 7 15
 intro _ a3 _ (S3 : Sta w 27 [] [(7, bT), (0, Mv n A k)] _ _ _)
 refine wp_cond_true (S3.bool 0 7 rfl) ?_
 refine wq [.val (iV 40)] [] [.inl 0] S3 ?_ ?_
 ·apply jj1
  ·exact mC
 intro _ a4 _ (S4 : Sta w 27 [] [(2, iV 40)] _ _ _)
 refine wp_ret (inBlkR (thenR ?_))
 exact end_one S4 rfl (res_tmp S4 0 2 rfl)

set_option maxHeartbeats 400000 in
theorem framed_none (w : World) (u : Value) (n k : Nat) (A : List (List Int)) (h : Hs w (Mv n A k) u) (hn : n = 0) (lA : A.length = n) (hw : nar A) :
  Calls Tryz.prog 31 #[u] w (Gives (IS (.int .i64 41)) w) := by
 refine calls_sta (sl := [(0, (Mv n A k))]) Tryz.func31 rfl Tryz.ntmps31 (by simp) (args_cons rfl (h) args_nil) ?_
 intro a0 S0
 refine wq [.val (iV 0)] [] [.inr 0] S0 ?_ ?_
 ·apply jj1
  ·exact mC
 intro _ a1 _ (S1 : Sta w 27 [] [(0, Mv n A k)] _ _ _)
 refine wq [.val (Is (.func (.func 52) #[] #[]))] [] [.inl 0, .inr 0] S1 ?_ ?_
 ·apply jj1
  ·exact owe_move rfl wA (Or.inr rfl) (opnd_func _) rfl
 intro _ a2 _ (S2 : Sta w 27 [] [(3, Is (.func (.func 52) #[] #[])), (0, Mv n A k)] _ _ _)
 refine wp_seq (wp_block ?_)
 refine wq [.val (Mv n A k), .val (iV (n : Nat)), kF, kF, .val (Mv n A k), .val (Is (.func (.func 52) #[] #[])), kF, kF, kF] [] [.inl 8, .inr 1] S2 ?_ ?_
 ·repeat' refine And.intro ?_ ?_
  ·trivial
  ·exact mS 1 0
  ·exact owe_len rfl wA rfl (oO 0 8) ar_len Tryz.underlying22 rfl
  ·exact b_gtr_int_f wA (oO 1 9) (opnd_const _)
  ·exact mO 2 10
  ·exact mW (wI 3 11) (oS 1 0)
  ·exact mW (wI 3 11) (oS 0 3)
  ·exact owe_callh2 rfl (wI 3 11) rfl (oO 4 12) ((oO 5 13).imp (is_fn1 (fun args w => by go_simp) (fun i φ ψ h1 h2 w u hu => by obtain ⟨a, ha, rfl⟩ := map_get h1; obtain ⟨b, hb, rfl⟩ := map_get h2; exact wide_n w u a.length k a hu (hw i a ha)))) (fresh_is _) rfl (fun args w => by go_simp) (fun w u f h hf => has_n w u f n k A h (by omega) lA hf)
  ·exact pF wA (oO 3 11) (oO 6 14)
  ·exact mO 7 15
 intro _ a3 _ (S3 : Sta w 27 [] [(7, bF), (0, Mv n A k)] _ _ _)
 refine wp_cond_false (S3.bool 0 7 rfl) ?_
 refine wq [.val (Mv n A k), .val (iV (n : Nat)), kT, kT] [] [.inl 3, .inr 1] S3 ?_ ?_
 ·apply jj4
  ·exact mS 1 0
  ·exact owe_len rfl wA rfl (oO 0 17) ar_len Tryz.underlying22 rfl
  ·exact b_eql_int_t wA (oO 1 18) (opnd_const _)
  ·exact mO 2 19
 intro _ a4 _ (S4 : Sta w 27 [] [(16, bT), (0, Mv n A k)] _ _ _)
 refine wp_cond_true (S4.bool 0 16 rfl) ?_
 refine wq [.val (iV 41)] [] [.inl 0] S4 ?_ ?_
 ·apply jj1
  ·exact mC
 intro _ a5 _ (S5 : Sta w 27 [] [(2, iV 41)] _ _ _)
 refine wp_ret (inBlkR (thenR ?_))
 exact end_one S5 rfl (res_tmp S5 0 2 rfl)

set_option maxHeartbeats 400000 in
theorem framed_shape (w : World) (u : Value) (n k : Nat) (A : List (List Int)) (h : Hs w (Mv n A k) u) (hn : n ≤ 12) (lA : A.length = n) (h0 : 0 < n) (hw : nar A) (hR : ¬ reg A = true) :
  Calls Tryz.prog 31 #[u] w (Gives (IS (.int .i64 8)) w) := by
 refine calls_sta (sl := [(0, (Mv n A k))]) Tryz.func31 rfl Tryz.ntmps31 (by simp) (args_cons rfl (h) args_nil) ?_
 intro a0 S0
 refine wq [.val (iV 0)] [] [.inr 0] S0 ?_ ?_
 ·apply jj1
  ·exact mC
 intro _ a1 _ (S1 : Sta w 27 [] [(0, Mv n A k)] _ _ _)
 refine wq [.val (Is (.func (.func 52) #[] #[]))] [] [.inl 0, .inr 0] S1 ?_ ?_
 ·apply jj1
  ·exact owe_move rfl wA (Or.inr rfl) (opnd_func _) rfl
 intro _ a2 _ (S2 : Sta w 27 [] [(3, Is (.func (.func 52) #[] #[])), (0, Mv n A k)] _ _ _)
 refine wp_seq (wp_block ?_)
 refine wq [.val (Mv n A k), .val (iV (n : Nat)), kF, kF, .val (Mv n A k), .val (Is (.func (.func 52) #[] #[])), kF, kF, kF] [] [.inl 8, .inr 1] S2 ?_ ?_
 ·repeat' refine And.intro ?_ ?_
  ·trivial
  ·exact mS 1 0
  ·exact owe_len rfl wA rfl (oO 0 8) ar_len Tryz.underlying22 rfl
  ·exact b_gtr_int_f wA (oO 1 9) (opnd_const _)
  ·exact mO 2 10
  ·exact mW (wI 3 11) (oS 1 0)
  ·exact mW (wI 3 11) (oS 0 3)
  ·exact owe_callh2 rfl (wI 3 11) rfl (oO 4 12) ((oO 5 13).imp (is_fn1 (fun args w => by go_simp) (fun i φ ψ h1 h2 w u hu => by obtain ⟨a, ha, rfl⟩ := map_get h1; obtain ⟨b, hb, rfl⟩ := map_get h2; exact wide_n w u a.length k a hu (hw i a ha)))) (fresh_is _) rfl (fun args w => by go_simp) (fun w u f h hf => has_n w u f n k A h (by omega) lA hf)
  ·exact pF wA (oO 3 11) (oO 6 14)
  ·exact mO 7 15
 intro _ a3 _ (S3 : Sta w 27 [] [(7, bF), (0, Mv n A k)] _ _ _)
 refine wp_cond_false (S3.bool 0 7 rfl) ?_
 refine wq [.val (Mv n A k), .val (iV (n : Nat)), kF, kF] [] [.inl 3, .inr 1] S3 ?_ ?_
 ·apply jj4
  ·exact mS 1 0
  ·exact owe_len rfl wA rfl (oO 0 17) ar_len Tryz.underlying22 rfl
  ·exact b_eql_int_f wA (oO 1 18) (opnd_const _)
  ·exact mO 2 19
 intro _ a4 _ (S4 : Sta w 27 [] [(16, bF), (0, Mv n A k)] _ _ _)
 refine wp_cond_false (S4.bool 0 16 rfl) (wp_skip (inBlkN (thenN ?_)))
 refine wq [.val (Mv n A k), .val ((THREE (IS (.int .i64 0)) (IS (.int .i64 0)) (IS (.int .i64 8))) w.heap.size), .val ((THREE (IS (.int .i64 0)) (IS (.int .i64 0)) (IS (.int .i64 8))) w.heap.size), .val (iV 0), .val (iV 0), .val (iV 8), .val (iV 0), .val (iV 0), .val (iV 8)] [] [.inl 8] S4 ?_ ?_
 ·repeat' refine And.intro ?_ ?_
  ·trivial
  ·exact mS 1 0
  ·exact ch1 wA (qO 0 21 rfl) (fresh_three (fresh_is _) (fresh_is _) (fresh_is _)) (fun w u h => h_shape_n w u n k A h (by omega) hR)
  ·exact mO 1 22
  ·exact e30 wA (oO 2 20)
  ·exact e31 wA (oO 2 20)
  ·exact e32 wA (oO 2 20)
  ·exact mO 3 23
  ·exact mO 4 24
  ·exact mO 5 25
 intro _ a5 _ (S5 : Sta w 27 [] [(6, iV 8)] _ _ _)
 refine wq [.val (iV 8), .val (iV 8)] [] [.inl 1] S5 ?_ ?_
 ·apply jj2
  ·exact mS 0 6
  ·exact mO 0 26
 intro _ a6 _ (S6 : Sta w 27 [] [(2, iV 8)] _ _ _)
 refine wp_ret ?_
 exact end_one S6 rfl (res_tmp S6 0 2 rfl)

set_option maxHeartbeats 400000 in
theorem framed_wide (w : World) (u : Value) (n k : Nat) (A : List (List Int)) (h : Hs w (Mv n A k) u) (hn : n ≤ 12) (lA : A.length = n) (i0 : Nat) (hi0 : i0 < n) (hb : 12 < (A.getD i0 []).length) (hs : ∀ i, i < i0 → (A.getD i []).length ≤ 12) (hl : Ml A 1048576) :
  Calls Tryz.prog 31 #[u] w (Gives (IS (.int .i64 40)) w) := by
 refine calls_sta (sl := [(0, (Mv n A k))]) Tryz.func31 rfl Tryz.ntmps31 (by simp) (args_cons rfl (h) args_nil) ?_
 intro a0 S0
 refine wq [.val (iV 0)] [] [.inr 0] S0 ?_ ?_
 ·apply jj1
  ·exact mC
 intro _ a1 _ (S1 : Sta w 27 [] [(0, Mv n A k)] _ _ _)
 refine wq [.val (Is (.func (.func 52) #[] #[]))] [] [.inl 0, .inr 0] S1 ?_ ?_
 ·apply jj1
  ·exact owe_move rfl wA (Or.inr rfl) (opnd_func _) rfl
 intro _ a2 _ (S2 : Sta w 27 [] [(3, Is (.func (.func 52) #[] #[])), (0, Mv n A k)] _ _ _)
 refine wp_seq (wp_block ?_)
 refine wq [.val (Mv n A k), .val (iV (n : Nat)), kF, kF, .val (Mv n A k), .val (Is (.func (.func 52) #[] #[])), kT, kT, kT] [] [.inl 8, .inr 1] S2 ?_ ?_
 ·repeat' refine And.intro ?_ ?_
  ·trivial
  ·exact mS 1 0
  ·exact owe_len rfl wA rfl (oO 0 8) ar_len Tryz.underlying22 rfl
  ·exact b_gtr_int_f wA (oO 1 9) (opnd_const _)
  ·exact mO 2 10
  ·exact mW (wI 3 11) (oS 1 0)
  ·exact mW (wI 3 11) (oS 0 3)
  ·exact owe_callh2 rfl (wI 3 11) rfl (oO 4 12) ((oO 5 13).imp (is_fn1 (fun args w => by go_simp) (fun i φ ψ h1 h2 w u hu => by obtain ⟨a, ha, rfl⟩ := map_get h1; obtain ⟨b, hb, rfl⟩ := map_get h2; obtain rfl : a = b := Option.some.inj (ha.symm.trans hb); exact wide_any w u a.length k a hu (hl i a ha)))) (fresh_is _) rfl (fun args w => by go_simp) (fun w u f h hf => has_b w u f n k i0 A h (by omega) lA hi0 hb hs hf)
  ·exact pF wA (oO 3 11) (oO 6 14)
  ·exact mO 7 15
 intro _ a3 _ (S3 : Sta w 27 [] [(7, bT), (0, Mv n A k)] _ _ _)
 refine wp_cond_true (S3.bool 0 7 rfl) ?_
 refine wq [.val (iV 40)] [] [.inl 0] S3 ?_ ?_
 ·apply jj1
  ·exact mC
 intro _ a4 _ (S4 : Sta w 27 [] [(2, iV 40)] _ _ _)
 refine wp_ret (inBlkR (thenR ?_))
 exact end_one S4 rfl (res_tmp S4 0 2 rfl)

end Go.Proofs.YtbgelajoomneiaaGreat

/-
 gso.Wide, gso.Of, gso.Valid, where it is not well; gso.Valid where it is.
-/
namespace Go.Proofs.YtbgelajoomneiaaGreat
open Go Go.RowKit Nt
set_option linter.unusedSimpArgs false
set_option linter.unusedVariables false
set_option maxRecDepth 20000

set_option maxHeartbeats 400000 in
theorem of_big (w : World) (u : Value) (n K : Nat) (Bm : List (List Int)) (h : Hs w (Mv n Bm K) u) (hn : n ≤ 1048576) (hK : K ≤ 1048576) (hl : Ml Bm 1048576) (hb : 256 < mx (bitsM Bm)) (hb2 : mx (bitsM Bm) ≤ 1099511627776) :
  Calls Tryz.prog 5 #[u] w (Gives (TWO (IS (.agg #[.slice none 0 0, .slice none 0 0])) (IS (.int .i64 40))) w) := by
 refine calls_sta (sl := [(0, (Mv n Bm K))]) Tryz.func5 rfl Tryz.ntmps5 (by simp) (args_cons rfl (h) args_nil) ?_
 intro a0 S0
 refine wq [.new (.box 26 (Is (.agg #[.slice none 0 0, .slice none 0 0]))), .val (iV 0)] [.inl 0] [.inr 0] S0 ?_ ?_
 ·apply jj2
  ·exact owe_new rfl wA rfl rfl (fun ρ w => alloc_gso ρ _ w)
  ·exact mC
 intro _ a1 _ (S1 : Sta w 12 [(2, (.box 26 (Is (.agg #[.slice none 0 0, .slice none 0 0]))))] [(0, Mv n Bm K)] _ _ _)
 refine wp_seq ?_
 refine wq [.val (Mv n Bm K), .val (iV (mx (bitsM Bm) : Nat)), kT] [.inr 0] [.inl 2, .inr 0] S1 ?_ ?_
 ·apply jj3
  ·exact mS 0 0
  ·exact ch1 wA (qO 0 4 rfl) (fresh_is _) (fun w u h => mbits_w w u n K Bm h hn hK hl)
  ·exact b_gtr_int_t wA (oO 1 5) (opnd_const _)
 intro _ a2 _ (S2 : Sta w 12 [(2, (.box 26 (Is (.agg #[.slice none 0 0, .slice none 0 0]))))] [(6, bT), (0, Mv n Bm K)] _ _ _)
 refine wp_cond_true (S2.bool 0 6 rfl) ?_
 refine wq [.val (Is (.agg #[.slice none 0 0, .slice none 0 0])), .put (.inl 2) (.box 26 (Is (.agg #[.slice none 0 0, .slice none 0 0]))), .val (iV 40)] [.inr 0] [.inl 2] S2 ?_ ?_
 ·apply jj3
  ·exact owe_build_gso rfl wA rfl rfl
  ·exact owe_set rfl wA rfl (k := 0) rfl (by kernel_rfl) (oO 0 7) (stores_of strct_gso shp_g0 shp_g0) rfl
  ·exact mC
 intro _ a3 _ (S3 : Sta w 12 [(2, (.box 26 (Is (.agg #[.slice none 0 0, .slice none 0 0]))))] [(3, iV 40)] _ _ _)
 refine wp_ret (thenR ?_)
 exact end_two S3 rfl (res_cell S3 0 2 rfl strct_gso shp_g0) (res_tmp S3 0 3 rfl)

set_option maxHeartbeats 400000 in
theorem wide_e (w : World) (u : Value) (n K : Nat) (Bm : List (List Int)) (h : Hs w (Mv n Bm K) u) (e0 : Int) (he : e0 ≠ 0) (hF : ∀ w u, Hs w (Mv n Bm K) u → Calls Tryz.prog 31 #[u] w (Gives (IS (.int .i64 e0)) w)) :
  Calls Tryz.prog 14 #[u] w (Gives (TWO (IS (.agg #[.slice none 0 0, .slice none 0 0])) (IS (.int .i64 e0))) w) := by
 refine calls_sta (sl := [(0, (Mv n Bm K))]) Tryz.func14 rfl Tryz.ntmps14 (by simp) (args_cons rfl (h) args_nil) ?_
 intro a0 S0
 refine wq [.new (.box 26 (Is (.agg #[.slice none 0 0, .slice none 0 0]))), .val (iV 0)] [.inl 0] [.inr 0] S0 ?_ ?_
 ·apply jj2
  ·exact owe_new rfl wA rfl rfl (fun ρ w => alloc_gso ρ _ w)
  ·exact mC
 intro _ a1 _ (S1 : Sta w 50 [(2, (.box 26 (Is (.agg #[.slice none 0 0, .slice none 0 0]))))] [(0, Mv n Bm K)] _ _ _)
 refine wp_seq ?_
 refine wq [.val (Mv n Bm K), .val (iV e0), .val (iV e0)] [.inr 0] [.inl 2, .inr 0] S1 ?_ ?_
 ·apply jj3
  ·exact mS 0 0
  ·exact ch1 wA (qO 0 10 rfl) (fresh_is _) (fun w u h => hF w u h)
  ·exact mO 1 11
 intro _ a2 _ (S2 : Sta w 50 [(2, (.box 26 (Is (.agg #[.slice none 0 0, .slice none 0 0]))))] [(4, iV e0), (0, Mv n Bm K)] _ _ _)
 refine wq [.val (iV e0), kT] [.inr 0] [.inl 1, .inr 0, .inr 1] S2 ?_ ?_
 ·apply jj2
  ·exact mS 0 4
  ·exact b_neq_errno_t wA (oO 0 12) (opnd_const _) (h := he)
 intro _ a3 _ (S3 : Sta w 50 [(2, (.box 26 (Is (.agg #[.slice none 0 0, .slice none 0 0]))))] [(13, bT), (4, iV e0), (0, Mv n Bm K)] _ _ _)
 refine wp_cond_true (S3.bool 0 13 rfl) ?_
 refine wq [.val (Is (.agg #[.slice none 0 0, .slice none 0 0])), .val (iV e0), .put (.inl 2) (.box 26 (Is (.agg #[.slice none 0 0, .slice none 0 0]))), .val (iV e0)] [.inr 0] [.inl 3] S3 ?_ ?_
 ·apply jj4
  ·exact owe_build_gso rfl wA rfl rfl
  ·exact mS 1 4
  ·exact owe_set rfl wA rfl (k := 0) rfl (by kernel_rfl) (oO 0 14) (stores_of strct_gso shp_g0 shp_g0) rfl
  ·exact mO 1 15
 intro _ a4 _ (S4 : Sta w 50 [(2, (.box 26 (Is (.agg #[.slice none 0 0, .slice none 0 0]))))] [(3, iV e0)] _ _ _)
 refine wp_ret (thenR ?_)
 exact end_two S4 rfl (res_cell S4 0 2 rfl strct_gso shp_g0) (res_tmp S4 0 3 rfl)

abbrev q3kbb0  : Rk := .box 26 (Is (.agg #[.slice none 0 0, .slice none 0 0]))
set_option maxHeartbeats 400000 in
theorem of_e (w : World) (u : Value) (n K : Nat) (Bm : List (List Int)) (h : Hs w (Mv n Bm K) u) (hn : n ≤ 1048576) (hK : K ≤ 1048576) (hl : Ml Bm 1048576) (hb : mx (bitsM Bm) ≤ 256) (e0 : Int) (he : e0 ≠ 0) (hF : ∀ w u, Hs w (Mv n Bm K) u → Calls Tryz.prog 31 #[u] w (Gives (IS (.int .i64 e0)) w)) :
  Calls Tryz.prog 5 #[u] w (Gives (TWO (IS (.agg #[.slice none 0 0, .slice none 0 0])) (IS (.int .i64 e0))) w) := by
 refine calls_sta (sl := [(0, (Mv n Bm K))]) Tryz.func5 rfl Tryz.ntmps5 (by simp) (args_cons rfl (h) args_nil) ?_
 intro a0 S0
 refine wq [.new (q3kbb0), .val (iV 0)] [.inl 0] [.inr 0] S0 ?_ ?_
 ·apply jj2
  ·exact owe_new rfl wA rfl rfl (fun ρ w => alloc_gso ρ _ w)
  ·exact mC
 intro _ a1 _ (S1 : Sta w 12 [(2, (q3kbb0))] [(0, Mv n Bm K)] _ _ _)
 refine wp_seq ?_
 refine wq [.val (Mv n Bm K), .val (iV (mx (bitsM Bm) : Nat)), kF] [.inr 0] [.inl 2, .inr 0] S1 ?_ ?_
 ·apply jj3
  ·exact mS 0 0
  ·exact ch1 wA (qO 0 4 rfl) (fresh_is _) (fun w u h => mbits_w w u n K Bm h hn hK hl)
  ·exact b_gtr_int_f wA (oO 1 5) (opnd_const _)
 intro _ a2 _ (S2 : Sta w 12 [(2, (q3kbb0))] [(6, bF), (0, Mv n Bm K)] _ _ _)
 refine wp_cond_false (S2.bool 0 6 rfl) (wp_skip (thenN ?_))
 refine wq [.val (Mv n Bm K), .val ((TWO (IS (.agg #[.slice none 0 0, .slice none 0 0])) (IS (.int .i64 e0))) w.heap.size), .val (Is (.agg #[.slice none 0 0, .slice none 0 0])), .val (iV e0), .put (.inl 2) (q3kbb0), .val (iV e0)] [.inr 0] [.inl 5] S2 ?_ ?_
 ·apply jj6
  ·exact mS 1 0
  ·exact ch1 wA (qO 0 8 rfl) (fresh_two (fresh_is _) (fresh_is _)) (fun w u h => wide_e w u n K Bm h e0 he hF)
  ·exact e20 wA (oO 1 9)
  ·exact e21 wA (oO 1 9)
  ·exact owe_set rfl wA rfl (k := 0) rfl (by kernel_rfl) (oO 2 10) (stores_of strct_gso shp_g0 shp_g0) rfl
  ·exact mO 3 11
 intro _ a3 _ (S3 : Sta w 12 [(2, (q3kbb0))] [(3, iV e0)] _ _ _)
 refine wp_ret ?_
 exact end_two S3 rfl (res_cell S3 0 2 rfl strct_gso shp_g0) (res_tmp S3 0 3 rfl)

end Go.Proofs.YtbgelajoomneiaaGreat

/-
 gso.Of of every matrix: an error that is not 0, or the data of its rows.
-/
namespace Go.Proofs.YtbgelajoomneiaaGreat
open Go Go.RowKit Nt
set_option linter.unusedSimpArgs false
set_option linter.unusedVariables false
set_option maxRecDepth 20000

theorem bl_lt (n : Nat) : n < 2 ^ Go.bitLen n := by
 unfold Go.bitLen
 split
 ·rename_i h; rw [h]; exact Nat.one_pos
 ·exact Nat.lt_log2_self
theorem bl_le {n k : Nat} (h : n < 2 ^ k) : Go.bitLen n ≤ k := by
 unfold Go.bitLen
 split
 ·exact Nat.zero_le _
 ·rename_i h0
  exact (Nat.log2_lt h0).2 h
theorem foldl_max_ge (l : List Nat) : ∀ a, a ≤ l.foldl max a ∧ ∀ x ∈ l, x ≤ l.foldl max a := by
 induction l with
 | nil => intro a; exact ⟨Nat.le_refl _, fun x hx => by cases hx⟩
 | cons b r ih =>
  intro a
  obtain ⟨h1, h2⟩ := ih (max a b)
  refine ⟨Nat.le_trans (Nat.le_max_left _ _) h1, fun x hx => ?_⟩
  rcases List.mem_cons.1 hx with rfl | hx
  ·exact Nat.le_trans (Nat.le_max_right _ _) h1
  ·exact h2 x hx
theorem le_mx {l : List Nat} {x : Nat} (h : x ∈ l) : x ≤ mx l := (foldl_max_ge l 0).2 x h
theorem foldl_max_le (l : List Nat) : ∀ a k, a ≤ k → (∀ x ∈ l, x ≤ k) → l.foldl max a ≤ k := by
 induction l with
 | nil => intro a k h _; exact h
 | cons b r ih =>
  intro a k h1 h2
  exact ih _ k (Nat.max_le.2 ⟨h1, h2 b (by simp)⟩) (fun x hx => h2 x (by simp [hx]))
theorem mx_le {l : List Nat} {k : Nat} (h : ∀ x ∈ l, x ≤ k) : mx l ≤ k := foldl_max_le l 0 k (Nat.zero_le _) h
theorem bits_small {Bm : List (List Int)} (h : mx (bitsM Bm) ≤ 256) (i j : Nat) : ((Bm.getD i []).getD j 0).natAbs ≤ 2 ^ 256 := by
 rw [List.getD_eq_getElem?_getD, List.getD_eq_getElem?_getD]
 cases hi : Bm[i]? with
 | none => simp
 | some r =>
  cases hj : r[j]? with
  | none => simp [hj]
  | some z =>
   simp only [Option.getD_some, hj]
   have h1 : mx (bitsR r) ≤ mx (bitsM Bm) := le_mx (List.mem_map.2 ⟨r, List.mem_of_getElem? hi, rfl⟩)
   have h2 : Go.bitLen z.natAbs ≤ mx (bitsR r) := le_mx (List.mem_map.2 ⟨z, List.mem_of_getElem? hj, rfl⟩)
   exact Nat.le_of_lt (Nat.lt_of_lt_of_le (bl_lt _) (Nat.pow_le_pow_right (by omega) (by omega)))
theorem bits_top {Bm : List (List Int)} {K : Nat} (h : Mdl Bm K) : mx (bitsM Bm) ≤ 32 * K := by
 refine mx_le (fun x hx => ?_)
 obtain ⟨r, hr, rfl⟩ := List.mem_map.1 hx
 refine mx_le (fun y hy => ?_)
 obtain ⟨z, hz, rfl⟩ := List.mem_map.1 hy
 obtain ⟨i, hi, e1⟩ := List.getElem_of_mem hr
 obtain ⟨j, hj, e2⟩ := List.getElem_of_mem hz
 have hl := h i r (by rw [List.getElem?_eq_getElem hi, e1]) j z (by rw [List.getElem?_eq_getElem hj, e2])
 refine bl_le (Nat.lt_of_lt_of_le (lt_pow_digs z.natAbs) ?_)
 rw [show (4294967296 : Nat) = 2 ^ 32 from rfl, ← Nat.pow_mul]
 exact Nat.pow_le_pow_right (by omega) (by omega)
theorem gr_small {Bm : List (List Int)} (h : mx (bitsM Bm) ≤ 256) (hw : ∀ r, (Bm.getD r []).length ≤ 12) (r c : Nat) : (gr Bm r c).natAbs ≤ 12 * (2 ^ 256 * 2 ^ 256) := by
 show (dotR _ _).natAbs ≤ _
 rw [dot_sm _ _ 12 (hw r)]
 refine Dt.sm_abs (fun i _ => ?_)
 rw [Int.natAbs_mul]
 exact Nat.mul_le_mul (bits_small h r i) (bits_small h c i)
theorem big_pow {p k e E : Nat} (he : e = 520) (hE : E = 196) (hp : 16 * (12 * (p * p)) ≤ 2 ^ e) (hk : k < 12) : (digs ((16 * (12 * (p * p))) ^ (k + 1))).length ≤ E := by
 refine digs_length_le (Nat.lt_of_le_of_lt (Nat.pow_le_pow_left hp _) ?_)
 rw [show (4294967296 : Nat) = 2 ^ 32 from rfl, ← Nat.pow_mul, ← Nat.pow_mul]
 have : e * (k + 1) ≤ 520 * 12 := by rw [he]; exact Nat.mul_le_mul_left _ (by omega)
 exact Nat.pow_lt_pow_right (by omega) (by omega)
theorem p256 {a e : Nat} (ha : a = 256) (he : e = 520) : 16 * (12 * (2 ^ a * 2 ^ a)) ≤ 2 ^ e := by
 have h8 : (2 : Nat) ^ 8 = 256 := rfl
 rw [show e = 8 + (a + a) by omega, Nat.pow_add, Nat.pow_add 2 a a, h8]
 generalize 2 ^ a * 2 ^ a = q
 omega
theorem wd_all {Bm : List (List Int)} {n K : Nat} (hn : n ≤ 12) (hK : 196 ≤ K) (hb : mx (bitsM Bm) ≤ 256) (hw : ∀ r, (Bm.getD r []).length ≤ 12) (hd : ∀ k, k + 1 < n → gwd Bm k ≠ 0) : WdOk Bm n K := by
 obtain ⟨e, he⟩ : ∃ e : Nat, e = 520 := ⟨_, rfl⟩
 exact wd_ok (by omega) hd (fun r c _ _ => gr_small hb hw r c) (fun k hk => Nat.le_trans (big_pow he rfl (p256 rfl he) (by omega)) hK)
theorem nar_row {Bm : List (List Int)} (h : nar Bm) (r : Nat) : (Bm.getD r []).length ≤ 12 := by
 rw [List.getD_eq_getElem?_getD]
 cases e : Bm[r]? with
 | none => simp
 | some x => exact h r x e
/-- The rows are a basis. -/
structure OfOk (Bm : List (List Int)) (n : Nat) : Prop where
 pos : 0 < n
 top : n ≤ 12
 len : Bm.length = n
 nar : nar Bm
 bits : mx (bitsM Bm) ≤ 256
 ne : ∀ i, i < n → gwd Bm i ≠ 0
abbrev OfGives (n K : Nat) (Bm : List (List Int)) (ψ : Nat → Pr) : Prop := ∀ w u, Hs w (Mv n Bm K) u → Calls Tryz.prog 5 #[u] w (Gives ψ w)
theorem of_all (n K : Nat) (Bm : List (List Int)) (lB : Bm.length = n) (hn : n ≤ 1048576) (hK : K ≤ 1048576) (hK2 : 196 ≤ K) (hl : Ml Bm 1048576) (hdl : Mdl Bm K) :
  (∃ e : Int, e ≠ 0 ∧ OfGives n K Bm (TWO (IS (.agg #[.slice none 0 0, .slice none 0 0])) (IS (.int .i64 e)))) ∨ (OfOk Bm n ∧ OfGives n K Bm (TWO (GN n (gwD Bm n) (gwL Bm n)) (IS (.int .i64 0)))) := by
 by_cases hb : mx (bitsM Bm) ≤ 256
 ·by_cases h12 : n ≤ 12
  ·by_cases hw : nar Bm
   ·by_cases h0 : n = 0
    ·exact Or.inl ⟨41, by decide, fun w u h => of_e w u n K Bm h hn hK hl hb _ (by decide) (fun w u h => framed_none w u n K Bm h h0 lB hw)⟩
    ·by_cases hR : reg Bm = true
     ·have hreg := reg_y hR
      have hx : wd Bm ≤ 12 := by
       have e0 : Bm[0]? = some (Bm[0]'(by omega)) := List.getElem?_eq_getElem _
       have := hw 0 _ e0
       have := hreg 0 _ e0
       omega
      rcases first_off (fun i => decide (gwd Bm i ≠ 0)) n with h | ⟨i0, hi0, h1, h2⟩
      ·have hd : ∀ i, i < n → gwd Bm i ≠ 0 := fun i hi => of_decide_eq_true (h i hi)
       exact Or.inr ⟨⟨by omega, h12, lB, hw, hb, hd⟩, fun w u h => of_ok w u n (wd Bm) K Bm h (by omega) h12 hx (by omega) hK lB hw hreg hb (wd_all h12 hK2 hb (nar_row hw) (fun k hk => hd k (by omega))) hd⟩
      ·have hd : ∀ i, i < i0 → gwd Bm i ≠ 0 := fun i hi => of_decide_eq_true (h2 i hi)
       have hz : gwd Bm i0 = 0 := by simpa using h1
       exact Or.inl ⟨50, by decide, fun w u h => of_dep w u n (wd Bm) K Bm h i0 hi0 (by omega) h12 hx (by omega) hK lB hw hreg hb (wd_all (by omega) hK2 hb (nar_row hw) (fun k hk => hd k (by omega))) hd hz⟩
     ·exact Or.inl ⟨8, by decide, fun w u h => of_e w u n K Bm h hn hK hl hb _ (by decide) (fun w u h => framed_shape w u n K Bm h h12 lB (by omega) hw hR)⟩
   ·have : ∃ i0, i0 < n ∧ 12 < (Bm.getD i0 []).length ∧ ∀ i, i < i0 → (Bm.getD i []).length ≤ 12 := by
     rcases first_off (fun i => decide ((Bm.getD i []).length ≤ 12)) n with h | ⟨i0, hi0, h1, h2⟩
     ·exact absurd (fun i r hr => by
       have hi := (List.getElem?_eq_some_iff.1 hr).1
       have := of_decide_eq_true (h i (by omega))
       rw [List.getD_eq_getElem?_getD, hr] at this
       exact this) hw
     ·exact ⟨i0, hi0, by have := of_decide_eq_false h1; omega, fun i hi => of_decide_eq_true (h2 i hi)⟩
    obtain ⟨i0, hi0, h1, h2⟩ := this
    exact Or.inl ⟨40, by decide, fun w u h => of_e w u n K Bm h hn hK hl hb _ (by decide) (fun w u h => framed_wide w u n K Bm h h12 lB i0 hi0 h1 h2 hl)⟩
  ·exact Or.inl ⟨40, by decide, fun w u h => of_e w u n K Bm h hn hK hl hb _ (by decide) (fun w u h => framed_many w u n K Bm h (by omega) lB hn)⟩
 ·exact Or.inl ⟨40, by decide, fun w u h => of_big w u n K Bm h hn hK hl (by omega) (by have := bits_top hdl; omega)⟩
/-! What such data are. -/
theorem gw_good {Bm : List (List Int)} {n : Nat} (h : OfOk Bm n) : Good (gwD Bm n) (gwL Bm n) := by
 obtain ⟨h1, h2⟩ := gw_len Bm n
 have hL := gw_lead (fun k hk => h.ne k hk)
 have hi := (gw_is hL).1
 have hp := (gw_pos (nar_row h.nar) (i := n) h.ne).1
 refine ⟨by rw [h2]; have := h.pos; omega, by rw [h1, h2], ?_, fun i hi' => ?_, fun i hi' => ?_⟩
 ·rw [hi.d 0 (by omega)]; rfl
 ·rw [h2] at hi'; exact gwL_row Bm n i hi'
 ·rw [h2] at hi'; rw [hi.d (i + 1) (by omega)]; exact hp (i + 1) (by omega)
end Go.Proofs.YtbgelajoomneiaaGreat
