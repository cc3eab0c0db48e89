import Derived.Test.YtdiagoaakadniaaGreatMkB
import Derived.Test.YtdiagoaakadniaaGreatGlA
import Derived.Test.YtdiagoaakadniaaGreatFiC
namespace Go.Proofs.YtdiagoaakadniaaGreat
open Go Go.RowKit Nt
set_option linter.unusedSimpArgs false
set_option linter.unusedVariables false
set_option maxRecDepth 20000
set_option maxHeartbeats 16000000
theorem cel_nv {m k : Nat} : Cel 1 (Nv m k) := fun v w ⟨p, n, c, xs, e, _⟩ => by rw [e]; exact ypb rfl
theorem yoi : Ldr 24 1 := fun ρ o x w b k u hu hc hx => by
  obtain ⟨e, h1⟩ := celv1 hu
  have h2 : w.cell? ⟨b, k, none⟩ = some u := hc 0 u (by rw [e]; rfl)
  clear hc hu e
  unfold execOp
  go_simp
section
variable {ops : Array Oper} {l : List Kd} {bx : Bxs} {sl : List (Tmp × Pr)} {i : Nat} {o : Oper} {Q : Exit → Act → World → Prop} {a0 : Act} {n : Nat} {w0 : World}
theorem yhb {x : Operand} {z : Int} {k : Nat} (ho : ops[i]? = some o) (hw : Wants ops l bx sl i o) (hop : o.op = .fieldAddr 26 x 1) (hx : Opnd ops l bx sl i x (AtE 2 (Zv z k))) (hk : kdAt l i = .val (AtE 1 (Nv z.natAbs k))) : Owed Tryz.prog ops Q l bx sl a0 n w0 i :=
 ycx ho hw hk fun vs B a w c => by
  have h := hx a0 n w0 vs B a w c
  obtain ⟨b, f, u, e, _, _, _⟩ := id h.now
  refine ⟨.pointer (some ⟨b, f + 1, none⟩), ?_, fun w' ev => ?_⟩
  ·rw [← ygu a.eval o x w b f e]
   unfold execOp
   rw [hop]
  ·obtain ⟨b', f', u', e', hc', hs', s, p, m, c', xs, rfl, h1, h2, h3⟩ := h w' ev
   rw [e] at e'
   simp at e'
   obtain ⟨rfl, rfl⟩ := e'
   refine ⟨b, f + 1, .slice p m c', rfl, fun j y hy => ?_, rfl, p, m, c', xs, rfl, h1, by rw [← h2, Go.Proofs.YtdiagoaakadniaaGreat.sg_abs], h3⟩
   match j, hy with
   | 0, hy =>
    simp [Value.cells] at hy
    subst hy
    exact hc' 1 _ rfl
   | j + 1, hy => simp [Value.cells] at hy
theorem yhq (ho : ops[i]? = some o) (hw : Wants ops l bx sl i o) (hop : o.op = .build 55 #[]) (hk : kdAt l i = .val (Is (.agg #[.slice none 0 0, .slice none 0 0]))) : Owed Tryz.prog ops Q l bx sl a0 n w0 i :=
  yhr ho hw hk fun vs B a w c => by
    unfold execOp
    rw [hop]
    go_simp
end
def RowOk (r : List Int) : Prop := r.length ≤ 12 ∧ ∀ k, k < r.length → Go.bitLen (r.getD k 0).natAbs ≤ 256
def RowBad (r : List Int) : Prop := 12 < r.length ∨ (r.length ≤ 12 ∧ ∃ k1, k1 < r.length ∧ (∀ k, k < k1 → Go.bitLen (r.getD k 0).natAbs ≤ 256) ∧ 256 < Go.bitLen (r.getD k1 0).natAbs)
theorem row_or (r : List Int) : RowOk r ∨ RowBad r := by
 by_cases h : r.length ≤ 12
 ·rcases yd7 (fun k => decide (Go.bitLen (r.getD k 0).natAbs ≤ 256)) r.length with h1 | ⟨k1, h1, h2, h3⟩
  ·exact Or.inl ⟨h, fun k hk => of_decide_eq_true (h1 k hk)⟩
  ·exact Or.inr (Or.inr ⟨h, k1, h1, fun k hk => of_decide_eq_true (h3 k hk), by have := of_decide_eq_false h2; omega⟩)
 ·exact Or.inr (Or.inl (by omega))
theorem rows_or (Bm : List (List Int)) : (∀ i, i < Bm.length → RowOk (Bm.getD i [])) ∨ ∃ i0, i0 < Bm.length ∧ (∀ i, i < i0 → RowOk (Bm.getD i [])) ∧ RowBad (Bm.getD i0 []) := by
 have key : ∀ n, (∀ i, i < n → RowOk (Bm.getD i [])) ∨ ∃ i0, i0 < n ∧ (∀ i, i < i0 → RowOk (Bm.getD i [])) ∧ RowBad (Bm.getD i0 []) := by
  intro n
  induction n with
  | zero => exact Or.inl (fun i hi => by omega)
  | succ n ih =>
   rcases ih with h | ⟨i0, h1, h2, h3⟩
   ·rcases row_or (Bm.getD n []) with h' | h'
    ·refine Or.inl (fun i hi => ?_)
     rcases Nat.lt_or_ge i n with h2 | h2
     ·exact h i h2
     ·obtain rfl : i = n := by omega
      exact h'
    ·exact Or.inr ⟨n, by omega, h, h'⟩
   ·exact Or.inr ⟨i0, by omega, h2, h3⟩
 exact key _
theorem r5sh_many (w : World) (u : Value) (n K : Nat) (Bm : List (List Int)) (h : Hs w (Mv n Bm K) u) (hn : n ≤ 1048576) (hK : K ≤ 1048576) (lB : Bm.length = n) (hl : Ml Bm 1048576) (h12 : 12 < n) :
  Calls Tryz.prog 51 #[u, .bool true] w (Gives (IS (.int .i64 40)) w) := by
 refine yam (sl := [(0, (Mv n Bm K)), (1, bT)]) Tryz.func51 rfl Tryz.ntmps51 (by simp) (yab rfl (h) (yab rfl (ygn _) yaq)) ?_
 intro a0 S0
 refine wq [.val (iV 0)] [] [.inr 0, .inr 1] S0 ?_ ?_
 ·apply jj1
  ·exact mC
 intro _ a1 _ (S1 : Sta w 64 [] [(0, Mv n Bm K), (1, bT)] _ _ _)
 refine wp_seq ?_
 refine wq [.val (Mv n Bm K), .val (iV (n : Nat)), kT] [] [.inl 2, .inr 0, .inr 1] S1 ?_ ?_
 ·apply jj3
  ·exact mS 0 0
  ·exact yal rfl wA rfl (oO 0 8) yaw Tryz.underlying22 rfl
  ·exact ydr wA (oO 1 9) (yaa _)
 intro _ a2 _ (S2 : Sta w 64 [] [(10, bT), (0, Mv n Bm K), (1, bT)] _ _ _)
 refine wp_cond_true (S2.bool 0 10 rfl) ?_
 refine wq [.val (iV 40)] [] [.inl 0] S2 ?_ ?_
 ·apply jj1
  ·exact mC
 intro _ a3 _ (S3 : Sta w 64 [] [(4, iV 40)] _ _ _)
 refine wp_ret (thenR ?_)
 exact ybe S3 rfl (yay S3 0 4 rfl)
theorem r5sh_none (w : World) (u : Value) (n K : Nat) (Bm : List (List Int)) (h : Hs w (Mv n Bm K) u) (hn : n ≤ 1048576) (hK : K ≤ 1048576) (lB : Bm.length = n) (hl : Ml Bm 1048576) (h0 : n = 0) :
  Calls Tryz.prog 51 #[u, .bool true] w (Gives (IS (.int .i64 41)) w) := by
 refine yam (sl := [(0, (Mv n Bm K)), (1, bT)]) Tryz.func51 rfl Tryz.ntmps51 (by simp) (yab rfl (h) (yab rfl (ygn _) yaq)) ?_
 intro a0 S0
 refine wq [.val (iV 0)] [] [.inr 0, .inr 1] S0 ?_ ?_
 ·apply jj1
  ·exact mC
 intro _ a1 _ (S1 : Sta w 64 [] [(0, Mv n Bm K), (1, bT)] _ _ _)
 refine wp_seq ?_
 refine wq [.val (Mv n Bm K), .val (iV (n : Nat)), kF] [] [.inl 2, .inr 0, .inr 1] S1 ?_ ?_
 ·apply jj3
  ·exact mS 0 0
  ·exact yal rfl wA rfl (oO 0 8) yaw Tryz.underlying22 rfl
  ·exact yb0 wA (oO 1 9) (yaa _)
 intro _ a2 _ (S2 : Sta w 64 [] [(10, bF), (0, Mv n Bm K), (1, bT)] _ _ _)
 refine wp_cond_false (S2.bool 0 10 rfl) (wp_skip (thenN (wp_seq ?_)))
 refine wq [.val (iV 0)] [] [.inl 0, .inr 1, .inr 2] S2 ?_ ?_
 ·apply jj1
  ·exact mC
 intro B3 a3 _ (S3 : Sta w 64 [] [(5, iV 0), (0, Mv n Bm K), (1, bT)] _ _ _)
 refine wp_block ?_
 refine yan (fun (i0 : Nat) a W => (i0 = 0) ∧ ∃ Bq, Sta w 64 [] [(5, iV (i0 : Nat)), (0, Mv n Bm K), (1, bT)] Bq a W) (fun (i0 : Nat) => n - i0) ?_ 0 ⟨rfl, B3, S3.sub [] [0, 1, 2]⟩
 rintro i0 a4 _ ⟨hcond, _, S4⟩
 ·skip
  refine wp_seq ?_
  refine wq [.val (iV (i0 : Nat)), .val (Mv n Bm K), .val (iV (n : Nat)), kF] [] [.inl 3, .inr 0, .inr 1, .inr 2] S4 ?_ ?_
  ·apply jj4
   ·exact mS 0 5
   ·exact mS 1 0
   ·exact yal rfl wA rfl (oO 1 12) yaw Tryz.underlying22 rfl
   ·exact yaz wA (oO 0 11) (oO 2 13)
  intro _ a5 _ (S5 : Sta w 64 [] [(14, bF), (5, iV (i0 : Nat)), (0, Mv n Bm K), (1, bT)] _ _ _)
  refine wp_cond_false (S5.bool 0 14 rfl) (wp_exit (thenX (thenX (inBlkE (thenN (wp_seq ?_))))))
  refine wq [.val (Mv n Bm K), .val (iV (n : Nat)), kT] [] [.inl 2, .inr 1, .inr 2, .inr 3] S5 ?_ ?_
  ·apply jj3
   ·exact mS 2 0
   ·exact yal rfl wA rfl (oO 0 45) yaw Tryz.underlying22 rfl
   ·exact yd4 wA (oO 1 46) (yaa _)
  intro _ a6 _ (S6 : Sta w 64 [] [(47, bT), (5, iV (i0 : Nat)), (0, Mv n Bm K), (1, bT)] _ _ _)
  refine wp_cond_true (S6.bool 0 47 rfl) ?_
  refine wq [.val (iV 41)] [] [.inl 0, .inr 1, .inr 2, .inr 3] S6 ?_ ?_
  ·apply jj1
   ·exact mC
  intro _ a7 _ (S7 : Sta w 64 [] [(4, iV 41), (5, iV (i0 : Nat)), (0, Mv n Bm K), (1, bT)] _ _ _)
  refine wp_ret (thenR ?_)
  exact ybe S7 rfl (yay S7 0 4 rfl)
abbrev ydh (K : Nat) (Bm : List (List Int)) (i0 : Nat) : Pr := Vv ((Bm.getD i0 []).length) (Bm.getD i0 []) K
theorem ylk (w : World) (u : Value) (n K : Nat) (Bm : List (List Int)) (h : Hs w (Mv n Bm K) u) (hn : n ≤ 1048576) (hK : K ≤ 1048576) (lB : Bm.length = n) (hl : Ml Bm 1048576) (h12 : n ≤ 12) (h0 : 0 < n) (J j1 : Nat) (e0 : Int) (hs : ∀ i, i < J → RowOk (Bm.getD i [])) (hr : ∀ i, i < j1 → (Bm.getD i []).length = (Bm.getD 0 []).length) (hc : (J < n ∧ RowBad (Bm.getD J []) ∧ e0 = 40) ∨ (J = n ∧ j1 < n ∧ (Bm.getD j1 []).length ≠ (Bm.getD 0 []).length ∧ e0 = 8) ∨ (J = n ∧ j1 = n ∧ e0 = 0)) :
  Calls Tryz.prog 51 #[u, .bool true] w (Gives (IS (.int .i64 e0)) w) := by
 have hJn : J ≤ n := by
  rcases hc with ⟨h9, _⟩ | ⟨h9, _⟩ | ⟨h9, _⟩ <;> omega
 refine yam (sl := [(0, (Mv n Bm K)), (1, bT)]) Tryz.func51 rfl Tryz.ntmps51 (by simp) (yab rfl (h) (yab rfl (ygn _) yaq)) ?_
 intro a0 S0
 refine wq [.val (iV 0)] [] [.inr 0, .inr 1] S0 ?_ ?_
 ·apply jj1
  ·exact mC
 intro _ a1 _ (S1 : Sta w 64 [] [(0, Mv n Bm K), (1, bT)] _ _ _)
 refine wp_seq ?_
 refine wq [.val (Mv n Bm K), .val (iV (n : Nat)), kF] [] [.inl 2, .inr 0, .inr 1] S1 ?_ ?_
 ·apply jj3
  ·exact mS 0 0
  ·exact yal rfl wA rfl (oO 0 8) yaw Tryz.underlying22 rfl
  ·exact yb0 wA (oO 1 9) (yaa _)
 intro _ a2 _ (S2 : Sta w 64 [] [(10, bF), (0, Mv n Bm K), (1, bT)] _ _ _)
 refine wp_cond_false (S2.bool 0 10 rfl) (wp_skip (thenN (wp_seq ?_)))
 refine wq [.val (iV 0)] [] [.inl 0, .inr 1, .inr 2] S2 ?_ ?_
 ·apply jj1
  ·exact mC
 intro B3 a3 _ (S3 : Sta w 64 [] [(5, iV 0), (0, Mv n Bm K), (1, bT)] _ _ _)
 refine wp_block ?_
 refine yan (fun (i0 : Nat) a W => (i0 ≤ J) ∧ ∃ Bq, Sta w 64 [] [(5, iV (i0 : Nat)), (0, Mv n Bm K), (1, bT)] Bq a W) (fun (i0 : Nat) => n - i0) ?_ 0 ⟨Nat.zero_le _, B3, S3.sub [] [0, 1, 2]⟩
 rintro i0 a4 _ ⟨hcond, _, S4⟩
 by_cases hlt : i0 < n
 ·have hli : (Bm.getD i0 []).length ≤ 1048576 := hl i0 _ (by rw [List.getD_eq_getElem?_getD, List.getElem?_eq_getElem (by omega)]; rfl)
  refine wp_seq ?_
  refine wq [.val (iV (i0 : Nat)), .val (Mv n Bm K), .val (iV (n : Nat)), kT] [] [.inl 3, .inr 0, .inr 1, .inr 2] S4 ?_ ?_
  ·apply jj4
   ·exact mS 0 5
   ·exact mS 1 0
   ·exact yal rfl wA rfl (oO 1 12) yaw Tryz.underlying22 rfl
   ·exact yar wA (oO 0 11) (oO 2 13)
  intro B5 a5 W5 (S5 : Sta w 64 [] [(14, bT), (5, iV (i0 : Nat)), (0, Mv n Bm K), (1, bT)] _ _ _)
  refine wp_cond_true (S5.bool 0 14 rfl) (wp_skip (thenN ?_))
  rcases Nat.lt_or_ge i0 J with hlJ | hlJ
  ·skip
   have hrow := hs i0 hlJ
   have hr1 := hrow.1
   refine wp_seq (wp_block (wp_seq ?_))
   refine wq [.val (Mv n Bm K), .val (iV (i0 : Nat)), .val (AtE 1 (ydh K Bm i0)), .val (ydh K Bm i0), .val (iV ((Bm.getD i0 []).length : Nat)), kF] [] [.inl 5, .inr 1, .inr 2, .inr 3] S5 ?_ ?_
   ·apply jj6
    ·exact mS 2 0
    ·exact mS 1 5
    ·exact yae rfl wA rfl ya8 (oO 0 17) (oO 1 18) (yda (k := i0) (by omega)) rfl
    ·exact yag rfl wA rfl ya9 (by decide) yb3 (oO 2 19) rfl
    ·exact yal rfl wA rfl (oO 3 20) yaw Tryz.underlying39 rfl
    ·exact yb0 wA (oO 4 21) (yaa _)
   intro B6 a6 W6 (S6 : Sta w 64 [] [(22, bF), (5, iV (i0 : Nat)), (0, Mv n Bm K), (1, bT)] _ _ _)
   refine wp_cond_false (S6.bool 0 22 rfl) (wp_skip (thenN ?_))
   refine wq [.val (iV 0)] [] [.inl 0, .inr 1, .inr 2, .inr 3] S6 ?_ ?_
   ·apply jj1
    ·exact mC
   intro B7 a7 W7 (S7 : Sta w 64 [] [(6, iV 0), (5, iV (i0 : Nat)), (0, Mv n Bm K), (1, bT)] _ _ _)
   refine wp_block ?_
   refine yan (fun (k0 : Nat) a W => (k0 ≤ (Bm.getD i0 []).length) ∧ ∃ Bq, Sta w 64 [] [(6, iV (k0 : Nat)), (5, iV (i0 : Nat)), (0, Mv n Bm K), (1, bT)] Bq a W) (fun (k0 : Nat) => (Bm.getD i0 []).length - k0) ?_ 0 ⟨Nat.zero_le _, B7, S7.sub [] [0, 1, 2, 3]⟩
   rintro k0 a8 W8 ⟨hcond, B8, S8⟩
   by_cases hlk : k0 < (Bm.getD i0 []).length
   ·have hbk := hrow.2 k0 hlk
    refine wp_seq ?_
    refine wq [.val (iV (k0 : Nat)), .val (Mv n Bm K), .val (iV (i0 : Nat)), .val (AtE 1 (ydh K Bm i0)), .val (ydh K Bm i0), .val (iV ((Bm.getD i0 []).length : Nat)), kT] [] [.inl 6, .inr 0, .inr 1, .inr 2, .inr 3] S8 ?_ ?_
    ·repeat' refine And.intro ?_ ?_
     ·trivial
     ·exact mS 0 6
     ·exact mS 2 0
     ·exact mS 1 5
     ·exact yae rfl wA rfl ya8 (oO 1 24) (oO 2 25) (yda (k := i0) (by omega)) rfl
     ·exact yag rfl wA rfl ya9 (by decide) yb3 (oO 3 26) rfl
     ·exact yal rfl wA rfl (oO 4 27) yaw Tryz.underlying39 rfl
     ·exact yar wA (oO 0 23) (oO 5 28)
    intro B9 a9 W9 (S9 : Sta w 64 [] [(29, bT), (6, iV (k0 : Nat)), (5, iV (i0 : Nat)), (0, Mv n Bm K), (1, bT)] _ _ _)
    refine wp_cond_true (S9.bool 0 29 rfl) (wp_skip (thenN (wp_seq (wp_block ?_))))
    refine wq [kT, kT, .val (Mv n Bm K), .val (iV (i0 : Nat)), .val (AtE 1 (ydh K Bm i0)), .val (ydh K Bm i0), .val (iV (k0 : Nat)), .val (AtE 2 (Zv ((Bm.getD i0 []).getD k0 0) K)), .val (AtE 1 (Nv (((Bm.getD i0 []).getD k0 0).natAbs) K)), .val (Nv (((Bm.getD i0 []).getD k0 0).natAbs) K), .val (Is (.int .i64 (Go.bitLen (((Bm.getD i0 []).getD k0 0).natAbs) : Nat))), kF, kF] [] [.inl 12, .inr 1, .inr 2, .inr 3, .inr 4] S9 ?_ ?_
    ·repeat' refine And.intro ?_ ?_
     ·trivial
     ·exact mS 4 1
     ·exact mO 0 32
     ·exact mW (wI 1 33) (oS 3 0)
     ·exact mW (wI 1 33) (oS 2 5)
     ·exact yae rfl (wI 1 33) rfl ya8 (oO 2 34) (oO 3 35) (yda (k := i0) (by omega)) rfl
     ·exact yag rfl (wI 1 33) rfl ya9 (by decide) yb3 (oO 4 36) rfl
     ·exact mW (wI 1 33) (oS 1 6)
     ·exact yae rfl (wI 1 33) rfl yby (oO 5 37) (oO 6 38) (yhj (by omega)) rfl
     ·exact yhb rfl (wI 1 33) rfl (oO 7 39) rfl
     ·exact yag rfl (wI 1 33) rfl yoi (by decide) cel_nv (oO 8 40) rfl
     ·exact cc1 (wI 1 33) (qO 9 41 rfl) (yak _) (fun w u h1 => g_rbits1 (by omega) w u h1)
     ·exact yb0 (wI 1 33) (oO 10 42) (yaa _)
     ·exact pT wA (oO 1 33) (oO 11 43)
    intro B10 a10 W10 (S10 : Sta w 64 [] [(44, bF), (6, iV (k0 : Nat)), (5, iV (i0 : Nat)), (0, Mv n Bm K), (1, bT)] _ _ _)
    refine wp_cond_false (S10.bool 0 44 rfl) (wp_skip (inBlkN (thenN ?_)))
    refine wr [.val (iV (k0 : Nat)), .val (iV (k0 + 1 : Nat)), .val (iV (k0 + 1 : Nat))] [] [.inl 2, .inr 2, .inr 3, .inr 4] S10 ?_ ?_
    ·apply jj3
     ·exact mS 1 6
     ·exact ya3 wA (oO 0 30) (yaa _)
     ·exact mO 1 31
    intro B11 a11 W11 (S11 : Sta w 64 [] [(6, iV (k0 + 1 : Nat)), (5, iV (i0 : Nat)), (0, Mv n Bm K), (1, bT)] _ _ _)
    refine thenN ?_
    exact ⟨k0 + 1, ⟨by omega, B11, S11.sub [] [0, 1, 2, 3]⟩, by omega⟩
   ·skip
    refine wp_seq ?_
    refine wq [.val (iV (k0 : Nat)), .val (Mv n Bm K), .val (iV (i0 : Nat)), .val (AtE 1 (ydh K Bm i0)), .val (ydh K Bm i0), .val (iV ((Bm.getD i0 []).length : Nat)), kF] [] [.inl 6, .inr 0, .inr 1, .inr 2, .inr 3] S8 ?_ ?_
    ·repeat' refine And.intro ?_ ?_
     ·trivial
     ·exact mS 0 6
     ·exact mS 2 0
     ·exact mS 1 5
     ·exact yae rfl wA rfl ya8 (oO 1 24) (oO 2 25) (yda (k := i0) (by omega)) rfl
     ·exact yag rfl wA rfl ya9 (by decide) yb3 (oO 3 26) rfl
     ·exact yal rfl wA rfl (oO 4 27) yaw Tryz.underlying39 rfl
     ·exact yaz wA (oO 0 23) (oO 5 28)
    intro B9 a9 W9 (S9 : Sta w 64 [] [(29, bF), (6, iV (k0 : Nat)), (5, iV (i0 : Nat)), (0, Mv n Bm K), (1, bT)] _ _ _)
    refine wp_cond_false (S9.bool 0 29 rfl) (wp_exit (thenX (thenX (inBlkE (inBlkN (thenN ?_))))))
    refine wr [.val (iV (i0 : Nat)), .val (iV (i0 + 1 : Nat)), .val (iV (i0 + 1 : Nat))] [] [.inl 2, .inr 1, .inr 3, .inr 4] S9 ?_ ?_
    ·apply jj3
     ·exact mS 2 5
     ·exact ya3 wA (oO 0 15) (yaa _)
     ·exact mO 1 16
    intro B10 a10 W10 (S10 : Sta w 64 [] [(5, iV (i0 + 1 : Nat)), (6, iV (k0 : Nat)), (0, Mv n Bm K), (1, bT)] _ _ _)
    refine thenN ?_
    exact ⟨i0 + 1, ⟨by omega, B10, S10.sub [] [0, 2, 3]⟩, by omega⟩
  ·skip
   have ej : i0 = J := by omega
   obtain ⟨hb, rfl⟩ : RowBad (Bm.getD i0 []) ∧ e0 = 40 := by
    rcases hc with ⟨_, h9, h8⟩ | ⟨h9, _⟩ | ⟨h9, _⟩
    ·rw [ej]; exact ⟨h9, h8⟩
    ·exfalso; omega
    ·exfalso; omega
   rcases hb with hb | ⟨hb, k1, hk0, hks, hk1⟩
   ·skip
    refine wp_seq (wp_block (wp_seq ?_))
    refine wq [.val (Mv n Bm K), .val (iV (i0 : Nat)), .val (AtE 1 (ydh K Bm i0)), .val (ydh K Bm i0), .val (iV ((Bm.getD i0 []).length : Nat)), kT] [] [.inl 5, .inr 1, .inr 2, .inr 3] S5 ?_ ?_
    ·apply jj6
     ·exact mS 2 0
     ·exact mS 1 5
     ·exact yae rfl wA rfl ya8 (oO 0 17) (oO 1 18) (yda (k := i0) (by omega)) rfl
     ·exact yag rfl wA rfl ya9 (by decide) yb3 (oO 2 19) rfl
     ·exact yal rfl wA rfl (oO 3 20) yaw Tryz.underlying39 rfl
     ·exact ydr wA (oO 4 21) (yaa _)
    intro B6 a6 W6 (S6 : Sta w 64 [] [(22, bT), (5, iV (i0 : Nat)), (0, Mv n Bm K), (1, bT)] _ _ _)
    refine wp_cond_true (S6.bool 0 22 rfl) ?_
    refine wq [.val (iV 40)] [] [.inl 0, .inr 1, .inr 2, .inr 3] S6 ?_ ?_
    ·apply jj1
     ·exact mC
    intro B7 a7 W7 (S7 : Sta w 64 [] [(4, iV 40), (5, iV (i0 : Nat)), (0, Mv n Bm K), (1, bT)] _ _ _)
    refine wp_ret (thenR (inBlkR (thenR (thenR (inBlkR (thenR ?_))))))
    exact ybe S7 rfl (yay S7 0 4 rfl)
   ·skip
    refine wp_seq (wp_block (wp_seq ?_))
    refine wq [.val (Mv n Bm K), .val (iV (i0 : Nat)), .val (AtE 1 (ydh K Bm i0)), .val (ydh K Bm i0), .val (iV ((Bm.getD i0 []).length : Nat)), kF] [] [.inl 5, .inr 1, .inr 2, .inr 3] S5 ?_ ?_
    ·apply jj6
     ·exact mS 2 0
     ·exact mS 1 5
     ·exact yae rfl wA rfl ya8 (oO 0 17) (oO 1 18) (yda (k := i0) (by omega)) rfl
     ·exact yag rfl wA rfl ya9 (by decide) yb3 (oO 2 19) rfl
     ·exact yal rfl wA rfl (oO 3 20) yaw Tryz.underlying39 rfl
     ·exact yb0 wA (oO 4 21) (yaa _)
    intro B6 a6 W6 (S6 : Sta w 64 [] [(22, bF), (5, iV (i0 : Nat)), (0, Mv n Bm K), (1, bT)] _ _ _)
    refine wp_cond_false (S6.bool 0 22 rfl) (wp_skip (thenN ?_))
    refine wq [.val (iV 0)] [] [.inl 0, .inr 1, .inr 2, .inr 3] S6 ?_ ?_
    ·apply jj1
     ·exact mC
    intro B7 a7 W7 (S7 : Sta w 64 [] [(6, iV 0), (5, iV (i0 : Nat)), (0, Mv n Bm K), (1, bT)] _ _ _)
    refine wp_block ?_
    refine yan (fun (k0 : Nat) a W => (k0 ≤ k1) ∧ ∃ Bq, Sta w 64 [] [(6, iV (k0 : Nat)), (5, iV (i0 : Nat)), (0, Mv n Bm K), (1, bT)] Bq a W) (fun (k0 : Nat) => (Bm.getD i0 []).length - k0) ?_ 0 ⟨Nat.zero_le _, B7, S7.sub [] [0, 1, 2, 3]⟩
    rintro k0 a8 W8 ⟨hcond, B8, S8⟩
    by_cases hlk : k0 < k1
    ·have hbk := hks k0 hlk
     refine wp_seq ?_
     refine wq [.val (iV (k0 : Nat)), .val (Mv n Bm K), .val (iV (i0 : Nat)), .val (AtE 1 (ydh K Bm i0)), .val (ydh K Bm i0), .val (iV ((Bm.getD i0 []).length : Nat)), kT] [] [.inl 6, .inr 0, .inr 1, .inr 2, .inr 3] S8 ?_ ?_
     ·repeat' refine And.intro ?_ ?_
      ·trivial
      ·exact mS 0 6
      ·exact mS 2 0
      ·exact mS 1 5
      ·exact yae rfl wA rfl ya8 (oO 1 24) (oO 2 25) (yda (k := i0) (by omega)) rfl
      ·exact yag rfl wA rfl ya9 (by decide) yb3 (oO 3 26) rfl
      ·exact yal rfl wA rfl (oO 4 27) yaw Tryz.underlying39 rfl
      ·exact yar wA (oO 0 23) (oO 5 28)
     intro B9 a9 W9 (S9 : Sta w 64 [] [(29, bT), (6, iV (k0 : Nat)), (5, iV (i0 : Nat)), (0, Mv n Bm K), (1, bT)] _ _ _)
     refine wp_cond_true (S9.bool 0 29 rfl) (wp_skip (thenN (wp_seq (wp_block ?_))))
     refine wq [kT, kT, .val (Mv n Bm K), .val (iV (i0 : Nat)), .val (AtE 1 (ydh K Bm i0)), .val (ydh K Bm i0), .val (iV (k0 : Nat)), .val (AtE 2 (Zv ((Bm.getD i0 []).getD k0 0) K)), .val (AtE 1 (Nv (((Bm.getD i0 []).getD k0 0).natAbs) K)), .val (Nv (((Bm.getD i0 []).getD k0 0).natAbs) K), .val (Is (.int .i64 (Go.bitLen (((Bm.getD i0 []).getD k0 0).natAbs) : Nat))), kF, kF] [] [.inl 12, .inr 1, .inr 2, .inr 3, .inr 4] S9 ?_ ?_
     ·repeat' refine And.intro ?_ ?_
      ·trivial
      ·exact mS 4 1
      ·exact mO 0 32
      ·exact mW (wI 1 33) (oS 3 0)
      ·exact mW (wI 1 33) (oS 2 5)
      ·exact yae rfl (wI 1 33) rfl ya8 (oO 2 34) (oO 3 35) (yda (k := i0) (by omega)) rfl
      ·exact yag rfl (wI 1 33) rfl ya9 (by decide) yb3 (oO 4 36) rfl
      ·exact mW (wI 1 33) (oS 1 6)
      ·exact yae rfl (wI 1 33) rfl yby (oO 5 37) (oO 6 38) (yhj (by omega)) rfl
      ·exact yhb rfl (wI 1 33) rfl (oO 7 39) rfl
      ·exact yag rfl (wI 1 33) rfl yoi (by decide) cel_nv (oO 8 40) rfl
      ·exact cc1 (wI 1 33) (qO 9 41 rfl) (yak _) (fun w u h1 => g_rbits1 (by omega) w u h1)
      ·exact yb0 (wI 1 33) (oO 10 42) (yaa _)
      ·exact pT wA (oO 1 33) (oO 11 43)
     intro B10 a10 W10 (S10 : Sta w 64 [] [(44, bF), (6, iV (k0 : Nat)), (5, iV (i0 : Nat)), (0, Mv n Bm K), (1, bT)] _ _ _)
     refine wp_cond_false (S10.bool 0 44 rfl) (wp_skip (inBlkN (thenN ?_)))
     refine wr [.val (iV (k0 : Nat)), .val (iV (k0 + 1 : Nat)), .val (iV (k0 + 1 : Nat))] [] [.inl 2, .inr 2, .inr 3, .inr 4] S10 ?_ ?_
     ·apply jj3
      ·exact mS 1 6
      ·exact ya3 wA (oO 0 30) (yaa _)
      ·exact mO 1 31
     intro B11 a11 W11 (S11 : Sta w 64 [] [(6, iV (k0 + 1 : Nat)), (5, iV (i0 : Nat)), (0, Mv n Bm K), (1, bT)] _ _ _)
     refine thenN ?_
     exact ⟨k0 + 1, ⟨by omega, B11, S11.sub [] [0, 1, 2, 3]⟩, by omega⟩
    ·have ek : k0 = k1 := by omega
     rw [← ek] at hk1
     refine wp_seq ?_
     refine wq [.val (iV (k0 : Nat)), .val (Mv n Bm K), .val (iV (i0 : Nat)), .val (AtE 1 (ydh K Bm i0)), .val (ydh K Bm i0), .val (iV ((Bm.getD i0 []).length : Nat)), kT] [] [.inl 6, .inr 0, .inr 1, .inr 2, .inr 3] S8 ?_ ?_
     ·repeat' refine And.intro ?_ ?_
      ·trivial
      ·exact mS 0 6
      ·exact mS 2 0
      ·exact mS 1 5
      ·exact yae rfl wA rfl ya8 (oO 1 24) (oO 2 25) (yda (k := i0) (by omega)) rfl
      ·exact yag rfl wA rfl ya9 (by decide) yb3 (oO 3 26) rfl
      ·exact yal rfl wA rfl (oO 4 27) yaw Tryz.underlying39 rfl
      ·exact yar wA (oO 0 23) (oO 5 28)
     intro B9 a9 W9 (S9 : Sta w 64 [] [(29, bT), (6, iV (k0 : Nat)), (5, iV (i0 : Nat)), (0, Mv n Bm K), (1, bT)] _ _ _)
     refine wp_cond_true (S9.bool 0 29 rfl) (wp_skip (thenN (wp_seq (wp_block ?_))))
     refine wq [kT, kT, .val (Mv n Bm K), .val (iV (i0 : Nat)), .val (AtE 1 (ydh K Bm i0)), .val (ydh K Bm i0), .val (iV (k0 : Nat)), .val (AtE 2 (Zv ((Bm.getD i0 []).getD k0 0) K)), .val (AtE 1 (Nv (((Bm.getD i0 []).getD k0 0).natAbs) K)), .val (Nv (((Bm.getD i0 []).getD k0 0).natAbs) K), .val (Is (.int .i64 (Go.bitLen (((Bm.getD i0 []).getD k0 0).natAbs) : Nat))), kT, kT] [] [.inl 12, .inr 1, .inr 2, .inr 3, .inr 4] S9 ?_ ?_
     ·repeat' refine And.intro ?_ ?_
      ·trivial
      ·exact mS 4 1
      ·exact mO 0 32
      ·exact mW (wI 1 33) (oS 3 0)
      ·exact mW (wI 1 33) (oS 2 5)
      ·exact yae rfl (wI 1 33) rfl ya8 (oO 2 34) (oO 3 35) (yda (k := i0) (by omega)) rfl
      ·exact yag rfl (wI 1 33) rfl ya9 (by decide) yb3 (oO 4 36) rfl
      ·exact mW (wI 1 33) (oS 1 6)
      ·exact yae rfl (wI 1 33) rfl yby (oO 5 37) (oO 6 38) (yhj (by omega)) rfl
      ·exact yhb rfl (wI 1 33) rfl (oO 7 39) rfl
      ·exact yag rfl (wI 1 33) rfl yoi (by decide) cel_nv (oO 8 40) rfl
      ·exact cc1 (wI 1 33) (qO 9 41 rfl) (yak _) (fun w u h1 => g_rbits1 (by omega) w u h1)
      ·exact ydr (wI 1 33) (oO 10 42) (yaa _)
      ·exact pT wA (oO 1 33) (oO 11 43)
     intro B10 a10 W10 (S10 : Sta w 64 [] [(44, bT), (6, iV (k0 : Nat)), (5, iV (i0 : Nat)), (0, Mv n Bm K), (1, bT)] _ _ _)
     refine wp_cond_true (S10.bool 0 44 rfl) ?_
     refine wq [.val (iV 40)] [] [.inl 0, .inr 1, .inr 2, .inr 3, .inr 4] S10 ?_ ?_
     ·apply jj1
      ·exact mC
     intro B11 a11 W11 (S11 : Sta w 64 [] [(4, iV 40), (6, iV (k0 : Nat)), (5, iV (i0 : Nat)), (0, Mv n Bm K), (1, bT)] _ _ _)
     refine wp_ret (inBlkR (thenR (thenR (inBlkR (inBlkR (thenR (thenR (inBlkR (thenR ?_)))))))))
     exact ybe S11 rfl (yay S11 0 4 rfl)
 ·skip
  refine wp_seq ?_
  refine wq [.val (iV (i0 : Nat)), .val (Mv n Bm K), .val (iV (n : Nat)), kF] [] [.inl 3, .inr 0, .inr 1, .inr 2] S4 ?_ ?_
  ·apply jj4
   ·exact mS 0 5
   ·exact mS 1 0
   ·exact yal rfl wA rfl (oO 1 12) yaw Tryz.underlying22 rfl
   ·exact yaz wA (oO 0 11) (oO 2 13)
  intro B5 a5 W5 (S5 : Sta w 64 [] [(14, bF), (5, iV (i0 : Nat)), (0, Mv n Bm K), (1, bT)] _ _ _)
  refine wp_cond_false (S5.bool 0 14 rfl) (wp_exit (thenX (thenX (inBlkE (thenN (wp_seq ?_))))))
  refine wq [.val (Mv n Bm K), .val (iV (n : Nat)), kF] [] [.inl 2, .inr 1, .inr 2, .inr 3] S5 ?_ ?_
  ·apply jj3
   ·exact mS 2 0
   ·exact yal rfl wA rfl (oO 0 45) yaw Tryz.underlying22 rfl
   ·exact ydq wA (oO 1 46) (yaa _)
  intro B6 a6 W6 (S6 : Sta w 64 [] [(47, bF), (5, iV (i0 : Nat)), (0, Mv n Bm K), (1, bT)] _ _ _)
  refine wp_cond_false (S6.bool 0 47 rfl) (wp_skip (thenN (wp_seq ?_)))
  refine wq [.val (iV 0)] [] [.inl 0, .inr 1, .inr 2, .inr 3] S6 ?_ ?_
  ·apply jj1
   ·exact mC
  intro B7 a7 W7 (S7 : Sta w 64 [] [(7, iV 0), (5, iV (i0 : Nat)), (0, Mv n Bm K), (1, bT)] _ _ _)
  refine wp_block ?_
  refine yan (fun (j0 : Nat) a W => (j0 ≤ j1) ∧ ∃ Bq, Sta w 64 [] [(7, iV (j0 : Nat)), (0, Mv n Bm K)] Bq a W) (fun (j0 : Nat) => n - j0) ?_ 0 ⟨Nat.zero_le _, B7, S7.sub [] [0, 2]⟩
  rintro j0 a8 W8 ⟨hcond, B8, S8⟩
  by_cases hlj : j0 < n
  ·skip
   refine wp_seq ?_
   refine wq [.val (iV (j0 : Nat)), .val (Mv n Bm K), .val (iV (n : Nat)), kT] [] [.inl 3, .inr 0, .inr 1] S8 ?_ ?_
   ·apply jj4
    ·exact mS 0 7
    ·exact mS 1 0
    ·exact yal rfl wA rfl (oO 1 49) yaw Tryz.underlying22 rfl
    ·exact yar wA (oO 0 48) (oO 2 50)
   intro B9 a9 W9 (S9 : Sta w 64 [] [(51, bT), (7, iV (j0 : Nat)), (0, Mv n Bm K)] _ _ _)
   refine wp_cond_true (S9.bool 0 51 rfl) (wp_skip (thenN ?_))
   rcases Nat.lt_or_ge j0 j1 with hl1 | hl1
   ·skip
    have hrj := hr j0 hl1
    refine wp_seq (wp_block ?_)
    refine wq [.val (Mv n Bm K), .val (iV (j0 : Nat)), .val (AtE 1 (Vv ((Bm.getD j0 []).length) (Bm.getD j0 []) K)), .val (Vv ((Bm.getD j0 []).length) (Bm.getD j0 []) K), .val (iV ((Bm.getD j0 []).length : Nat)), .val (Mv n Bm K), .val (AtE 1 (Vv ((Bm.getD 0 []).length) (Bm.getD 0 []) K)), .val (Vv ((Bm.getD 0 []).length) (Bm.getD 0 []) K), .val (iV ((Bm.getD 0 []).length : Nat)), kF] [] [.inl 9, .inr 1, .inr 2] S9 ?_ ?_
    ·repeat' refine And.intro ?_ ?_
     ·trivial
     ·exact mS 2 0
     ·exact mS 1 7
     ·exact yae rfl wA rfl ya8 (oO 0 54) (oO 1 55) (yda (k := j0) (by omega)) rfl
     ·exact yag rfl wA rfl ya9 (by decide) yb3 (oO 2 56) rfl
     ·exact yal rfl wA rfl (oO 3 57) yaw Tryz.underlying39 rfl
     ·exact mS 2 0
     ·exact yae rfl wA rfl ya8 (oO 5 59) (yaa _) (yda (k := 0) (by omega)) rfl
     ·exact yag rfl wA rfl ya9 (by decide) yb3 (oO 6 60) rfl
     ·exact yal rfl wA rfl (oO 7 61) yaw Tryz.underlying39 rfl
     ·exact ybm wA (oO 4 58) (oO 8 62)
    intro B10 a10 W10 (S10 : Sta w 64 [] [(63, bF), (7, iV (j0 : Nat)), (0, Mv n Bm K)] _ _ _)
    refine wp_cond_false (S10.bool 0 63 rfl) (wp_skip (inBlkN (thenN ?_)))
    refine wr [.val (iV (j0 : Nat)), .val (iV (j0 + 1 : Nat)), .val (iV (j0 + 1 : Nat))] [] [.inl 2, .inr 2] S10 ?_ ?_
    ·apply jj3
     ·exact mS 1 7
     ·exact ya3 wA (oO 0 52) (yaa _)
     ·exact mO 1 53
    intro B11 a11 W11 (S11 : Sta w 64 [] [(7, iV (j0 + 1 : Nat)), (0, Mv n Bm K)] _ _ _)
    refine thenN ?_
    exact ⟨j0 + 1, ⟨by omega, B11, S11.sub [] [0, 1]⟩, by omega⟩
   ·skip
    have ej : j0 = j1 := by omega
    obtain ⟨hne, rfl⟩ : (Bm.getD j0 []).length ≠ (Bm.getD 0 []).length ∧ e0 = 8 := by
     rcases hc with ⟨h9, _⟩ | ⟨_, _, h9, h8⟩ | ⟨_, h9, _⟩
     ·exfalso; omega
     ·rw [ej]; exact ⟨h9, h8⟩
     ·exfalso; omega
    refine wp_seq (wp_block ?_)
    refine wq [.val (Mv n Bm K), .val (iV (j0 : Nat)), .val (AtE 1 (Vv ((Bm.getD j0 []).length) (Bm.getD j0 []) K)), .val (Vv ((Bm.getD j0 []).length) (Bm.getD j0 []) K), .val (iV ((Bm.getD j0 []).length : Nat)), .val (Mv n Bm K), .val (AtE 1 (Vv ((Bm.getD 0 []).length) (Bm.getD 0 []) K)), .val (Vv ((Bm.getD 0 []).length) (Bm.getD 0 []) K), .val (iV ((Bm.getD 0 []).length : Nat)), kT] [] [.inl 9, .inr 1, .inr 2] S9 ?_ ?_
    ·repeat' refine And.intro ?_ ?_
     ·trivial
     ·exact mS 2 0
     ·exact mS 1 7
     ·exact yae rfl wA rfl ya8 (oO 0 54) (oO 1 55) (yda (k := j0) (by omega)) rfl
     ·exact yag rfl wA rfl ya9 (by decide) yb3 (oO 2 56) rfl
     ·exact yal rfl wA rfl (oO 3 57) yaw Tryz.underlying39 rfl
     ·exact mS 2 0
     ·exact yae rfl wA rfl ya8 (oO 5 59) (yaa _) (yda (k := 0) (by omega)) rfl
     ·exact yag rfl wA rfl ya9 (by decide) yb3 (oO 6 60) rfl
     ·exact yal rfl wA rfl (oO 7 61) yaw Tryz.underlying39 rfl
     ·exact yds wA (oO 4 58) (oO 8 62)
    intro B10 a10 W10 (S10 : Sta w 64 [] [(63, bT), (7, iV (j0 : Nat)), (0, Mv n Bm K)] _ _ _)
    refine wp_cond_true (S10.bool 0 63 rfl) ?_
    refine wq [.val (iV 8)] [] [.inl 0, .inr 1, .inr 2] S10 ?_ ?_
    ·apply jj1
     ·exact mC
    intro B11 a11 W11 (S11 : Sta w 64 [] [(4, iV 8), (7, iV (j0 : Nat)), (0, Mv n Bm K)] _ _ _)
    refine wp_ret (inBlkR (thenR (thenR (inBlkR (thenR ?_)))))
    exact ybe S11 rfl (yay S11 0 4 rfl)
  ·obtain rfl : e0 = 0 := by
    rcases hc with ⟨h9, _⟩ | ⟨_, h9, _⟩ | ⟨_, _, h9⟩
    ·exfalso; omega
    ·exfalso; omega
    ·exact h9
   refine wp_seq ?_
   refine wq [.val (iV (j0 : Nat)), .val (Mv n Bm K), .val (iV (n : Nat)), kF] [] [.inl 3, .inr 0, .inr 1] S8 ?_ ?_
   ·apply jj4
    ·exact mS 0 7
    ·exact mS 1 0
    ·exact yal rfl wA rfl (oO 1 49) yaw Tryz.underlying22 rfl
    ·exact yaz wA (oO 0 48) (oO 2 50)
   intro B9 a9 W9 (S9 : Sta w 64 [] [(51, bF), (7, iV (j0 : Nat)), (0, Mv n Bm K)] _ _ _)
   refine wp_cond_false (S9.bool 0 51 rfl) (wp_exit (thenX (thenX (inBlkE (thenN ?_)))))
   refine wq [.val (iV 0)] [] [.inl 0, .inr 1, .inr 2] S9 ?_ ?_
   ·apply jj1
    ·exact mC
   intro B10 a10 W10 (S10 : Sta w 64 [] [(4, iV 0), (7, iV (j0 : Nat)), (0, Mv n Bm K)] _ _ _)
   refine wp_ret ?_
   exact ybe S10 rfl (yay S10 0 4 rfl)
theorem r5sh_row (w : World) (u : Value) (n K : Nat) (Bm : List (List Int)) (h : Hs w (Mv n Bm K) u) (hn : n ≤ 1048576) (hK : K ≤ 1048576) (lB : Bm.length = n) (hl : Ml Bm 1048576) (h12 : n ≤ 12) (j0 : Nat) (hj : j0 < n) (hs : ∀ i, i < j0 → RowOk (Bm.getD i [])) (hb : RowBad (Bm.getD j0 [])) :
  Calls Tryz.prog 51 #[u, .bool true] w (Gives (IS (.int .i64 40)) w) := ylk w u n K Bm h hn hK lB hl h12 (by omega) j0 0 40 hs (fun i hi => by omega) (Or.inl ⟨hj, hb, rfl⟩)
theorem r5sh_8 (w : World) (u : Value) (n K : Nat) (Bm : List (List Int)) (h : Hs w (Mv n Bm K) u) (hn : n ≤ 1048576) (hK : K ≤ 1048576) (lB : Bm.length = n) (hl : Ml Bm 1048576) (h12 : n ≤ 12) (h0 : 0 < n) (hs : ∀ i, i < n → RowOk (Bm.getD i [])) (j1 : Nat) (hj : j1 < n) (hr : ∀ i, i < j1 → (Bm.getD i []).length = (Bm.getD 0 []).length) (hne : (Bm.getD j1 []).length ≠ (Bm.getD 0 []).length) :
  Calls Tryz.prog 51 #[u, .bool true] w (Gives (IS (.int .i64 8)) w) := ylk w u n K Bm h hn hK lB hl h12 h0 n j1 8 hs hr (Or.inr (Or.inl ⟨rfl, hj, hne, rfl⟩))
theorem r5sh_ok (w : World) (u : Value) (n K : Nat) (Bm : List (List Int)) (h : Hs w (Mv n Bm K) u) (hn : n ≤ 1048576) (hK : K ≤ 1048576) (lB : Bm.length = n) (hl : Ml Bm 1048576) (h12 : n ≤ 12) (h0 : 0 < n) (hs : ∀ i, i < n → RowOk (Bm.getD i [])) (hr : ∀ i, i < n → (Bm.getD i []).length = (Bm.getD 0 []).length) :
  Calls Tryz.prog 51 #[u, .bool true] w (Gives (IS (.int .i64 0)) w) := ylk w u n K Bm h hn hK lB hl h12 h0 n n 0 hs hr (Or.inr (Or.inr ⟨rfl, rfl, rfl⟩))
abbrev ykh  : Rk := .box 55 (Is (.agg #[.slice none 0 0, .slice none 0 0]))
theorem yqm (w : World) (u : Value) (n K : Nat) (Bm : List (List Int)) (h : Hs w (Mv n Bm K) u) (e0 : Int) (he : e0 ≠ 0) (hsh : ∀ w u, Hs w (Mv n Bm K) u → Calls Tryz.prog 51 #[u, .bool true] w (Gives (IS (.int .i64 e0)) w)) :
  Calls Tryz.prog 21 #[u, .bool true] w (Gives (TWO (IS (.agg #[.slice none 0 0, .slice none 0 0])) (IS (.int .i64 e0))) w) := by
 refine yam (sl := [(0, (Mv n Bm K)), (1, bT)]) Tryz.func21 rfl Tryz.ntmps21 (by simp) (yab rfl (h) (yab rfl (ygn _) yaq)) ?_
 intro a0 S0
 refine wq [.new (ykh), .val (iV 0)] [.inl 0] [.inr 0, .inr 1] S0 ?_ ?_
 ·apply jj2
  ·exact yat rfl wA rfl rfl (fun ρ w => yca ρ _ w)
  ·exact mC
 intro _ a1 _ (S1 : Sta w 25 [(4, (ykh))] [(0, Mv n Bm K), (1, bT)] _ _ _)
 refine wq [.val (Mv n Bm K), kT, .val (iV e0), .val (iV e0)] [.inr 0] [.inl 3, .inr 0] S1 ?_ ?_
 ·apply jj4
  ·exact mS 0 0
  ·exact mS 1 1
  ·exact ch2 wA (qO 0 9 rfl) (qO 1 10 rfl) (yak _) (fun w u b h hb => by obtain rfl : b = _ := hb.now; exact hsh w u h)
  ·exact mO 2 11
 intro _ a2 _ (S2 : Sta w 25 [(4, (ykh))] [(6, iV e0), (0, Mv n Bm K)] _ _ _)
 refine wp_seq ?_
 refine wq [.val (iV e0), kT] [.inr 0] [.inl 1, .inr 0, .inr 1] S2 ?_ ?_
 ·apply jj2
  ·exact mS 0 6
  ·exact yds wA (oO 0 12) (yaa _) (h := he)
 intro _ a3 _ (S3 : Sta w 25 [(4, (ykh))] [(13, bT), (6, iV e0), (0, Mv n Bm K)] _ _ _)
 refine wp_cond_true (S3.bool 0 13 rfl) ?_
 refine wq [.val (Is (.agg #[.slice none 0 0, .slice none 0 0])), .val (iV e0), .put (.inl 4) (ykh), .val (iV e0)] [.inr 0] [.inl 3] S3 ?_ ?_
 ·apply jj4
  ·exact yhq rfl wA rfl rfl
  ·exact mS 1 6
  ·exact ya7 rfl wA rfl (k := 0) rfl (by kernel_rfl) (oO 0 14) (yaf ybn yb2 yb2) rfl
  ·exact mO 1 15
 intro _ a4 _ (S4 : Sta w 25 [(4, (ykh))] [(5, iV e0)] _ _ _)
 refine wp_ret (thenR ?_)
 exact yc8 S4 rfl (ybb S4 0 4 rfl ybn yb2) (yay S4 0 5 rfl)
abbrev ygv  : Rk := .box 55 (Is (.agg #[.slice none 0 0, .slice none 0 0]))
abbrev yp2 (w : World) (Bm : List (List Int)) (mm : Nat) : Rk := .box 55 ((FN mm (mmL (gr Bm) mm) (stL (gr Bm) mm)) w.heap.size)
theorem r5ch_d (w : World) (u : Value) (n K : Nat) (Bm : List (List Int)) (h : Hs w (Mv n Bm K) u) (mm : Nat) (hsh : ∀ w u, Hs w (Mv n Bm K) u → Calls Tryz.prog 51 #[u, .bool true] w (Gives (IS (.int .i64 0)) w)) (hmk : ∀ w u, Hs w (Mv n Bm K) u → Calls Tryz.prog 52 #[u] w (Gives (TWO (FN mm (mmL (gr Bm) mm) (stL (gr Bm) mm)) (IS (.bool false))) w)) :
  Calls Tryz.prog 21 #[u, .bool true] w (Gives (TWO (IS (.agg #[.slice none 0 0, .slice none 0 0])) (IS (.int .i64 50))) w) := by
 refine yam (sl := [(0, (Mv n Bm K)), (1, bT)]) Tryz.func21 rfl Tryz.ntmps21 (by simp) (yab rfl (h) (yab rfl (ygn _) yaq)) ?_
 intro a0 S0
 refine wq [.new (ygv), .val (iV 0)] [.inl 0] [.inr 0, .inr 1] S0 ?_ ?_
 ·apply jj2
  ·exact yat rfl wA rfl rfl (fun ρ w => yca ρ _ w)
  ·exact mC
 intro _ a1 _ (S1 : Sta w 25 [(4, (ygv))] [(0, Mv n Bm K), (1, bT)] _ _ _)
 refine wq [.val (Mv n Bm K), kT, .val (iV 0), .val (iV 0)] [.inr 0] [.inl 3, .inr 0] S1 ?_ ?_
 ·apply jj4
  ·exact mS 0 0
  ·exact mS 1 1
  ·exact ch2 wA (qO 0 9 rfl) (qO 1 10 rfl) (yak _) (fun w u b h hb => by obtain rfl : b = _ := hb.now; exact hsh w u h)
  ·exact mO 2 11
 intro _ a2 _ (S2 : Sta w 25 [(4, (ygv))] [(6, iV 0), (0, Mv n Bm K)] _ _ _)
 refine wp_seq ?_
 refine wq [.val (iV 0), kF] [.inr 0] [.inl 1, .inr 0, .inr 1] S2 ?_ ?_
 ·apply jj2
  ·exact mS 0 6
  ·exact ybm wA (oO 0 12) (yaa _) (h := rfl)
 intro _ a3 _ (S3 : Sta w 25 [(4, (ygv))] [(13, bF), (6, iV 0), (0, Mv n Bm K)] _ _ _)
 refine wp_cond_false (S3.bool 0 13 rfl) (wp_skip (thenN ?_))
 refine wq [.val (Mv n Bm K), .val ((TWO (FN mm (mmL (gr Bm) mm) (stL (gr Bm) mm)) (IS (.bool false))) w.heap.size), .val ((TWO (FN mm (mmL (gr Bm) mm) (stL (gr Bm) mm)) (IS (.bool false))) w.heap.size), .val ((FN mm (mmL (gr Bm) mm) (stL (gr Bm) mm)) w.heap.size), kF, .new (ygv), .put (.inr 5) (yp2 w Bm mm), kF] [.inr 0, .inl 5] [.inl 7] S3 ?_ ?_
 ·repeat' refine And.intro ?_ ?_
  ·trivial
  ·exact mS 2 0
  ·exact ch1 wA (qO 0 17 rfl) (ybo ygh (yak _)) (fun w u h => hmk w u h)
  ·exact mO 1 18
  ·exact e20 wA (oO 2 16)
  ·exact e21 wA (oO 2 16)
  ·exact yat rfl wA rfl rfl (fun ρ w => yca ρ _ w)
  ·exact ybj 5 rfl wA rfl (by kernel_rfl) rfl (oO 3 19) (yaf ybn yb2 yb1) rfl
  ·exact mO 4 20
 intro _ a4 _ (S4 : Sta w 25 [(4, (ygv)), (7, (yp2 w Bm mm))] [(8, bF)] _ _ _)
 refine wp_seq ?_
 refine wq [kF, kT] [.inr 0, .inr 1] [.inl 1] S4 ?_ ?_
 ·apply jj2
  ·exact mS 0 8
  ·exact yie wA (oO 0 21)
 intro _ a5 _ (S5 : Sta w 25 [(4, (ygv)), (7, (yp2 w Bm mm))] [(22, bT)] _ _ _)
 refine wp_cond_true (S5.bool 0 22 rfl) ?_
 refine wq [.val (Is (.agg #[.slice none 0 0, .slice none 0 0])), .put (.inl 4) (ygv), .val (iV 50)] [.inr 0, .inr 1] [.inl 2] S5 ?_ ?_
 ·apply jj3
  ·exact yhq rfl wA rfl rfl
  ·exact ya7 rfl wA rfl (k := 0) rfl (by kernel_rfl) (oO 0 23) (yaf ybn yb2 yb2) rfl
  ·exact mC
 intro _ a6 _ (S6 : Sta w 25 [(4, (ygv)), (7, (yp2 w Bm mm))] [(5, iV 50)] _ _ _)
 refine wp_ret (thenR ?_)
 exact yc8 S6 rfl (ybb S6 0 4 rfl ybn yb2) (yay S6 0 5 rfl)
abbrev yjb  : Rk := .box 55 (Is (.agg #[.slice none 0 0, .slice none 0 0]))
abbrev yke (w : World) (n : Nat) (Bm : List (List Int)) : Rk := .box 55 ((FN n (mmL (gr Bm) n) (stL (gr Bm) n)) w.heap.size)
theorem r5ch_ok (w : World) (u : Value) (n K : Nat) (Bm : List (List Int)) (h : Hs w (Mv n Bm K) u) (hsh : ∀ w u, Hs w (Mv n Bm K) u → Calls Tryz.prog 51 #[u, .bool true] w (Gives (IS (.int .i64 0)) w)) (hmk : ∀ w u, Hs w (Mv n Bm K) u → Calls Tryz.prog 52 #[u] w (Gives (TWO (FN n (mmL (gr Bm) n) (stL (gr Bm) n)) (IS (.bool true))) w)) :
  Calls Tryz.prog 21 #[u, .bool true] w (Gives (TWO (FN n (mmL (gr Bm) n) (stL (gr Bm) n)) (IS (.int .i64 0))) w) := by
 refine yam (sl := [(0, (Mv n Bm K)), (1, bT)]) Tryz.func21 rfl Tryz.ntmps21 (by simp) (yab rfl (h) (yab rfl (ygn _) yaq)) ?_
 intro a0 S0
 refine wq [.new (yjb), .val (iV 0)] [.inl 0] [.inr 0, .inr 1] S0 ?_ ?_
 ·apply jj2
  ·exact yat rfl wA rfl rfl (fun ρ w => yca ρ _ w)
  ·exact mC
 intro _ a1 _ (S1 : Sta w 25 [(4, (yjb))] [(0, Mv n Bm K), (1, bT)] _ _ _)
 refine wq [.val (Mv n Bm K), kT, .val (iV 0), .val (iV 0)] [.inr 0] [.inl 3, .inr 0] S1 ?_ ?_
 ·apply jj4
  ·exact mS 0 0
  ·exact mS 1 1
  ·exact ch2 wA (qO 0 9 rfl) (qO 1 10 rfl) (yak _) (fun w u b h hb => by obtain rfl : b = _ := hb.now; exact hsh w u h)
  ·exact mO 2 11
 intro _ a2 _ (S2 : Sta w 25 [(4, (yjb))] [(6, iV 0), (0, Mv n Bm K)] _ _ _)
 refine wp_seq ?_
 refine wq [.val (iV 0), kF] [.inr 0] [.inl 1, .inr 0, .inr 1] S2 ?_ ?_
 ·apply jj2
  ·exact mS 0 6
  ·exact ybm wA (oO 0 12) (yaa _) (h := rfl)
 intro _ a3 _ (S3 : Sta w 25 [(4, (yjb))] [(13, bF), (6, iV 0), (0, Mv n Bm K)] _ _ _)
 refine wp_cond_false (S3.bool 0 13 rfl) (wp_skip (thenN ?_))
 refine wq [.val (Mv n Bm K), .val ((TWO (FN n (mmL (gr Bm) n) (stL (gr Bm) n)) (IS (.bool true))) w.heap.size), .val ((TWO (FN n (mmL (gr Bm) n) (stL (gr Bm) n)) (IS (.bool true))) w.heap.size), .val ((FN n (mmL (gr Bm) n) (stL (gr Bm) n)) w.heap.size), kT, .new (yjb), .put (.inr 5) (yke w n Bm), kT] [.inr 0, .inl 5] [.inl 7] S3 ?_ ?_
 ·repeat' refine And.intro ?_ ?_
  ·trivial
  ·exact mS 2 0
  ·exact ch1 wA (qO 0 17 rfl) (ybo ygh (yak _)) (fun w u h => hmk w u h)
  ·exact mO 1 18
  ·exact e20 wA (oO 2 16)
  ·exact e21 wA (oO 2 16)
  ·exact yat rfl wA rfl rfl (fun ρ w => yca ρ _ w)
  ·exact ybj 5 rfl wA rfl (by kernel_rfl) rfl (oO 3 19) (yaf ybn yb2 yb1) rfl
  ·exact mO 4 20
 intro _ a4 _ (S4 : Sta w 25 [(4, (yjb)), (7, (yke w n Bm))] [(8, bT)] _ _ _)
 refine wp_seq ?_
 refine wq [kT, kF] [.inr 0, .inr 1] [.inl 1] S4 ?_ ?_
 ·apply jj2
  ·exact mS 0 8
  ·exact yie wA (oO 0 21)
 intro _ a5 _ (S5 : Sta w 25 [(4, (yjb)), (7, (yke w n Bm))] [(22, bF)] _ _ _)
 refine wp_cond_false (S5.bool 0 22 rfl) (wp_skip (thenN ?_))
 refine wq [.val ((FN n (mmL (gr Bm) n) (stL (gr Bm) n)) w.heap.size), .put (.inl 4) (yke w n Bm), .val (iV 0)] [.inr 0, .inr 1] [.inl 2] S5 ?_ ?_
 ·apply jj3
  ·exact lod 1 wA (yau ybn yb1)
  ·exact ya7 rfl wA rfl (k := 0) rfl (by kernel_rfl) (oO 0 24) (yaf ybn yb2 yb1) rfl
  ·exact mC
 intro _ a6 _ (S6 : Sta w 25 [(4, (yke w n Bm)), (7, (yke w n Bm))] [(5, iV 0)] _ _ _)
 refine wp_ret ?_
 exact yc8 S6 rfl (ybb S6 0 4 rfl ybn yb1) (yay S6 0 5 rfl)
theorem bo_len {Bm : List (List Int)} (hb : mx (bitsM Bm) ≤ 256) (hw : ∀ r, (Bm.getD r []).length ≤ 12) {k : Nat} (hk : k < 12) (i j : Nat) : (digs (Dt.bo (gr Bm) k i j).natAbs).length ≤ 196 := by
 obtain ⟨e, he⟩ : ∃ e : Nat, e = 520 := ⟨_, rfl⟩
 exact Nat.le_trans (yai (Dt.det_abs (n := k + 1) (by omega) (fun r c _ _ => ypk hb hw _ _))) (big_pow he rfl (p256 rfl he) hk)
theorem rows_bits {Bm : List (List Int)} (h : ∀ i, i < Bm.length → RowOk (Bm.getD i [])) : mx (bitsM Bm) ≤ 256 := by
 refine mx_le (fun x hx => ?_)
 obtain ⟨r, hr, rfl⟩ := List.mem_map.1 hx
 refine mx_le (fun y hy => ?_)
 obtain ⟨z, hz, rfl⟩ := List.mem_map.1 hy
 obtain ⟨i, hi, e1⟩ := List.getElem_of_mem hr
 obtain ⟨j, hj, e2⟩ := List.getElem_of_mem hz
 have h1 := h i hi
 rw [List.getD_eq_getElem?_getD, List.getElem?_eq_getElem hi, e1] at h1
 have h2 := h1.2 j hj
 simp only [Option.getD_some] at h2
 rw [List.getD_eq_getElem?_getD, List.getElem?_eq_getElem hj, e2] at h2
 exact h2
theorem rows_nar {Bm : List (List Int)} (h : ∀ i, i < Bm.length → RowOk (Bm.getD i [])) : nar Bm := fun i r hr => by
 have h1 := (h i (List.getElem?_eq_some_iff.1 hr).1).1
 rw [List.getD_eq_getElem?_getD, hr] at h1
 exact h1
theorem bits_at {Bm : List (List Int)} (h : mx (bitsM Bm) ≤ 256) {i k : Nat} (hi : i < Bm.length) (hk : k < (Bm.getD i []).length) : Go.bitLen ((Bm.getD i []).getD k 0).natAbs ≤ 256 := by
 have e1 : Bm.getD i [] = Bm[i] := by rw [List.getD_eq_getElem?_getD, List.getElem?_eq_getElem hi]; rfl
 rw [e1] at hk ⊢
 rw [List.getD_eq_getElem?_getD, List.getElem?_eq_getElem hk]
 have h1 : mx (bitsR Bm[i]) ≤ mx (bitsM Bm) := le_mx (List.mem_map.2 ⟨Bm[i], List.getElem_mem hi, rfl⟩)
 have h2 : Go.bitLen (Bm[i][k]).natAbs ≤ mx (bitsR Bm[i]) := le_mx (List.mem_map.2 ⟨Bm[i][k], List.getElem_mem hk, rfl⟩)
 exact Nat.le_trans h2 (Nat.le_trans h1 h)
abbrev ChGives (n K : Nat) (Bm : List (List Int)) (ψ : Nat → Pr) : Prop := ∀ w u, Hs w (Mv n Bm K) u → Calls Tryz.prog 21 #[u, .bool true] w (Gives ψ w)
abbrev G0 : Nat → Pr := IS (.agg #[.slice none 0 0, .slice none 0 0])
theorem ch_all (n K : Nat) (Bm : List (List Int)) (lB : Bm.length = n) (hn : n ≤ 1048576) (hK : K ≤ 1048576) (hK2 : 196 ≤ K) (hl : Ml Bm 1048576) (hdl : Mdl Bm K) :
  (∃ e : Int, e ≠ 0 ∧ OfGives n K Bm (TWO G0 (IS (.int .i64 e))) ∧ ChGives n K Bm (TWO G0 (IS (.int .i64 e)))) ∨ (OfOk Bm n ∧ Reg Bm (wd Bm) ∧ OfGives n K Bm (TWO (GN n (gwD Bm n) (gwL Bm n)) (IS (.int .i64 0))) ∧ ChGives n K Bm (TWO (FN n (mmL (gr Bm) n) (stL (gr Bm) n)) (IS (.int .i64 0)))) := by
 have hbt := bits_top hdl
 by_cases h12 : n ≤ 12
 ·rcases rows_or Bm with hs | ⟨j0, hj, hs, hbad⟩
  ·rw [lB] at hs
   have hb : mx (bitsM Bm) ≤ 256 := rows_bits (by rw [lB]; exact hs)
   have hw : nar Bm := rows_nar (by rw [lB]; exact hs)
   by_cases h0 : n = 0
   ·exact Or.inl ⟨41, by decide, fun w u h => of_e w u n K Bm h hn hK hl hb _ (by decide) (fun w u h => yoe w u n K Bm h h0 lB hw), fun w u h => yqm w u n K Bm h 41 (by decide) (fun w u h => r5sh_none w u n K Bm h hn hK lB hl h0)⟩
   ·by_cases hR : reg Bm = true
    ·have hreg := reg_y hR
     have hx : wd Bm ≤ 12 := by
      have e0 : Bm[0]? = some (Bm[0]'(by omega)) := List.getElem?_eq_getElem _
      have := hw 0 _ e0
      have := hreg 0 _ e0
      omega
     have hr : ∀ i, i < n → (Bm.getD i []).length = (Bm.getD 0 []).length := fun i hi => by
      rw [List.getD_eq_getElem?_getD, List.getD_eq_getElem?_getD, List.getElem?_eq_getElem (show i < Bm.length by omega), List.getElem?_eq_getElem (show 0 < Bm.length by omega)]
      exact (hreg i _ (List.getElem?_eq_getElem _)).trans (hreg 0 _ (List.getElem?_eq_getElem _)).symm
     have hsh : ∀ w u, Hs w (Mv n Bm K) u → Calls Tryz.prog 51 #[u, .bool true] w (Gives (IS (.int .i64 0)) w) := fun w u h => r5sh_ok w u n K Bm h hn hK lB hl h12 (by omega) hs hr
     have hB : ∀ k i j, k < n → (digs (Dt.bo (gr Bm) k i j).natAbs).length ≤ 196 := fun k i j hk => bo_len hb (yd9 hw) (by omega) i j
     rcases yd7 (fun i => decide (gwd Bm i ≠ 0)) n with h | ⟨i0, hi0, h1, h2⟩
     ·have hd : ∀ i, i < n → gwd Bm i ≠ 0 := fun i hi => of_decide_eq_true (h i hi)
      have hp := (ypl (yd9 hw) (i := n) hd).1
      exact Or.inr ⟨⟨by omega, h12, lB, hw, hb, hd⟩, hreg, fun w u h => of_ok w u n (wd Bm) K Bm h (by omega) h12 hx (by omega) hK lB hw hreg hb (wd_all h12 hK2 hb (yd9 hw) (fun k hk => hd k (by omega))) hd, fun w u h => r5ch_ok w u n K Bm h hsh (fun w u h => make_ok w u n (wd Bm) K 196 n Bm h hn (by omega) (by omega) (by omega) (by omega) lB hreg hp hB rfl)⟩
     ·have hd : ∀ i, i < i0 → gwd Bm i ≠ 0 := fun i hi => of_decide_eq_true (h2 i hi)
      have hz : gwd Bm i0 = 0 := by simpa using h1
      have hp := (ypl (yd9 hw) (i := i0) hd).1
      have hzd : Dt.det (i0 + 1) (gr Bm) ≤ 0 := by rw [← (yk3 (ygc hd)).2, hz]; exact Int.le_refl _
      exact Or.inl ⟨50, by decide, fun w u h => of_dep w u n (wd Bm) K Bm h i0 hi0 (by omega) h12 hx (by omega) hK lB hw hreg hb (wd_all (by omega) hK2 hb (yd9 hw) (fun k hk => hd k (by omega))) hd hz, fun w u h => r5ch_d w u n K Bm h i0 hsh (fun w u h => make_dep w u n (wd Bm) K 196 i0 Bm h hn (by omega) (by omega) (by omega) (by omega) lB hreg hp hB hi0 hzd)⟩
    ·have hx : ∃ j1, j1 < n ∧ (∀ i, i < j1 → (Bm.getD i []).length = (Bm.getD 0 []).length) ∧ (Bm.getD j1 []).length ≠ (Bm.getD 0 []).length := by
      rcases yd7 (fun i => decide ((Bm.getD i []).length = (Bm.getD 0 []).length)) n with h | ⟨i0, hi0, h1, h2⟩
      ·refine absurd ?_ hR
       refine List.all_eq_true.2 (fun r hr => ?_)
       obtain ⟨i, hi, rfl⟩ := List.getElem_of_mem hr
       have := of_decide_eq_true (h i (by omega))
       rw [List.getD_eq_getElem?_getD, List.getD_eq_getElem?_getD, List.getElem?_eq_getElem hi, List.getElem?_eq_getElem (show 0 < Bm.length by omega)] at this
       simp only [Option.getD_some] at this
       rw [this]
       cases Bm with
       | nil => simp at hi
       | cons a l => simp [wd]
      ·exact ⟨i0, hi0, fun i hi => of_decide_eq_true (h2 i hi), of_decide_eq_false h1⟩
     obtain ⟨j1, hj1, hr1, hne⟩ := hx
     exact Or.inl ⟨8, by decide, fun w u h => of_e w u n K Bm h hn hK hl hb _ (by decide) (fun w u h => ymq w u n K Bm h h12 lB (by omega) hw hR), fun w u h => yqm w u n K Bm h 8 (by decide) (fun w u h => r5sh_8 w u n K Bm h hn hK lB hl h12 (by omega) hs j1 hj1 hr1 hne)⟩
  ·rw [lB] at hj
   refine Or.inl ⟨40, by decide, ?_, fun w u h => yqm w u n K Bm h 40 (by decide) (fun w u h => r5sh_row w u n K Bm h hn hK lB hl h12 j0 hj hs hbad)⟩
   by_cases hb : mx (bitsM Bm) ≤ 256
   ·have hwide : ∃ i0, i0 < n ∧ 12 < (Bm.getD i0 []).length ∧ ∀ i, i < i0 → (Bm.getD i []).length ≤ 12 := by
     refine ⟨j0, hj, ?_, fun i hi => (hs i hi).1⟩
     rcases hbad with h | ⟨_, k1, hk1, _, h⟩
     ·exact h
     ·have := bits_at hb (by omega) hk1
      omega
    obtain ⟨i0, hi0, h1, h2⟩ := hwide
    exact fun w u h => of_e w u n K Bm h hn hK hl hb _ (by decide) (fun w u h => yof w u n K Bm h h12 lB i0 hi0 h1 h2 hl)
   ·exact fun w u h => of_big w u n K Bm h hn hK hl (by omega) (by omega)
 ·refine Or.inl ⟨40, by decide, ?_, fun w u h => yqm w u n K Bm h 40 (by decide) (fun w u h => r5sh_many w u n K Bm h hn hK lB hl (by omega))⟩
  by_cases hb : mx (bitsM Bm) ≤ 256
  ·exact fun w u h => of_e w u n K Bm h hn hK hl hb _ (by decide) (fun w u h => yod w u n K Bm h (by omega) lB hn)
  ·exact fun w u h => of_big w u n K Bm h hn hK hl (by omega) (by omega)
end Go.Proofs.YtdiagoaakadniaaGreat
