import Derived.Test.YtdiagoaakadniaaGreatHxA
import Derived.Test.YtdiagoaakadniaaGreatGsD
import Derived.Test.YtdiagoaakadniaaGreatGsA
namespace Go.Proofs.YtdiagoaakadniaaGreat
open Go Go.RowKit Nt
set_option linter.unusedSimpArgs false
set_option linter.unusedVariables false
set_option maxRecDepth 20000
set_option maxHeartbeats 16000000
abbrev QV (n : Nat) (ts : List (Int × Int)) (k : Nat) : Pr := Ar 4 n (ts.map (fun t => PR (Zv t.1 k) (Zv t.2 k)))
theorem yjd {ts : List (Int × Int)} {k i : Nat} (h : i < ts.length) : (ts.map (fun t => PR (Zv t.1 k) (Zv t.2 k)))[i]? = some (PR (Zv (ts.getD i (0, 0)).1 k) (Zv (ts.getD i (0, 0)).2 k)) := by
 rw [List.getElem?_map, List.getElem?_eq_getElem h, List.getD_eq_getElem?_getD, List.getElem?_eq_getElem h]
 rfl
section
variable {ops : Array Oper} {l : List Kd} {bx : Bxs} {sl : List (Tmp × Pr)} {i : Nat} {o : Oper} {Q : Exit → Act → World → Prop} {a0 : Act} {n : Nat} {w0 : World}
end
abbrev yqe (k : Nat) (ts : List (Int × Int)) (k0 : Nat) : Pr := PR (Zv ((ts.getD k0 (0, 0)).1) k) (Zv ((ts.getD k0 (0, 0)).2) k)
theorem mayb_t (w : World) (u : Value) (n k : Nat) (ts : List (Int × Int)) (h : Hs w (QV n ts k) u) (hn : n ≤ 1048576) (hk : k ≤ 8388608) (lt : ts.length = n) (ht : ∀ i, i < n → 0 < (ts.getD i (0, 0)).2) :
  Calls Tryz.prog 15 #[u] w (Gives (IS (.bool true)) w) := by
 refine yam (sl := [(0, (QV n ts k))]) Tryz.func15 rfl Tryz.ntmps15 (by simp) (yab rfl (h) yaq) ?_
 intro a0 S0
 refine wq [kF] [] [.inr 0] S0 ?_ ?_
 ·apply jj1
  ·exact mC
 intro _ a1 _ (S1 : Sta w 16 [] [(0, (QV n ts k))] _ _ _)
 refine wp_seq ?_
 refine wq [.val (QV n ts k), .val (iV (n : Nat)), .val (iV 0)] [] [.inl 0, .inl 1, .inl 2] S1 ?_ ?_
 ·apply jj3
  ·exact mS 0 0
  ·exact yal rfl wA rfl (oO 0 5) yaw Tryz.underlying23 rfl
  ·exact mC
 intro B2 a2 _ (S2 : Sta w 16 [] [(5, (QV n ts k)), (6, iV (n : Nat)), (7, iV 0)] _ _ _)
 refine wp_block ?_
 refine yan (fun (k0 : Nat) a W => (k0 ≤ n) ∧ ∃ Bq, Sta w 16 [] [(5, (QV n ts k)), (6, iV (n : Nat)), (7, iV (k0 : Nat))] Bq a W) (fun (k0 : Nat) => n - k0) ?_ 0 ⟨Nat.zero_le _, B2, S2.sub [] [0, 1, 2]⟩
 rintro k0 a3 _ ⟨hcond, _, S3⟩
 by_cases hlt : k0 < n
 ·have hp := yjm (ht k0 hlt)
  refine wq [kT] [] [.inl 0, .inr 0, .inr 1, .inr 2] S3 ?_ ?_
  ·apply jj1
   ·exact yar wA (oS 2 7) (oS 1 6)
  intro B4 a4 W4 (S4 : Sta w 16 [] [(8, bT), (5, (QV n ts k)), (6, iV (n : Nat)), (7, iV (k0 : Nat))] _ _ _)
  refine wp_seq (wp_cond_true (S4.bool 0 8 rfl) (wp_skip (thenN (wp_seq (wp_block ?_)))))
  refine wq [.val (AtE 4 (yqe k ts k0)), .val (yqe k ts k0), .new (.box 28 zR), .put (.inr 2) (.box 28 (yqe k ts k0))] [.inl 2] [.inr 1, .inr 2, .inr 3] S4 ?_ ?_
  ·apply jj4
   ·exact yae rfl wA rfl ybs (oS 1 5) (oS 3 7) (yjd (by omega)) rfl
   ·exact yag rfl wA rfl ybz (by decide) (ya5 (by decide) (ych ybc ybc)) (oO 0 9) rfl
   ·exact yat rfl wA rfl rfl (fun ρ w => ybd ρ _ w)
   ·exact ybj 2 rfl wA rfl (by kernel_rfl) rfl (oO 1 10) (yaf yah ybr (ych ybc ybc)) rfl
  intro B5 a5 W5 (S5 : Sta w 16 [(4, (.box 28 (yqe k ts k0)))] [(5, (QV n ts k)), (6, iV (n : Nat)), (7, iV (k0 : Nat))] _ _ _)
  refine wq [.val (Part a5 4 2), .val (Zv ((ts.getD k0 (0, 0)).2) k), .val (Is (.int .i64 ((ts.getD k0 (0, 0)).2).sign)), kF] [] [.inl 3, .inr 0, .inr 1, .inr 2] S5 ?_ ?_
  ·apply jj4
   ·exact ya2 rfl wA rfl (k := 0) rfl (by kernel_rfl) rfl (fun ρ w b h => ycj ρ _ _ w b 0 h)
   ·exact yav rfl wA rfl (oO 0 11) (k := 0) rfl (by kernel_rfl) rfl (fun ρ w b u h1 h2 h3 => yck ρ _ _ w b u h1 h2 h3)
   ·exact cc1 wA (qO 1 12 rfl) (yak _) (fun w u h1 => yit (by omega) w u ((fun _ _ h => h) _ _ h1))
   ·exact yga wA (oO 2 13) (yaa _)
  intro _ a6 _ (S6 : Sta w 16 [] [(14, bF), (5, (QV n ts k)), (6, iV (n : Nat)), (7, iV (k0 : Nat))] _ _ _)
  refine wp_cond_false (S6.bool 0 14 rfl) (wp_skip (inBlkN (thenN ?_)))
  refine wr [.val (iV (k0 + 1 : Nat)), .val (iV (k0 + 1 : Nat))] [] [.inl 1, .inr 1, .inr 2] S6 ?_ ?_
  ·apply jj2
   ·exact ya3 wA (oS 3 7) (yaa _)
   ·exact mO 0 15
  intro B7 a7 _ (S7 : Sta w 16 [] [(7, iV (k0 + 1 : Nat)), (5, (QV n ts k)), (6, iV (n : Nat))] _ _ _)
  refine thenN ?_
  exact ⟨k0 + 1, ⟨by omega, B7, S7.sub [] [1, 2, 0]⟩, by omega⟩
 ·skip
  refine wq [kF] [] [.inl 0, .inr 0, .inr 1, .inr 2] S3 ?_ ?_
  ·apply jj1
   ·exact yaz wA (oS 2 7) (oS 1 6)
  intro B4 a4 W4 (S4 : Sta w 16 [] [(8, bF), (5, (QV n ts k)), (6, iV (n : Nat)), (7, iV (k0 : Nat))] _ _ _)
  refine wp_seq (wp_cond_false (S4.bool 0 8 rfl) (wp_exit (thenX (thenX (inBlkE (thenN ?_))))))
  refine wq [kT] [] [.inl 0, .inr 1, .inr 2, .inr 3] S4 ?_ ?_
  ·apply jj1
   ·exact mC
  intro B5 a5 W5 (S5 : Sta w 16 [] [(2, bT), (5, (QV n ts k)), (6, iV (n : Nat)), (7, iV (k0 : Nat))] _ _ _)
  refine wp_ret ?_
  exact ybe S5 rfl (yay S5 0 2 rfl)
abbrev yht (k : Nat) (ts : List (Int × Int)) (k0 : Nat) : Pr := PR (Zv ((ts.getD k0 (0, 0)).1) k) (Zv ((ts.getD k0 (0, 0)).2) k)
theorem mayb_f (w : World) (u : Value) (n k : Nat) (ts : List (Int × Int)) (h : Hs w (QV n ts k) u) (hn : n ≤ 1048576) (hk : k ≤ 8388608) (lt : ts.length = n) (i0 : Nat) (hi : i0 < n) (ht : ∀ i, i < i0 → 0 < (ts.getD i (0, 0)).2) (hz : (ts.getD i0 (0, 0)).2 ≤ 0) :
  Calls Tryz.prog 15 #[u] w (Gives (IS (.bool false)) w) := by
 refine yam (sl := [(0, (QV n ts k))]) Tryz.func15 rfl Tryz.ntmps15 (by simp) (yab rfl (h) yaq) ?_
 intro a0 S0
 refine wq [kF] [] [.inr 0] S0 ?_ ?_
 ·apply jj1
  ·exact mC
 intro _ a1 _ (S1 : Sta w 16 [] [(0, (QV n ts k))] _ _ _)
 refine wp_seq ?_
 refine wq [.val (QV n ts k), .val (iV (n : Nat)), .val (iV 0)] [] [.inl 0, .inl 1, .inl 2] S1 ?_ ?_
 ·apply jj3
  ·exact mS 0 0
  ·exact yal rfl wA rfl (oO 0 5) yaw Tryz.underlying23 rfl
  ·exact mC
 intro B2 a2 _ (S2 : Sta w 16 [] [(5, (QV n ts k)), (6, iV (n : Nat)), (7, iV 0)] _ _ _)
 refine wp_block ?_
 refine yan (fun (k0 : Nat) a W => (k0 ≤ i0) ∧ ∃ Bq, Sta w 16 [] [(5, (QV n ts k)), (6, iV (n : Nat)), (7, iV (k0 : Nat))] Bq a W) (fun (k0 : Nat) => n - k0) ?_ 0 ⟨Nat.zero_le _, B2, S2.sub [] [0, 1, 2]⟩
 rintro k0 a3 _ ⟨hcond, _, S3⟩
 by_cases hlt : k0 < i0
 ·have hp := yjm (ht k0 hlt)
  refine wq [kT] [] [.inl 0, .inr 0, .inr 1, .inr 2] S3 ?_ ?_
  ·apply jj1
   ·exact yar wA (oS 2 7) (oS 1 6)
  intro B4 a4 W4 (S4 : Sta w 16 [] [(8, bT), (5, (QV n ts k)), (6, iV (n : Nat)), (7, iV (k0 : Nat))] _ _ _)
  refine wp_seq (wp_cond_true (S4.bool 0 8 rfl) (wp_skip (thenN (wp_seq (wp_block ?_)))))
  refine wq [.val (AtE 4 (yht k ts k0)), .val (yht k ts k0), .new (.box 28 zR), .put (.inr 2) (.box 28 (yht k ts k0))] [.inl 2] [.inr 1, .inr 2, .inr 3] S4 ?_ ?_
  ·apply jj4
   ·exact yae rfl wA rfl ybs (oS 1 5) (oS 3 7) (yjd (by omega)) rfl
   ·exact yag rfl wA rfl ybz (by decide) (ya5 (by decide) (ych ybc ybc)) (oO 0 9) rfl
   ·exact yat rfl wA rfl rfl (fun ρ w => ybd ρ _ w)
   ·exact ybj 2 rfl wA rfl (by kernel_rfl) rfl (oO 1 10) (yaf yah ybr (ych ybc ybc)) rfl
  intro B5 a5 W5 (S5 : Sta w 16 [(4, (.box 28 (yht k ts k0)))] [(5, (QV n ts k)), (6, iV (n : Nat)), (7, iV (k0 : Nat))] _ _ _)
  refine wq [.val (Part a5 4 2), .val (Zv ((ts.getD k0 (0, 0)).2) k), .val (Is (.int .i64 ((ts.getD k0 (0, 0)).2).sign)), kF] [] [.inl 3, .inr 0, .inr 1, .inr 2] S5 ?_ ?_
  ·apply jj4
   ·exact ya2 rfl wA rfl (k := 0) rfl (by kernel_rfl) rfl (fun ρ w b h => ycj ρ _ _ w b 0 h)
   ·exact yav rfl wA rfl (oO 0 11) (k := 0) rfl (by kernel_rfl) rfl (fun ρ w b u h1 h2 h3 => yck ρ _ _ w b u h1 h2 h3)
   ·exact cc1 wA (qO 1 12 rfl) (yak _) (fun w u h1 => yit (by omega) w u ((fun _ _ h => h) _ _ h1))
   ·exact yga wA (oO 2 13) (yaa _)
  intro B6 a6 W6 (S6 : Sta w 16 [] [(14, bF), (5, (QV n ts k)), (6, iV (n : Nat)), (7, iV (k0 : Nat))] _ _ _)
  refine wp_cond_false (S6.bool 0 14 rfl) (wp_skip (inBlkN (thenN ?_)))
  refine wr [.val (iV (k0 + 1 : Nat)), .val (iV (k0 + 1 : Nat))] [] [.inl 1, .inr 1, .inr 2] S6 ?_ ?_
  ·apply jj2
   ·exact ya3 wA (oS 3 7) (yaa _)
   ·exact mO 0 15
  intro B7 a7 W7 (S7 : Sta w 16 [] [(7, iV (k0 + 1 : Nat)), (5, (QV n ts k)), (6, iV (n : Nat))] _ _ _)
  refine thenN ?_
  exact ⟨k0 + 1, ⟨by omega, B7, S7.sub [] [1, 2, 0]⟩, by omega⟩
 ·have ek : k0 = i0 := by omega
  rw [← ek] at hz
  have hp := yl4 hz
  refine wq [kT] [] [.inl 0, .inr 0, .inr 1, .inr 2] S3 ?_ ?_
  ·apply jj1
   ·exact yar wA (oS 2 7) (oS 1 6)
  intro B4 a4 W4 (S4 : Sta w 16 [] [(8, bT), (5, (QV n ts k)), (6, iV (n : Nat)), (7, iV (k0 : Nat))] _ _ _)
  refine wp_seq (wp_cond_true (S4.bool 0 8 rfl) (wp_skip (thenN (wp_seq (wp_block ?_)))))
  refine wq [.val (AtE 4 (yht k ts k0)), .val (yht k ts k0), .new (.box 28 zR), .put (.inr 2) (.box 28 (yht k ts k0))] [.inl 2] [.inr 1, .inr 2, .inr 3] S4 ?_ ?_
  ·apply jj4
   ·exact yae rfl wA rfl ybs (oS 1 5) (oS 3 7) (yjd (by omega)) rfl
   ·exact yag rfl wA rfl ybz (by decide) (ya5 (by decide) (ych ybc ybc)) (oO 0 9) rfl
   ·exact yat rfl wA rfl rfl (fun ρ w => ybd ρ _ w)
   ·exact ybj 2 rfl wA rfl (by kernel_rfl) rfl (oO 1 10) (yaf yah ybr (ych ybc ybc)) rfl
  intro B5 a5 W5 (S5 : Sta w 16 [(4, (.box 28 (yht k ts k0)))] [(5, (QV n ts k)), (6, iV (n : Nat)), (7, iV (k0 : Nat))] _ _ _)
  refine wq [.val (Part a5 4 2), .val (Zv ((ts.getD k0 (0, 0)).2) k), .val (Is (.int .i64 ((ts.getD k0 (0, 0)).2).sign)), kT] [] [.inl 3, .inr 0, .inr 1, .inr 2] S5 ?_ ?_
  ·apply jj4
   ·exact ya2 rfl wA rfl (k := 0) rfl (by kernel_rfl) rfl (fun ρ w b h => ycj ρ _ _ w b 0 h)
   ·exact yav rfl wA rfl (oO 0 11) (k := 0) rfl (by kernel_rfl) rfl (fun ρ w b u h1 h2 h3 => yck ρ _ _ w b u h1 h2 h3)
   ·exact cc1 wA (qO 1 12 rfl) (yak _) (fun w u h1 => yit (by omega) w u ((fun _ _ h => h) _ _ h1))
   ·exact yid wA (oO 2 13) (yaa _)
  intro B6 a6 W6 (S6 : Sta w 16 [] [(14, bT), (5, (QV n ts k)), (6, iV (n : Nat)), (7, iV (k0 : Nat))] _ _ _)
  refine wp_cond_true (S6.bool 0 14 rfl) ?_
  refine wq [kF] [] [.inl 0, .inr 1, .inr 2, .inr 3] S6 ?_ ?_
  ·apply jj1
   ·exact mC
  intro B7 a7 W7 (S7 : Sta w 16 [] [(2, bF), (5, (QV n ts k)), (6, iV (n : Nat)), (7, iV (k0 : Nat))] _ _ _)
  refine wp_ret (inBlkR (thenR (thenR (inBlkR (thenR ?_)))))
  exact ybe S7 rfl (yay S7 0 2 rfl)
end Go.Proofs.YtdiagoaakadniaaGreat
