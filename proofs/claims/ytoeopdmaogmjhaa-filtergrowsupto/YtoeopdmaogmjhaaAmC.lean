import Derived.Test.YtoeopdmaogmjhaaAmB
import Derived.Test.YtoeopdmaogmjhaaTrV
/-
 filter.refused.
-/
namespace Go.Proofs.Ytoeopdmaogmjhaa
open Go Go.RowKit Nt
set_option linter.unusedSimpArgs false
set_option linter.unusedVariables false
set_option maxRecDepth 20000


/-- What may be asked. -/
structure FGood (D : List Int) (L : List (List Int)) (ts rs : List (Int × Int)) (m : Nat) : Prop where
 g : Good D L
 len : ts.length = 0 ∨ (ts.length ≠ 0 ∧ ts.length = L.length)
 m : m ≤ L.length
 t : DenOk ts
 r : DenOk rs
/-- What is refused, and how. -/
inductive FRef (D : List Int) (L : List (List Int)) (ts rs : List (Int × Int)) (m : Nat) : Int → Prop
 | g : Bad D L → FRef D L ts rs m 51
 | len : Good D L → ts.length ≠ 0 → ts.length ≠ L.length → FRef D L ts rs m 8
 | m : Good D L → (ts.length = 0 ∨ (ts.length ≠ 0 ∧ ts.length = L.length)) → L.length < m → FRef D L ts rs m 8
 | t (i0 : Nat) : Good D L → ts.length ≠ 0 → ts.length = L.length → m ≤ L.length → i0 < ts.length → (∀ j, j < i0 → 0 < (ts.getD j (0, 0)).2) → (ts.getD i0 (0, 0)).2 ≤ 0 → FRef D L ts rs m 30
 | r (i0 : Nat) : Good D L → (ts.length = 0 ∨ (ts.length ≠ 0 ∧ ts.length = L.length)) → m ≤ L.length → DenOk ts → i0 < rs.length → (∀ j, j < i0 → 0 < (rs.getD j (0, 0)).2) → (rs.getD i0 (0, 0)).2 ≤ 0 → FRef D L ts rs m 30
theorem den_or (ts : List (Int × Int)) : DenOk ts ∨ ∃ i0, i0 < ts.length ∧ (∀ j, j < i0 → 0 < (ts.getD j (0, 0)).2) ∧ (ts.getD i0 (0, 0)).2 ≤ 0 := by
 rcases first_off (fun i => decide (0 < (ts.getD i (0, 0)).2)) ts.length with h | ⟨i, h1, h2, h3⟩
 ·exact Or.inl (fun k hk => of_decide_eq_true (h k hk))
 ·exact Or.inr ⟨i, h1, fun j hj => of_decide_eq_true (h3 j hj), by have := of_decide_eq_false h2; omega⟩
theorem fref_or (D : List Int) (L : List (List Int)) (ts rs : List (Int × Int)) (m : Nat) : FGood D L ts rs m ∨ ∃ e, e ≠ 0 ∧ FRef D L ts rs m e := by
 rcases good_or D L with g | g
 ·have hl : (ts.length = 0 ∨ (ts.length ≠ 0 ∧ ts.length = L.length)) ∨ (ts.length ≠ 0 ∧ ts.length ≠ L.length) := by omega
  rcases hl with hl | ⟨h2, h3⟩
  ·by_cases hm : m ≤ L.length
   ·rcases den_or ts with h4 | ⟨i, h4, h5, h6⟩
    ·rcases den_or rs with h7 | ⟨j, h7, h8, h9⟩
     ·exact Or.inl ⟨g, hl, hm, h4, h7⟩
     ·exact Or.inr ⟨30, by decide, .r j g hl hm h4 h7 h8 h9⟩
    ·exact Or.inr ⟨30, by decide, .t i g (by omega) (by omega) hm h4 h5 h6⟩
   ·exact Or.inr ⟨8, by decide, .m g hl (by omega)⟩
  ·exact Or.inr ⟨8, by decide, .len g h2 h3⟩
 ·exact Or.inr ⟨51, by decide, .g g⟩
section
variable {ops : Array Oper} {l : List Kd} {bx : Bxs} {sl : List (Tmp × Pr)} {i : Nat} {o : Oper} {Q : Exit → Act → World → Prop} {a0 : Act} {n0 : Nat} {w0 : World}
theorem owe_callh4 {ψ : Nat → Pr} {f : FuncId} {x y z t : Operand} {ts : Array TypeId} {φ φ' φ'' φ3 : Pr} (ho : ops[i]? = some o) (hw : Wants ops l bx sl i o) (hop : o.op = .call { callee := .value (.func f), args := #[x, y, z, t], argTypes := ts }) (hx : Opnd ops l bx sl i x φ) (hy : Opnd ops l bx sl i y φ') (hz : Opnd ops l bx sl i z φ'') (ht : Opnd ops l bx sl i t φ3) (hF : Fresh ψ) (hk : kdAt l i = .val (ψ w0.heap.size))
  (hcf : ∀ args w, (callFunc f args).run Try.prog w = .ok (.enter f args) w) (C : ∀ w u v s r, Hs w φ u → Hs w φ' v → Hs w φ'' s → Hs w φ3 r → Calls Try.prog f #[u, v, s, r] w (Gives ψ w)) : Owed Try.prog ops Q l bx sl a0 n0 w0 i :=
 owe_call ho hw hop hF hk hcf fun vs B a w c => by
  rw [show (#[x, y, z, t] : Array Operand).map a.eval = #[a.eval x, a.eval y, a.eval z, a.eval t] from by simp]
  exact C w _ _ _ _ (hx a0 n0 w0 vs B a w c).hs (hy a0 n0 w0 vs B a w c).hs (hz a0 n0 w0 vs B a w c).hs (ht a0 n0 w0 vs B a w c).hs
end

abbrev qf6qn0 (nD : Nat) (nL : Nat) (K : Nat) (D : List Int) (L : List (List Int)) : Rk := .box 25 (SF [(Vv nD D K), (Mv nL L K)])
abbrev qf6qn1 (w : World) : Rk := .box 32 ((RN 1 1) w.heap.size)
abbrev qf6qn2 (w : World) : Pr := (TWO (RN 1 1) (IS (.int .i64 0))) w.heap.size
abbrev qf6qn3  : Rk := .box 32 zR
set_option maxHeartbeats 4000000 in
theorem refu_b (w : World) (u t v r : Value) (nD nL nT K Kt m Ks : Nat) (D : List Int) (L : List (List Int)) (ts : List (Int × Int)) (x : List Int) (h : Hs w (SF [Vv nD D K, Mv nL L K]) u) (ht : Hs w (QV nT ts Kt) t) (hv : Hs w (Vv m x Ks) v) (hD : nD ≤ 1048576) (hL : nL ≤ 1048576) (hT : nT ≤ 1048576) (hm0 : m ≤ 1048576) (hK : K ≤ 1048576) (hKt : Kt ≤ 1048576) (hKs : Ks ≤ 1048576) (lD : D.length = nD) (lL : L.length = nL) (lT : ts.length = nT) (lx : x.length = m) (nR Kr : Nat) (rs : List (Int × Int)) (hr : Hs w (QV nR rs Kr) r) (hR : nR ≤ 1048576) (hKr : Kr ≤ 8388608) (lR : rs.length = nR) (e0 : Int) (tg : FRef D L ts rs m e0) :
  Calls Try.prog 16 #[u, t, v, r] w (Gives (IS (.int .i64 e0)) w) := by
 refine calls_sta (sl := [(0, (SF [(Vv nD D K), (Mv nL L K)])), (1, (QV nT ts Kt)), (2, (Vv m x Ks)), (3, (QV nR rs Kr))]) Try.func16 rfl Try.ntmps16 (by simp) (args_cons rfl (h) (args_cons rfl (ht) (args_cons rfl (hv) (args_cons rfl (hr) args_nil)))) ?_
 intro a0 S0
 refine wq [.new (qf6qn0 nD nL K D L), .val (iV 0)] [.inl 0] [.inr 1, .inr 2, .inr 3] S0 ?_ ?_
 ·apply jj2
  ·exact owe_box rfl wA rfl (oS 0 0) rfl (fun ρ w h => box_gso shp_sf2 ρ _ _ w h)
  ·exact mC
 intro _ a1 _ (S1 : Sta w 49 [(4, (qf6qn0 nD nL K D L))] [(1, (QV nT ts Kt)), (2, Vv m x Ks), (3, (QV nR rs Kr))] _ _ _)
 rcases tg with g | ⟨g, g1, g2⟩ | ⟨g, hl, g3⟩ | ⟨i0, g, g1, g2, g3, g4, g6, g7⟩ | ⟨i0, g, hl, g3, gt, g4, g6, g7⟩
 ·skip
  refine wq [.val (SF [(Vv nD D K), (Mv nL L K)]), .val ((TWO (IS (.agg #[.bool false, .slice none 0 0, .bool false, .slice none 0 0])) (IS (.int .i64 51))) w.heap.size), .val ((TWO (IS (.agg #[.bool false, .slice none 0 0, .bool false, .slice none 0 0])) (IS (.int .i64 51))) w.heap.size), .val zR, .val (iV 51), .new (qf6qn3), .put (.inr 5) (qf6qn3), .val (iV 51)] [.inr 0, .inl 5] [.inl 7, .inr 0, .inr 1, .inr 2] S1 ?_ ?_
  ·repeat' refine And.intro ?_ ?_
   ·trivial
   ·exact lod 0 wA (loads_of strct_gso shp_sf2)
   ·exact ch3 wA (qO 0 13 rfl) (opnd_const _) (opnd_const _) (fresh_two (fresh_is _) (fresh_is _)) (fun w u0 u1 u2 h0 h1 h2 => by obtain rfl : u1 = _ := h1.now; obtain rfl : u2 = _ := h2.now; exact mu_b w u0 nD nL K D L h0 hD hL hK lD lL 0 0 g)
   ·exact mO 1 14
   ·exact e20 wA (oO 2 12)
   ·exact e21 wA (oO 2 12)
   ·exact owe_new rfl wA rfl rfl (fun ρ w => alloc_rat ρ _ w)
   ·exact owe_put 5 rfl wA rfl (by kernel_rfl) rfl (oO 3 15) (stores_of strct_rat shp_r0 shp_r0) rfl
   ·exact mO 4 16
  intro B2 a2 W2 (S2 : Sta w 49 [(4, (qf6qn0 nD nL K D L)), (9, (qf6qn3))] [(10, iV 51), (1, (QV nT ts Kt)), (2, Vv m x Ks), (3, (QV nR rs Kr))] _ _ _)
  refine wq [.val (Part a2 4 1), .val (Mv nL L K), .val (iV (nL : Nat)), .val (iV (nL : Nat))] [.inr 0] [.inl 3, .inr 0, .inr 1, .inr 2, .inr 3] S2 ?_ ?_
  ·apply jj4
   ·exact owe_part rfl wA rfl (k := 0) rfl (by kernel_rfl) rfl (fun ρ w b h => part_gso1 ρ _ _ w b 0 h)
   ·exact owe_pload rfl wA rfl (oO 0 17) (k := 0) rfl (by kernel_rfl) rfl (fun ρ w b u h1 h2 h3 => ploadS rfl load1_mat ρ _ _ w b u h1 h2 h3)
   ·exact owe_len rfl wA rfl (oO 1 18) ar_len Try.underlying23 rfl
   ·exact mO 2 19
  intro B3 a3 W3 (S3 : Sta w 49 [(4, (qf6qn0 nD nL K D L))] [(11, iV (nL : Nat)), (10, iV 51), (1, (QV nT ts Kt)), (2, Vv m x Ks), (3, (QV nR rs Kr))] _ _ _)
  refine wp_seq (wp_block ?_)
  refine wq [.val (iV 51), kT, kT] [.inr 0] [.inl 2, .inr 0, .inr 1, .inr 2, .inr 3, .inr 4] S3 ?_ ?_
  ·apply jj3
   ·exact mS 1 10
   ·exact b_neq_errno_t wA (oO 0 21) (opnd_const _) (h := by decide)
   ·exact mO 1 22
  intro B4 a4 W4 (S4 : Sta w 49 [(4, (qf6qn0 nD nL K D L))] [(20, bT), (11, iV (nL : Nat)), (10, iV 51), (1, (QV nT ts Kt)), (2, Vv m x Ks), (3, (QV nR rs Kr))] _ _ _)
  refine wp_cond_true (S4.bool 0 20 rfl) ?_
  refine wq [.val (iV 51), .val (iV 51)] [.inr 0] [.inl 1] S4 ?_ ?_
  ·apply jj2
   ·exact mS 2 10
   ·exact mO 0 23
  intro B5 a5 W5 (S5 : Sta w 49 [(4, (qf6qn0 nD nL K D L))] [(8, iV 51)] _ _ _)
  refine wp_ret (inBlkR (thenR ?_))
  exact end_one S5 rfl (res_tmp S5 0 8 rfl)
 ·skip
  refine wq [.val (SF [(Vv nD D K), (Mv nL L K)]), .val (qf6qn2 w), .val (qf6qn2 w), .val ((RN 1 1) w.heap.size), .val (iV 0), .new (qf6qn3), .put (.inr 5) (qf6qn1 w), .val (iV 0)] [.inr 0, .inl 5] [.inl 7, .inr 0, .inr 1, .inr 2] S1 ?_ ?_
  ·repeat' refine And.intro ?_ ?_
   ·trivial
   ·exact lod 0 wA (loads_of strct_gso shp_sf2)
   ·exact ch3 wA (qO 0 13 rfl) (opnd_const _) (opnd_const _) (fresh_two (fresh_rn _ _) (fresh_is _)) (fun w u0 u1 u2 h0 h1 h2 => by obtain rfl : u1 = _ := h1.now; obtain rfl : u2 = _ := h2.now; exact mu_e w u0 nD nL K D L h0 hD hL hK lD lL 0 g (by have := g.some; omega))
   ·exact mO 1 14
   ·exact e20 wA (oO 2 12)
   ·exact e21 wA (oO 2 12)
   ·exact owe_new rfl wA rfl rfl (fun ρ w => alloc_rat ρ _ w)
   ·exact owe_put 5 rfl wA rfl (by kernel_rfl) rfl (oO 3 15) (stores_of strct_rat shp_r0 (shp_pr shp_zn shp_zn)) rfl
   ·exact mO 4 16
  intro B2 a2 W2 (S2 : Sta w 49 [(4, (qf6qn0 nD nL K D L)), (9, (qf6qn1 w))] [(10, iV 0), (1, (QV nT ts Kt)), (2, Vv m x Ks), (3, (QV nR rs Kr))] _ _ _)
  refine wq [.val (Part a2 4 1), .val (Mv nL L K), .val (iV (nL : Nat)), .val (iV (nL : Nat))] [.inr 0] [.inl 3, .inr 0, .inr 1, .inr 2, .inr 3] S2 ?_ ?_
  ·apply jj4
   ·exact owe_part rfl wA rfl (k := 0) rfl (by kernel_rfl) rfl (fun ρ w b h => part_gso1 ρ _ _ w b 0 h)
   ·exact owe_pload rfl wA rfl (oO 0 17) (k := 0) rfl (by kernel_rfl) rfl (fun ρ w b u h1 h2 h3 => ploadS rfl load1_mat ρ _ _ w b u h1 h2 h3)
   ·exact owe_len rfl wA rfl (oO 1 18) ar_len Try.underlying23 rfl
   ·exact mO 2 19
  intro B3 a3 W3 (S3 : Sta w 49 [(4, (qf6qn0 nD nL K D L))] [(11, iV (nL : Nat)), (10, iV 0), (1, (QV nT ts Kt)), (2, Vv m x Ks), (3, (QV nR rs Kr))] _ _ _)
  refine wp_seq (wp_block ?_)
  refine wq [.val (iV 0), kF, kF] [.inr 0] [.inl 2, .inr 0, .inr 1, .inr 2, .inr 3, .inr 4] S3 ?_ ?_
  ·apply jj3
   ·exact mS 1 10
   ·exact b_neq_errno_f wA (oO 0 21) (opnd_const _) (h := rfl)
   ·exact mO 1 22
  intro B4 a4 W4 (S4 : Sta w 49 [(4, (qf6qn0 nD nL K D L))] [(20, bF), (11, iV (nL : Nat)), (10, iV 0), (1, (QV nT ts Kt)), (2, Vv m x Ks), (3, (QV nR rs Kr))] _ _ _)
  refine wp_cond_false (S4.bool 0 20 rfl) ?_
  refine wq [.val (QV nT ts Kt), .val (iV (nT : Nat)), kT, kT, .val (QV nT ts Kt), .val (iV (nT : Nat)), .val (iV (nL : Nat)), kT, kT, kT, .off, .off, .off, .off, kT, kT] [.inr 0] [.inl 15, .inr 3, .inr 5] S4 ?_ ?_
  ·repeat' refine And.intro ?_ ?_
   ·trivial
   ·exact mS 3 1
   ·exact owe_len rfl wA rfl (oO 0 25) ar_len Try.underlying26 rfl
   ·exact b_neq_int_t wA (oO 1 26) (opnd_const _)
   ·exact mO 2 27
   ·exact mW (wI 3 28) (oS 3 1)
   ·exact owe_len rfl (wI 3 28) rfl (oO 4 29) ar_len Try.underlying26 rfl
   ·exact mW (wI 3 28) (oS 1 11)
   ·exact b_neq_int_t (wI 3 28) (oO 5 30) (oO 6 31)
   ·exact pT wA (oO 3 28) (oO 7 32)
   ·exact mO 8 33
   ·exact oF 9 34
   ·exact oF 9 34
   ·exact oF 9 34
   ·exact oF 9 34
   ·exact pT wA (oO 9 34) (opnd_const _)
   ·exact mO 14 39
  intro B5 a5 W5 (S5 : Sta w 49 [(4, (qf6qn0 nD nL K D L))] [(24, bT), (1, (QV nT ts Kt)), (3, (QV nR rs Kr))] _ _ _)
  refine wp_cond_true (S5.bool 0 24 rfl) ?_
  refine wq [.val (iV 8)] [.inr 0] [.inl 0] S5 ?_ ?_
  ·apply jj1
   ·exact mC
  intro B6 a6 W6 (S6 : Sta w 49 [(4, (qf6qn0 nD nL K D L))] [(8, iV 8)] _ _ _)
  refine wp_ret (inBlkR (thenR ?_))
  exact end_one S6 rfl (res_tmp S6 0 8 rfl)
 ·skip
  refine wq [.val (SF [(Vv nD D K), (Mv nL L K)]), .val (qf6qn2 w), .val (qf6qn2 w), .val ((RN 1 1) w.heap.size), .val (iV 0), .new (qf6qn3), .put (.inr 5) (qf6qn1 w), .val (iV 0)] [.inr 0, .inl 5] [.inl 7, .inr 0, .inr 1, .inr 2] S1 ?_ ?_
  ·repeat' refine And.intro ?_ ?_
   ·trivial
   ·exact lod 0 wA (loads_of strct_gso shp_sf2)
   ·exact ch3 wA (qO 0 13 rfl) (opnd_const _) (opnd_const _) (fresh_two (fresh_rn _ _) (fresh_is _)) (fun w u0 u1 u2 h0 h1 h2 => by obtain rfl : u1 = _ := h1.now; obtain rfl : u2 = _ := h2.now; exact mu_e w u0 nD nL K D L h0 hD hL hK lD lL 0 g (by have := g.some; omega))
   ·exact mO 1 14
   ·exact e20 wA (oO 2 12)
   ·exact e21 wA (oO 2 12)
   ·exact owe_new rfl wA rfl rfl (fun ρ w => alloc_rat ρ _ w)
   ·exact owe_put 5 rfl wA rfl (by kernel_rfl) rfl (oO 3 15) (stores_of strct_rat shp_r0 (shp_pr shp_zn shp_zn)) rfl
   ·exact mO 4 16
  intro B2 a2 W2 (S2 : Sta w 49 [(4, (qf6qn0 nD nL K D L)), (9, (qf6qn1 w))] [(10, iV 0), (1, (QV nT ts Kt)), (2, Vv m x Ks), (3, (QV nR rs Kr))] _ _ _)
  refine wq [.val (Part a2 4 1), .val (Mv nL L K), .val (iV (nL : Nat)), .val (iV (nL : Nat))] [.inr 0] [.inl 3, .inr 0, .inr 1, .inr 2, .inr 3] S2 ?_ ?_
  ·apply jj4
   ·exact owe_part rfl wA rfl (k := 0) rfl (by kernel_rfl) rfl (fun ρ w b h => part_gso1 ρ _ _ w b 0 h)
   ·exact owe_pload rfl wA rfl (oO 0 17) (k := 0) rfl (by kernel_rfl) rfl (fun ρ w b u h1 h2 h3 => ploadS rfl load1_mat ρ _ _ w b u h1 h2 h3)
   ·exact owe_len rfl wA rfl (oO 1 18) ar_len Try.underlying23 rfl
   ·exact mO 2 19
  intro B3 a3 W3 (S3 : Sta w 49 [(4, (qf6qn0 nD nL K D L))] [(11, iV (nL : Nat)), (10, iV 0), (1, (QV nT ts Kt)), (2, Vv m x Ks), (3, (QV nR rs Kr))] _ _ _)
  refine wp_seq (wp_block ?_)
  refine wq [.val (iV 0), kF, kF] [.inr 0] [.inl 2, .inr 0, .inr 1, .inr 2, .inr 3, .inr 4] S3 ?_ ?_
  ·apply jj3
   ·exact mS 1 10
   ·exact b_neq_errno_f wA (oO 0 21) (opnd_const _) (h := rfl)
   ·exact mO 1 22
  intro B4 a4 W4 (S4 : Sta w 49 [(4, (qf6qn0 nD nL K D L))] [(20, bF), (11, iV (nL : Nat)), (10, iV 0), (1, (QV nT ts Kt)), (2, Vv m x Ks), (3, (QV nR rs Kr))] _ _ _)
  refine wp_cond_false (S4.bool 0 20 rfl) ?_
  rcases hl with hl | ⟨hl, hl2⟩
  ·skip
   refine wq [.val (QV nT ts Kt), .val (iV (nT : Nat)), kF, kF, .off, .off, .off, .off, kF, kF, .val (Vv m x Ks), .val (iV (m : Nat)), .val (iV (nL : Nat)), kT, kT, kT] [.inr 0] [.inl 15, .inr 3, .inr 5] S4 ?_ ?_
   ·repeat' refine And.intro ?_ ?_
    ·trivial
    ·exact mS 3 1
    ·exact owe_len rfl wA rfl (oO 0 25) ar_len Try.underlying26 rfl
    ·exact b_neq_int_f wA (oO 1 26) (opnd_const _)
    ·exact mO 2 27
    ·exact oF 3 28
    ·exact oF 3 28
    ·exact oF 3 28
    ·exact oF 3 28
    ·exact pF wA (oO 3 28) (opnd_const _)
    ·exact mO 8 33
    ·exact mW (wI 9 34) (oS 4 2)
    ·exact owe_len rfl (wI 9 34) rfl (oO 10 35) ar_len Try.underlying22 rfl
    ·exact mW (wI 9 34) (oS 1 11)
    ·exact b_gtr_int_t (wI 9 34) (oO 11 36) (oO 12 37)
    ·exact pF wA (oO 9 34) (oO 13 38)
    ·exact mO 14 39
   intro B5 a5 W5 (S5 : Sta w 49 [(4, (qf6qn0 nD nL K D L))] [(24, bT), (1, (QV nT ts Kt)), (3, (QV nR rs Kr))] _ _ _)
   refine wp_cond_true (S5.bool 0 24 rfl) ?_
   refine wq [.val (iV 8)] [.inr 0] [.inl 0] S5 ?_ ?_
   ·apply jj1
    ·exact mC
   intro B6 a6 W6 (S6 : Sta w 49 [(4, (qf6qn0 nD nL K D L))] [(8, iV 8)] _ _ _)
   refine wp_ret (inBlkR (thenR ?_))
   exact end_one S6 rfl (res_tmp S6 0 8 rfl)
  ·skip
   refine wq [.val (QV nT ts Kt), .val (iV (nT : Nat)), kT, kT, .val (QV nT ts Kt), .val (iV (nT : Nat)), .val (iV (nL : Nat)), kF, kF, kF, .val (Vv m x Ks), .val (iV (m : Nat)), .val (iV (nL : Nat)), kT, kT, kT] [.inr 0] [.inl 15, .inr 3, .inr 5] S4 ?_ ?_
   ·repeat' refine And.intro ?_ ?_
    ·trivial
    ·exact mS 3 1
    ·exact owe_len rfl wA rfl (oO 0 25) ar_len Try.underlying26 rfl
    ·exact b_neq_int_t wA (oO 1 26) (opnd_const _)
    ·exact mO 2 27
    ·exact mW (wI 3 28) (oS 3 1)
    ·exact owe_len rfl (wI 3 28) rfl (oO 4 29) ar_len Try.underlying26 rfl
    ·exact mW (wI 3 28) (oS 1 11)
    ·exact b_neq_int_f (wI 3 28) (oO 5 30) (oO 6 31)
    ·exact pT wA (oO 3 28) (oO 7 32)
    ·exact mO 8 33
    ·exact mW (wI 9 34) (oS 4 2)
    ·exact owe_len rfl (wI 9 34) rfl (oO 10 35) ar_len Try.underlying22 rfl
    ·exact mW (wI 9 34) (oS 1 11)
    ·exact b_gtr_int_t (wI 9 34) (oO 11 36) (oO 12 37)
    ·exact pF wA (oO 9 34) (oO 13 38)
    ·exact mO 14 39
   intro B5 a5 W5 (S5 : Sta w 49 [(4, (qf6qn0 nD nL K D L))] [(24, bT), (1, (QV nT ts Kt)), (3, (QV nR rs Kr))] _ _ _)
   refine wp_cond_true (S5.bool 0 24 rfl) ?_
   refine wq [.val (iV 8)] [.inr 0] [.inl 0] S5 ?_ ?_
   ·apply jj1
    ·exact mC
   intro B6 a6 W6 (S6 : Sta w 49 [(4, (qf6qn0 nD nL K D L))] [(8, iV 8)] _ _ _)
   refine wp_ret (inBlkR (thenR ?_))
   exact end_one S6 rfl (res_tmp S6 0 8 rfl)
 ·skip
  refine wq [.val (SF [(Vv nD D K), (Mv nL L K)]), .val (qf6qn2 w), .val (qf6qn2 w), .val ((RN 1 1) w.heap.size), .val (iV 0), .new (qf6qn3), .put (.inr 5) (qf6qn1 w), .val (iV 0)] [.inr 0, .inl 5] [.inl 7, .inr 0, .inr 1, .inr 2] S1 ?_ ?_
  ·repeat' refine And.intro ?_ ?_
   ·trivial
   ·exact lod 0 wA (loads_of strct_gso shp_sf2)
   ·exact ch3 wA (qO 0 13 rfl) (opnd_const _) (opnd_const _) (fresh_two (fresh_rn _ _) (fresh_is _)) (fun w u0 u1 u2 h0 h1 h2 => by obtain rfl : u1 = _ := h1.now; obtain rfl : u2 = _ := h2.now; exact mu_e w u0 nD nL K D L h0 hD hL hK lD lL 0 g (by have := g.some; omega))
   ·exact mO 1 14
   ·exact e20 wA (oO 2 12)
   ·exact e21 wA (oO 2 12)
   ·exact owe_new rfl wA rfl rfl (fun ρ w => alloc_rat ρ _ w)
   ·exact owe_put 5 rfl wA rfl (by kernel_rfl) rfl (oO 3 15) (stores_of strct_rat shp_r0 (shp_pr shp_zn shp_zn)) rfl
   ·exact mO 4 16
  intro B2 a2 W2 (S2 : Sta w 49 [(4, (qf6qn0 nD nL K D L)), (9, (qf6qn1 w))] [(10, iV 0), (1, (QV nT ts Kt)), (2, Vv m x Ks), (3, (QV nR rs Kr))] _ _ _)
  refine wq [.val (Part a2 4 1), .val (Mv nL L K), .val (iV (nL : Nat)), .val (iV (nL : Nat))] [.inr 0] [.inl 3, .inr 0, .inr 1, .inr 2, .inr 3] S2 ?_ ?_
  ·apply jj4
   ·exact owe_part rfl wA rfl (k := 0) rfl (by kernel_rfl) rfl (fun ρ w b h => part_gso1 ρ _ _ w b 0 h)
   ·exact owe_pload rfl wA rfl (oO 0 17) (k := 0) rfl (by kernel_rfl) rfl (fun ρ w b u h1 h2 h3 => ploadS rfl load1_mat ρ _ _ w b u h1 h2 h3)
   ·exact owe_len rfl wA rfl (oO 1 18) ar_len Try.underlying23 rfl
   ·exact mO 2 19
  intro B3 a3 W3 (S3 : Sta w 49 [(4, (qf6qn0 nD nL K D L))] [(11, iV (nL : Nat)), (10, iV 0), (1, (QV nT ts Kt)), (2, Vv m x Ks), (3, (QV nR rs Kr))] _ _ _)
  refine wp_seq (wp_block ?_)
  refine wq [.val (iV 0), kF, kF] [.inr 0] [.inl 2, .inr 0, .inr 1, .inr 2, .inr 3, .inr 4] S3 ?_ ?_
  ·apply jj3
   ·exact mS 1 10
   ·exact b_neq_errno_f wA (oO 0 21) (opnd_const _) (h := rfl)
   ·exact mO 1 22
  intro B4 a4 W4 (S4 : Sta w 49 [(4, (qf6qn0 nD nL K D L))] [(20, bF), (11, iV (nL : Nat)), (10, iV 0), (1, (QV nT ts Kt)), (2, Vv m x Ks), (3, (QV nR rs Kr))] _ _ _)
  refine wp_cond_false (S4.bool 0 20 rfl) ?_
  refine wq [.val (QV nT ts Kt), .val (iV (nT : Nat)), kT, kT, .val (QV nT ts Kt), .val (iV (nT : Nat)), .val (iV (nL : Nat)), kF, kF, kF, .val (Vv m x Ks), .val (iV (m : Nat)), .val (iV (nL : Nat)), kF, kF, kF] [.inr 0] [.inl 15, .inr 3, .inr 5] S4 ?_ ?_
  ·repeat' refine And.intro ?_ ?_
   ·trivial
   ·exact mS 3 1
   ·exact owe_len rfl wA rfl (oO 0 25) ar_len Try.underlying26 rfl
   ·exact b_neq_int_t wA (oO 1 26) (opnd_const _)
   ·exact mO 2 27
   ·exact mW (wI 3 28) (oS 3 1)
   ·exact owe_len rfl (wI 3 28) rfl (oO 4 29) ar_len Try.underlying26 rfl
   ·exact mW (wI 3 28) (oS 1 11)
   ·exact b_neq_int_f (wI 3 28) (oO 5 30) (oO 6 31)
   ·exact pT wA (oO 3 28) (oO 7 32)
   ·exact mO 8 33
   ·exact mW (wI 9 34) (oS 4 2)
   ·exact owe_len rfl (wI 9 34) rfl (oO 10 35) ar_len Try.underlying22 rfl
   ·exact mW (wI 9 34) (oS 1 11)
   ·exact b_gtr_int_f (wI 9 34) (oO 11 36) (oO 12 37)
   ·exact pF wA (oO 9 34) (oO 13 38)
   ·exact mO 14 39
  intro B5 a5 W5 (S5 : Sta w 49 [(4, (qf6qn0 nD nL K D L))] [(24, bF), (1, (QV nT ts Kt)), (3, (QV nR rs Kr))] _ _ _)
  refine wp_cond_false (S5.bool 0 24 rfl) ?_
  refine wq [.val (QV nT ts Kt), kF, kT, kT, .off, .off, .off, kT, kT] [.inr 0] [.inl 8] S5 ?_ ?_
  ·repeat' refine And.intro ?_ ?_
   ·trivial
   ·exact mS 1 1
   ·exact ch1 wA (qO 0 41 rfl) (fresh_is _) (fun w u h => mayb_f w u nT Kt ts h (by omega) (by omega) lT i0 (by omega) g6 g7)
   ·exact b_not wA (oO 1 42)
   ·exact mO 2 43
   ·exact oF 3 44
   ·exact oF 3 44
   ·exact oF 3 44
   ·exact pT wA (oO 3 44) (opnd_const _)
   ·exact mO 7 48
  intro B6 a6 W6 (S6 : Sta w 49 [(4, (qf6qn0 nD nL K D L))] [(40, bT)] _ _ _)
  refine wp_cond_true (S6.bool 0 40 rfl) ?_
  refine wq [.val (iV 30)] [.inr 0] [.inl 0] S6 ?_ ?_
  ·apply jj1
   ·exact mC
  intro B7 a7 W7 (S7 : Sta w 49 [(4, (qf6qn0 nD nL K D L))] [(8, iV 30)] _ _ _)
  refine wp_ret (inBlkR (thenR ?_))
  exact end_one S7 rfl (res_tmp S7 0 8 rfl)
 ·skip
  refine wq [.val (SF [(Vv nD D K), (Mv nL L K)]), .val (qf6qn2 w), .val (qf6qn2 w), .val ((RN 1 1) w.heap.size), .val (iV 0), .new (qf6qn3), .put (.inr 5) (qf6qn1 w), .val (iV 0)] [.inr 0, .inl 5] [.inl 7, .inr 0, .inr 1, .inr 2] S1 ?_ ?_
  ·repeat' refine And.intro ?_ ?_
   ·trivial
   ·exact lod 0 wA (loads_of strct_gso shp_sf2)
   ·exact ch3 wA (qO 0 13 rfl) (opnd_const _) (opnd_const _) (fresh_two (fresh_rn _ _) (fresh_is _)) (fun w u0 u1 u2 h0 h1 h2 => by obtain rfl : u1 = _ := h1.now; obtain rfl : u2 = _ := h2.now; exact mu_e w u0 nD nL K D L h0 hD hL hK lD lL 0 g (by have := g.some; omega))
   ·exact mO 1 14
   ·exact e20 wA (oO 2 12)
   ·exact e21 wA (oO 2 12)
   ·exact owe_new rfl wA rfl rfl (fun ρ w => alloc_rat ρ _ w)
   ·exact owe_put 5 rfl wA rfl (by kernel_rfl) rfl (oO 3 15) (stores_of strct_rat shp_r0 (shp_pr shp_zn shp_zn)) rfl
   ·exact mO 4 16
  intro B2 a2 W2 (S2 : Sta w 49 [(4, (qf6qn0 nD nL K D L)), (9, (qf6qn1 w))] [(10, iV 0), (1, (QV nT ts Kt)), (2, Vv m x Ks), (3, (QV nR rs Kr))] _ _ _)
  refine wq [.val (Part a2 4 1), .val (Mv nL L K), .val (iV (nL : Nat)), .val (iV (nL : Nat))] [.inr 0] [.inl 3, .inr 0, .inr 1, .inr 2, .inr 3] S2 ?_ ?_
  ·apply jj4
   ·exact owe_part rfl wA rfl (k := 0) rfl (by kernel_rfl) rfl (fun ρ w b h => part_gso1 ρ _ _ w b 0 h)
   ·exact owe_pload rfl wA rfl (oO 0 17) (k := 0) rfl (by kernel_rfl) rfl (fun ρ w b u h1 h2 h3 => ploadS rfl load1_mat ρ _ _ w b u h1 h2 h3)
   ·exact owe_len rfl wA rfl (oO 1 18) ar_len Try.underlying23 rfl
   ·exact mO 2 19
  intro B3 a3 W3 (S3 : Sta w 49 [(4, (qf6qn0 nD nL K D L))] [(11, iV (nL : Nat)), (10, iV 0), (1, (QV nT ts Kt)), (2, Vv m x Ks), (3, (QV nR rs Kr))] _ _ _)
  refine wp_seq (wp_block ?_)
  refine wq [.val (iV 0), kF, kF] [.inr 0] [.inl 2, .inr 0, .inr 1, .inr 2, .inr 3, .inr 4] S3 ?_ ?_
  ·apply jj3
   ·exact mS 1 10
   ·exact b_neq_errno_f wA (oO 0 21) (opnd_const _) (h := rfl)
   ·exact mO 1 22
  intro B4 a4 W4 (S4 : Sta w 49 [(4, (qf6qn0 nD nL K D L))] [(20, bF), (11, iV (nL : Nat)), (10, iV 0), (1, (QV nT ts Kt)), (2, Vv m x Ks), (3, (QV nR rs Kr))] _ _ _)
  refine wp_cond_false (S4.bool 0 20 rfl) ?_
  rcases hl with hl | ⟨hl, hl2⟩
  ·skip
   refine wq [.val (QV nT ts Kt), .val (iV (nT : Nat)), kF, kF, .off, .off, .off, .off, kF, kF, .val (Vv m x Ks), .val (iV (m : Nat)), .val (iV (nL : Nat)), kF, kF, kF] [.inr 0] [.inl 15, .inr 3, .inr 5] S4 ?_ ?_
   ·repeat' refine And.intro ?_ ?_
    ·trivial
    ·exact mS 3 1
    ·exact owe_len rfl wA rfl (oO 0 25) ar_len Try.underlying26 rfl
    ·exact b_neq_int_f wA (oO 1 26) (opnd_const _)
    ·exact mO 2 27
    ·exact oF 3 28
    ·exact oF 3 28
    ·exact oF 3 28
    ·exact oF 3 28
    ·exact pF wA (oO 3 28) (opnd_const _)
    ·exact mO 8 33
    ·exact mW (wI 9 34) (oS 4 2)
    ·exact owe_len rfl (wI 9 34) rfl (oO 10 35) ar_len Try.underlying22 rfl
    ·exact mW (wI 9 34) (oS 1 11)
    ·exact b_gtr_int_f (wI 9 34) (oO 11 36) (oO 12 37)
    ·exact pF wA (oO 9 34) (oO 13 38)
    ·exact mO 14 39
   intro B5 a5 W5 (S5 : Sta w 49 [(4, (qf6qn0 nD nL K D L))] [(24, bF), (1, (QV nT ts Kt)), (3, (QV nR rs Kr))] _ _ _)
   refine wp_cond_false (S5.bool 0 24 rfl) ?_
   refine wq [.val (QV nT ts Kt), kT, kF, kF, .val (QV nR rs Kr), kF, kT, kT, kT] [.inr 0] [.inl 8] S5 ?_ ?_
   ·repeat' refine And.intro ?_ ?_
    ·trivial
    ·exact mS 1 1
    ·exact ch1 wA (qO 0 41 rfl) (fresh_is _) (fun w u h => mayb_t w u nT Kt ts h (by omega) (by omega) lT (fun i hi => gt i (by omega)))
    ·exact b_not wA (oO 1 42)
    ·exact mO 2 43
    ·exact mW (wI 3 44) (oS 2 3)
    ·exact ch1 (wI 3 44) (qO 4 45 rfl) (fresh_is _) (fun w u h => mayb_f w u nR Kr rs h (by omega) (by omega) lR i0 (by omega) g6 g7)
    ·exact b_not (wI 3 44) (oO 5 46)
    ·exact pF wA (oO 3 44) (oO 6 47)
    ·exact mO 7 48
   intro B6 a6 W6 (S6 : Sta w 49 [(4, (qf6qn0 nD nL K D L))] [(40, bT)] _ _ _)
   refine wp_cond_true (S6.bool 0 40 rfl) ?_
   refine wq [.val (iV 30)] [.inr 0] [.inl 0] S6 ?_ ?_
   ·apply jj1
    ·exact mC
   intro B7 a7 W7 (S7 : Sta w 49 [(4, (qf6qn0 nD nL K D L))] [(8, iV 30)] _ _ _)
   refine wp_ret (inBlkR (thenR ?_))
   exact end_one S7 rfl (res_tmp S7 0 8 rfl)
  ·skip
   refine wq [.val (QV nT ts Kt), .val (iV (nT : Nat)), kT, kT, .val (QV nT ts Kt), .val (iV (nT : Nat)), .val (iV (nL : Nat)), kF, kF, kF, .val (Vv m x Ks), .val (iV (m : Nat)), .val (iV (nL : Nat)), kF, kF, kF] [.inr 0] [.inl 15, .inr 3, .inr 5] S4 ?_ ?_
   ·repeat' refine And.intro ?_ ?_
    ·trivial
    ·exact mS 3 1
    ·exact owe_len rfl wA rfl (oO 0 25) ar_len Try.underlying26 rfl
    ·exact b_neq_int_t wA (oO 1 26) (opnd_const _)
    ·exact mO 2 27
    ·exact mW (wI 3 28) (oS 3 1)
    ·exact owe_len rfl (wI 3 28) rfl (oO 4 29) ar_len Try.underlying26 rfl
    ·exact mW (wI 3 28) (oS 1 11)
    ·exact b_neq_int_f (wI 3 28) (oO 5 30) (oO 6 31)
    ·exact pT wA (oO 3 28) (oO 7 32)
    ·exact mO 8 33
    ·exact mW (wI 9 34) (oS 4 2)
    ·exact owe_len rfl (wI 9 34) rfl (oO 10 35) ar_len Try.underlying22 rfl
    ·exact mW (wI 9 34) (oS 1 11)
    ·exact b_gtr_int_f (wI 9 34) (oO 11 36) (oO 12 37)
    ·exact pF wA (oO 9 34) (oO 13 38)
    ·exact mO 14 39
   intro B5 a5 W5 (S5 : Sta w 49 [(4, (qf6qn0 nD nL K D L))] [(24, bF), (1, (QV nT ts Kt)), (3, (QV nR rs Kr))] _ _ _)
   refine wp_cond_false (S5.bool 0 24 rfl) ?_
   refine wq [.val (QV nT ts Kt), kT, kF, kF, .val (QV nR rs Kr), kF, kT, kT, kT] [.inr 0] [.inl 8] S5 ?_ ?_
   ·repeat' refine And.intro ?_ ?_
    ·trivial
    ·exact mS 1 1
    ·exact ch1 wA (qO 0 41 rfl) (fresh_is _) (fun w u h => mayb_t w u nT Kt ts h (by omega) (by omega) lT (fun i hi => gt i (by omega)))
    ·exact b_not wA (oO 1 42)
    ·exact mO 2 43
    ·exact mW (wI 3 44) (oS 2 3)
    ·exact ch1 (wI 3 44) (qO 4 45 rfl) (fresh_is _) (fun w u h => mayb_f w u nR Kr rs h (by omega) (by omega) lR i0 (by omega) g6 g7)
    ·exact b_not (wI 3 44) (oO 5 46)
    ·exact pF wA (oO 3 44) (oO 6 47)
    ·exact mO 7 48
   intro B6 a6 W6 (S6 : Sta w 49 [(4, (qf6qn0 nD nL K D L))] [(40, bT)] _ _ _)
   refine wp_cond_true (S6.bool 0 40 rfl) ?_
   refine wq [.val (iV 30)] [.inr 0] [.inl 0] S6 ?_ ?_
   ·apply jj1
    ·exact mC
   intro B7 a7 W7 (S7 : Sta w 49 [(4, (qf6qn0 nD nL K D L))] [(8, iV 30)] _ _ _)
   refine wp_ret (inBlkR (thenR ?_))
   exact end_one S7 rfl (res_tmp S7 0 8 rfl)

abbrev qnas00 (nD : Nat) (nL : Nat) (K : Nat) (D : List Int) (L : List (List Int)) : Rk := .box 25 (SF [(Vv nD D K), (Mv nL L K)])
set_option maxHeartbeats 4000000 in
theorem refu_g (w : World) (u t v r : Value) (nD nL nT K Kt m Ks : Nat) (D : List Int) (L : List (List Int)) (ts : List (Int × Int)) (x : List Int) (h : Hs w (SF [Vv nD D K, Mv nL L K]) u) (ht : Hs w (QV nT ts Kt) t) (hv : Hs w (Vv m x Ks) v) (hD : nD ≤ 1048576) (hL : nL ≤ 1048576) (hT : nT ≤ 1048576) (hm0 : m ≤ 1048576) (hK : K ≤ 1048576) (hKt : Kt ≤ 1048576) (hKs : Ks ≤ 1048576) (lD : D.length = nD) (lL : L.length = nL) (lT : ts.length = nT) (lx : x.length = m) (nR Kr : Nat) (rs : List (Int × Int)) (hr : Hs w (QV nR rs Kr) r) (hR : nR ≤ 1048576) (hKr : Kr ≤ 8388608) (lR : rs.length = nR) (tg : FGood D L ts rs m) :
  Calls Try.prog 16 #[u, t, v, r] w (Gives (IS (.int .i64 0)) w) := by
 obtain ⟨g, hl, g3, gt, gr⟩ := tg
 refine calls_sta (sl := [(0, (SF [(Vv nD D K), (Mv nL L K)])), (1, (QV nT ts Kt)), (2, (Vv m x Ks)), (3, (QV nR rs Kr))]) Try.func16 rfl Try.ntmps16 (by simp) (args_cons rfl (h) (args_cons rfl (ht) (args_cons rfl (hv) (args_cons rfl (hr) args_nil)))) ?_
 intro a0 S0
 refine wq [.new (qnas00 nD nL K D L), .val (iV 0)] [.inl 0] [.inr 1, .inr 2, .inr 3] S0 ?_ ?_
 ·apply jj2
  ·exact owe_box rfl wA rfl (oS 0 0) rfl (fun ρ w h => box_gso shp_sf2 ρ _ _ w h)
  ·exact mC
 intro _ a1 _ (S1 : Sta w 49 [(4, (qnas00 nD nL K D L))] [(1, (QV nT ts Kt)), (2, Vv m x Ks), (3, (QV nR rs Kr))] _ _ _)
 refine wq [.val (SF [(Vv nD D K), (Mv nL L K)]), .val ((TWO (RN 1 1) (IS (.int .i64 0))) w.heap.size), .val ((TWO (RN 1 1) (IS (.int .i64 0))) w.heap.size), .val ((RN 1 1) w.heap.size), .val (iV 0), .new (.box 32 zR), .put (.inr 5) (.box 32 ((RN 1 1) w.heap.size)), .val (iV 0)] [.inr 0, .inl 5] [.inl 7, .inr 0, .inr 1, .inr 2] S1 ?_ ?_
 ·repeat' refine And.intro ?_ ?_
  ·trivial
  ·exact lod 0 wA (loads_of strct_gso shp_sf2)
  ·exact ch3 wA (qO 0 13 rfl) (opnd_const _) (opnd_const _) (fresh_two (fresh_rn _ _) (fresh_is _)) (fun w u0 u1 u2 h0 h1 h2 => by obtain rfl : u1 = _ := h1.now; obtain rfl : u2 = _ := h2.now; exact mu_e w u0 nD nL K D L h0 hD hL hK lD lL 0 g (by have := g.some; omega))
  ·exact mO 1 14
  ·exact e20 wA (oO 2 12)
  ·exact e21 wA (oO 2 12)
  ·exact owe_new rfl wA rfl rfl (fun ρ w => alloc_rat ρ _ w)
  ·exact owe_put 5 rfl wA rfl (by kernel_rfl) rfl (oO 3 15) (stores_of strct_rat shp_r0 (shp_pr shp_zn shp_zn)) rfl
  ·exact mO 4 16
 intro _ a2 _ (S2 : Sta w 49 [(4, (qnas00 nD nL K D L)), (9, (.box 32 ((RN 1 1) w.heap.size)))] [(10, iV 0), (1, (QV nT ts Kt)), (2, Vv m x Ks), (3, (QV nR rs Kr))] _ _ _)
 refine wq [.val (Part a2 4 1), .val (Mv nL L K), .val (iV (nL : Nat)), .val (iV (nL : Nat))] [.inr 0] [.inl 3, .inr 0, .inr 1, .inr 2, .inr 3] S2 ?_ ?_
 ·apply jj4
  ·exact owe_part rfl wA rfl (k := 0) rfl (by kernel_rfl) rfl (fun ρ w b h => part_gso1 ρ _ _ w b 0 h)
  ·exact owe_pload rfl wA rfl (oO 0 17) (k := 0) rfl (by kernel_rfl) rfl (fun ρ w b u h1 h2 h3 => ploadS rfl load1_mat ρ _ _ w b u h1 h2 h3)
  ·exact owe_len rfl wA rfl (oO 1 18) ar_len Try.underlying23 rfl
  ·exact mO 2 19
 intro _ a3 _ (S3 : Sta w 49 [(4, (qnas00 nD nL K D L))] [(11, iV (nL : Nat)), (10, iV 0), (1, (QV nT ts Kt)), (2, Vv m x Ks), (3, (QV nR rs Kr))] _ _ _)
 refine wp_seq (wp_block ?_)
 refine wq [.val (iV 0), kF, kF] [.inr 0] [.inl 2, .inr 0, .inr 1, .inr 2, .inr 3, .inr 4] S3 ?_ ?_
 ·apply jj3
  ·exact mS 1 10
  ·exact b_neq_errno_f wA (oO 0 21) (opnd_const _) (h := rfl)
  ·exact mO 1 22
 intro _ a4 _ (S4 : Sta w 49 [(4, (qnas00 nD nL K D L))] [(20, bF), (11, iV (nL : Nat)), (10, iV 0), (1, (QV nT ts Kt)), (2, Vv m x Ks), (3, (QV nR rs Kr))] _ _ _)
 refine wp_cond_false (S4.bool 0 20 rfl) ?_
 rcases hl with hl | ⟨hl, hl2⟩
 ·skip
  refine wq [.val (QV nT ts Kt), .val (iV (nT : Nat)), kF, kF, .off, .off, .off, .off, kF, kF, .val (Vv m x Ks), .val (iV (m : Nat)), .val (iV (nL : Nat)), kF, kF, kF] [.inr 0] [.inl 15, .inr 3, .inr 5] S4 ?_ ?_
  ·repeat' refine And.intro ?_ ?_
   ·trivial
   ·exact mS 3 1
   ·exact owe_len rfl wA rfl (oO 0 25) ar_len Try.underlying26 rfl
   ·exact b_neq_int_f wA (oO 1 26) (opnd_const _)
   ·exact mO 2 27
   ·exact oF 3 28
   ·exact oF 3 28
   ·exact oF 3 28
   ·exact oF 3 28
   ·exact pF wA (oO 3 28) (opnd_const _)
   ·exact mO 8 33
   ·exact mW (wI 9 34) (oS 4 2)
   ·exact owe_len rfl (wI 9 34) rfl (oO 10 35) ar_len Try.underlying22 rfl
   ·exact mW (wI 9 34) (oS 1 11)
   ·exact b_gtr_int_f (wI 9 34) (oO 11 36) (oO 12 37)
   ·exact pF wA (oO 9 34) (oO 13 38)
   ·exact mO 14 39
  intro B5 a5 W5 (S5 : Sta w 49 [(4, (qnas00 nD nL K D L))] [(24, bF), (1, (QV nT ts Kt)), (3, (QV nR rs Kr))] _ _ _)
  refine wp_cond_false (S5.bool 0 24 rfl) ?_
  refine wq [.val (QV nT ts Kt), kT, kF, kF, .val (QV nR rs Kr), kT, kF, kF, kF] [.inr 0] [.inl 8] S5 ?_ ?_
  ·repeat' refine And.intro ?_ ?_
   ·trivial
   ·exact mS 1 1
   ·exact ch1 wA (qO 0 41 rfl) (fresh_is _) (fun w u h => mayb_t w u nT Kt ts h (by omega) (by omega) lT (fun i hi => gt i (by omega)))
   ·exact b_not wA (oO 1 42)
   ·exact mO 2 43
   ·exact mW (wI 3 44) (oS 2 3)
   ·exact ch1 (wI 3 44) (qO 4 45 rfl) (fresh_is _) (fun w u h => mayb_t w u nR Kr rs h (by omega) (by omega) lR (fun i hi => gr i (by omega)))
   ·exact b_not (wI 3 44) (oO 5 46)
   ·exact pF wA (oO 3 44) (oO 6 47)
   ·exact mO 7 48
  intro B6 a6 W6 (S6 : Sta w 49 [(4, (qnas00 nD nL K D L))] [(40, bF)] _ _ _)
  refine wp_cond_false (S6.bool 0 40 rfl) (wp_skip (inBlkN (thenN ?_)))
  refine wq [.val (iV 0)] [.inr 0] [.inl 0] S6 ?_ ?_
  ·apply jj1
   ·exact mC
  intro B7 a7 W7 (S7 : Sta w 49 [(4, (qnas00 nD nL K D L))] [(8, iV 0)] _ _ _)
  refine wp_ret ?_
  exact end_one S7 rfl (res_tmp S7 0 8 rfl)
 ·skip
  refine wq [.val (QV nT ts Kt), .val (iV (nT : Nat)), kT, kT, .val (QV nT ts Kt), .val (iV (nT : Nat)), .val (iV (nL : Nat)), kF, kF, kF, .val (Vv m x Ks), .val (iV (m : Nat)), .val (iV (nL : Nat)), kF, kF, kF] [.inr 0] [.inl 15, .inr 3, .inr 5] S4 ?_ ?_
  ·repeat' refine And.intro ?_ ?_
   ·trivial
   ·exact mS 3 1
   ·exact owe_len rfl wA rfl (oO 0 25) ar_len Try.underlying26 rfl
   ·exact b_neq_int_t wA (oO 1 26) (opnd_const _)
   ·exact mO 2 27
   ·exact mW (wI 3 28) (oS 3 1)
   ·exact owe_len rfl (wI 3 28) rfl (oO 4 29) ar_len Try.underlying26 rfl
   ·exact mW (wI 3 28) (oS 1 11)
   ·exact b_neq_int_f (wI 3 28) (oO 5 30) (oO 6 31)
   ·exact pT wA (oO 3 28) (oO 7 32)
   ·exact mO 8 33
   ·exact mW (wI 9 34) (oS 4 2)
   ·exact owe_len rfl (wI 9 34) rfl (oO 10 35) ar_len Try.underlying22 rfl
   ·exact mW (wI 9 34) (oS 1 11)
   ·exact b_gtr_int_f (wI 9 34) (oO 11 36) (oO 12 37)
   ·exact pF wA (oO 9 34) (oO 13 38)
   ·exact mO 14 39
  intro B5 a5 W5 (S5 : Sta w 49 [(4, (qnas00 nD nL K D L))] [(24, bF), (1, (QV nT ts Kt)), (3, (QV nR rs Kr))] _ _ _)
  refine wp_cond_false (S5.bool 0 24 rfl) ?_
  refine wq [.val (QV nT ts Kt), kT, kF, kF, .val (QV nR rs Kr), kT, kF, kF, kF] [.inr 0] [.inl 8] S5 ?_ ?_
  ·repeat' refine And.intro ?_ ?_
   ·trivial
   ·exact mS 1 1
   ·exact ch1 wA (qO 0 41 rfl) (fresh_is _) (fun w u h => mayb_t w u nT Kt ts h (by omega) (by omega) lT (fun i hi => gt i (by omega)))
   ·exact b_not wA (oO 1 42)
   ·exact mO 2 43
   ·exact mW (wI 3 44) (oS 2 3)
   ·exact ch1 (wI 3 44) (qO 4 45 rfl) (fresh_is _) (fun w u h => mayb_t w u nR Kr rs h (by omega) (by omega) lR (fun i hi => gr i (by omega)))
   ·exact b_not (wI 3 44) (oO 5 46)
   ·exact pF wA (oO 3 44) (oO 6 47)
   ·exact mO 7 48
  intro B6 a6 W6 (S6 : Sta w 49 [(4, (qnas00 nD nL K D L))] [(40, bF)] _ _ _)
  refine wp_cond_false (S6.bool 0 40 rfl) (wp_skip (inBlkN (thenN ?_)))
  refine wq [.val (iV 0)] [.inr 0] [.inl 0] S6 ?_ ?_
  ·apply jj1
   ·exact mC
  intro B7 a7 W7 (S7 : Sta w 49 [(4, (qnas00 nD nL K D L))] [(8, iV 0)] _ _ _)
  refine wp_ret ?_
  exact end_one S7 rfl (res_tmp S7 0 8 rfl)

end Go.Proofs.Ytoeopdmaogmjhaa

/-
 filter.Norm, filter.Centre.
-/
namespace Go.Proofs.Ytoeopdmaogmjhaa
open Go Go.RowKit Nt
set_option linter.unusedSimpArgs false
set_option linter.unusedVariables false
set_option maxRecDepth 20000

abbrev qsum70  : Rk := .box 32 zR
set_option maxHeartbeats 2000000 in
theorem fnm_e (w : World) (u t v : Value) (nD nL nT K Kt m Ks : Nat) (D : List Int) (L : List (List Int)) (ts : List (Int × Int)) (x : List Int) (h : Hs w (SF [Vv nD D K, Mv nL L K]) u) (ht : Hs w (QV nT ts Kt) t) (hv : Hs w (Vv m x Ks) v) (hD : nD ≤ 1048576) (hL : nL ≤ 1048576) (hT : nT ≤ 1048576) (hm0 : m ≤ 1048576) (hK : K ≤ 1048576) (hKt : Kt ≤ 1048576) (hKs : Ks ≤ 1048576) (lD : D.length = nD) (lL : L.length = nL) (lT : ts.length = nT) (lx : x.length = m) (e0 : Int) (he : e0 ≠ 0) (g : FRef D L ts [] m e0) :
  Calls Try.prog 5 #[u, t, v] w (Gives (TWO (IS (.agg #[.bool false, .slice none 0 0, .bool false, .slice none 0 0])) (IS (.int .i64 e0))) w) := by
 refine calls_sta (sl := [(0, (SF [(Vv nD D K), (Mv nL L K)])), (1, (QV nT ts Kt)), (2, (Vv m x Ks))]) Try.func5 rfl Try.ntmps5 (by simp) (args_cons rfl (h) (args_cons rfl (ht) (args_cons rfl (hv) args_nil))) ?_
 intro a0 S0
 refine wq [.new (.box 25 (SF [(Vv nD D K), (Mv nL L K)])), .new (qsum70), .val (iV 0)] [.inl 0, .inl 1] [.inr 1, .inr 2] S0 ?_ ?_
 ·apply jj3
  ·exact owe_box rfl wA rfl (oS 0 0) rfl (fun ρ w h => box_gso shp_sf2 ρ _ _ w h)
  ·exact owe_new rfl wA rfl rfl (fun ρ w => alloc_rat ρ _ w)
  ·exact mC
 intro _ a1 _ (S1 : Sta w 31 [(3, (.box 25 (SF [(Vv nD D K), (Mv nL L K)]))), (6, (qsum70))] [(1, (QV nT ts Kt)), (2, Vv m x Ks)] _ _ _)
 refine wp_seq ?_
 refine wq [.val (SF [(Vv nD D K), (Mv nL L K)]), .val (QV nT ts Kt), .val (Vv m x Ks), .val (iV e0), .val (iV e0)] [.inr 0, .inr 1] [.inl 4, .inr 0, .inr 1] S1 ?_ ?_
 ·apply jj5
  ·exact lod 0 wA (loads_of strct_gso shp_sf2)
  ·exact mS 0 1
  ·exact mS 1 2
  ·exact owe_callh4 rfl wA rfl (oO 0 10) (oO 1 11) (oO 2 12) ((opnd_const _).imp nil_qv) (fresh_is _) rfl (fun args w => by go_simp) (fun w u0 u1 u2 u3 h0 h1 h2 h3 => refu_b w u0 u1 u2 u3 nD nL nT K Kt m Ks D L ts x h0 h1 h2 hD hL hT hm0 hK hKt hKs lD lL lT lx 0 0 [] h3 (by omega) (by omega) rfl e0 g)
  ·exact mO 3 13
 intro _ a2 _ (S2 : Sta w 31 [(3, (.box 25 (SF [(Vv nD D K), (Mv nL L K)]))), (6, (qsum70))] [(8, iV e0), (1, (QV nT ts Kt)), (2, Vv m x Ks)] _ _ _)
 refine wq [.val (iV e0), kT] [.inr 0, .inr 1] [.inl 1, .inr 0, .inr 1, .inr 2] S2 ?_ ?_
 ·apply jj2
  ·exact mS 0 8
  ·exact b_neq_errno_t wA (oO 0 14) (opnd_const _) (h := he)
 intro _ a3 _ (S3 : Sta w 31 [(3, (.box 25 (SF [(Vv nD D K), (Mv nL L K)]))), (6, (qsum70))] [(15, bT), (8, iV e0), (1, (QV nT ts Kt)), (2, Vv m x Ks)] _ _ _)
 refine wp_cond_true (S3.bool 0 15 rfl) ?_
 refine wq [.val zR, .val (iV e0), .put (.inl 6) (qsum70), .val (iV e0)] [.inr 0, .inr 1] [.inl 3] S3 ?_ ?_
 ·apply jj4
  ·exact owe_build_rat rfl wA rfl rfl
  ·exact mS 1 8
  ·exact owe_set rfl wA rfl (k := 1) rfl (by kernel_rfl) (oO 0 16) (stores_of strct_rat shp_r0 shp_r0) rfl
  ·exact mO 1 17
 intro _ a4 _ (S4 : Sta w 31 [(3, (.box 25 (SF [(Vv nD D K), (Mv nL L K)]))), (6, (qsum70))] [(7, iV e0)] _ _ _)
 refine wp_ret (thenR ?_)
 exact end_two S4 rfl (res_cell S4 1 6 rfl strct_rat shp_r0) (res_tmp S4 0 7 rfl)

abbrev qtlmf0 (w : World) (nL : Nat) (m : Nat) (D : List Int) (L : List (List Int)) (x : List Int) (τ : List Int) (dn : Int) : Pr := PR ((ZN ((fS D (shL x dn τ nL m) L nL m).1)) w.heap.size) ((ZN ((dn * dn) * ((fS D (shL x dn τ nL m) L nL m).2 * D.getD (nL - m) 0))) w.heap.size)
abbrev qtlmf1 (nD : Nat) (nL : Nat) (K : Nat) (D : List Int) (L : List (List Int)) : Rk := .box 25 (SF [(Vv nD D K), (Mv nL L K)])
abbrev qtlmf2  : Rk := .box 32 zR
set_option maxHeartbeats 4000000 in
theorem fnm_w (w : World) (u t v : Value) (nD nL nT K Kt m Ks : Nat) (D : List Int) (L : List (List Int)) (ts : List (Int × Int)) (x : List Int) (h : Hs w (SF [Vv nD D K, Mv nL L K]) u) (ht : Hs w (QV nT ts Kt) t) (hv : Hs w (Vv m x Ks) v) (hD : nD ≤ 1048576) (hL : nL ≤ 1048576) (hT : nT ≤ 1048576) (hm0 : m ≤ 1048576) (hK : K ≤ 1048576) (hKt : Kt ≤ 1048576) (hKs : Ks ≤ 1048576) (lD : D.length = nD) (lL : L.length = nL) (lT : ts.length = nT) (lx : x.length = m) (g : FGood D L ts [] m) (K2 : Nat) (τ : List Int) (dn : Int) (hK2 : K2 ≤ 16777216) (lτ : τ.length = nL) (hof : ∀ (B : Nat → Prop) (w : World) (u v : Value), (∀ k, B k → k < w.heap.size) → Has B w (SF [Vv nD D K, Mv nL L K]) u → Has B w (QV nT ts Kt) v → Calls Try.prog 17 #[u, v] w fun e w' => ∃ r, e = .returned r ∧ Below w.heap.size w w' ∧ Has B w' (APx nD nL nL K2 D L τ dn) r) (hN : ∀ k, k ≤ m → (digs (fS D (shL x dn τ nL m) L nL k).1.natAbs).length ≤ 67108864) (hR : ∀ k, k ≤ m → (digs (fS D (shL x dn τ nL m) L nL k).2.natAbs).length ≤ 67108864) (Kz : Nat) (hsd : Dl (shL x dn τ nL m) Kz) (qn : Nat) (hq : (dn * dn) * ((fS D (shL x dn τ nL m) L nL m).2 * D.getD (nL - m) 0) = (qn : Int)) (hq0 : qn ≠ 0) (hqd : (digs qn).length ≤ 67108864) :
  Calls Try.prog 5 #[u, t, v] w (Gives (TWO (QQ ((fS D (shL x dn τ nL m) L nL m).1) qn) (IS (.int .i64 0))) w) := by
 have hgl := g.g.len
 have hgm := g.m
 have hz3 : (digs ((dn * dn) * ((fS D (shL x dn τ nL m) L nL m).2 * D.getD (nL - m) 0)).natAbs).length ≤ 67108864 := by rw [hq]; exact hqd
 refine calls_sta (sl := [(0, (SF [(Vv nD D K), (Mv nL L K)])), (1, (QV nT ts Kt)), (2, (Vv m x Ks))]) Try.func5 rfl Try.ntmps5 (by simp) (args_cons rfl (h) (args_cons rfl (ht) (args_cons rfl (hv) args_nil))) ?_
 intro a0 S0
 refine wq [.new (qtlmf1 nD nL K D L), .new (qtlmf2), .val (iV 0)] [.inl 0, .inl 1] [.inr 1, .inr 2] S0 ?_ ?_
 ·apply jj3
  ·exact owe_box rfl wA rfl (oS 0 0) rfl (fun ρ w h => box_gso shp_sf2 ρ _ _ w h)
  ·exact owe_new rfl wA rfl rfl (fun ρ w => alloc_rat ρ _ w)
  ·exact mC
 intro _ a1 _ (S1 : Sta w 31 [(3, (qtlmf1 nD nL K D L)), (6, (qtlmf2))] [(1, (QV nT ts Kt)), (2, Vv m x Ks)] _ _ _)
 refine wp_seq ?_
 refine wq [.val (SF [(Vv nD D K), (Mv nL L K)]), .val (QV nT ts Kt), .val (Vv m x Ks), .val (iV 0), .val (iV 0)] [.inr 0, .inr 1] [.inl 4, .inr 0, .inr 1] S1 ?_ ?_
 ·apply jj5
  ·exact lod 0 wA (loads_of strct_gso shp_sf2)
  ·exact mS 0 1
  ·exact mS 1 2
  ·exact owe_callh4 rfl wA rfl (oO 0 10) (oO 1 11) (oO 2 12) ((opnd_const _).imp nil_qv) (fresh_is _) rfl (fun args w => by go_simp) (fun w u0 u1 u2 u3 h0 h1 h2 h3 => refu_g w u0 u1 u2 u3 nD nL nT K Kt m Ks D L ts x h0 h1 h2 hD hL hT hm0 hK hKt hKs lD lL lT lx 0 0 [] h3 (by omega) (by omega) rfl g)
  ·exact mO 3 13
 intro _ a2 _ (S2 : Sta w 31 [(3, (qtlmf1 nD nL K D L)), (6, (qtlmf2))] [(8, iV 0), (1, (QV nT ts Kt)), (2, Vv m x Ks)] _ _ _)
 refine wq [.val (iV 0), kF] [.inr 0, .inr 1] [.inl 1, .inr 0, .inr 1, .inr 2] S2 ?_ ?_
 ·apply jj2
  ·exact mS 0 8
  ·exact b_neq_errno_f wA (oO 0 14) (opnd_const _) (h := rfl)
 intro _ a3 _ (S3 : Sta w 31 [(3, (qtlmf1 nD nL K D L)), (6, (qtlmf2))] [(15, bF), (8, iV 0), (1, (QV nT ts Kt)), (2, Vv m x Ks)] _ _ _)
 refine wp_cond_false (S3.bool 0 15 rfl) (wp_skip (thenN ?_))
 refine wq [.val (SF [(Vv nD D K), (Mv nL L K)]), .val (QV nT ts Kt), .val (APx nD nL nL K2 D L τ dn), .val (Vv m x Ks), .val (SP (APx nD nL nL K2 D L τ dn) ((VN m (shL x dn τ nL m)) w.heap.size) ((ZN (fB (shL x dn τ nL m) L nL m)) w.heap.size) ((ZN ((fS D (shL x dn τ nL m) L nL m).1)) w.heap.size) ((ZN ((fS D (shL x dn τ nL m) L nL m).2)) w.heap.size)), .val (qtlmf0 w nL m D L x τ dn), .new (qtlmf2), .put (.inr 6) (.box 32 (qtlmf0 w nL m D L x τ dn))] [.inr 0, .inr 1, .inl 6] [] S3 ?_ ?_
 ·repeat' refine And.intro ?_ ?_
  ·trivial
  ·exact lod 0 wA (loads_of strct_gso shp_sf2)
  ·exact mS 2 1
  ·exact owe_callB2 rfl wA rfl (oO 0 18) (oO 1 19) rfl (fun args w => by go_simp) (fun B w u v _ hB h1 h2 => hof B w u v hB h1 h2)
  ·exact mS 3 2
  ·exact owe_callB2 rfl wA rfl (oO 2 20) (oO 3 21) rfl (fun args w => by go_simp) (fun B w u v hlo hB h1 h2 => at_H (by omega) hL hL hK2 lD lL lτ lx (by omega) rfl (by omega) (fun j hj => g.g.row j (by omega)) (fun i hi => by have := g.g.pos i (by omega); omega) (by omega) (fun k hk => Nat.le_trans (hN k hk) (by omega)) (fun k hk => Nat.le_trans (hR k hk) (by omega)) B w u v hlo hB h1 h2)
  ·exact owe_callB1 rfl wA rfl (oO 4 22) rfl (fun args w => by go_simp) (fun B w u hlo hB h1 => norm_H (Ks := Kz) (fun v w h => h) (by omega) hL hL hK2 lD lL lτ (by omega) (shL_len _ _ _ _ _) rfl (by omega) hsd (Nat.le_trans (hR m (Nat.le_refl _)) (by omega)) B w u hlo hB h1)
  ·exact owe_new rfl wA rfl rfl (fun ρ w => alloc_rat ρ _ w)
  ·exact owe_put 6 rfl wA rfl (by kernel_rfl) rfl (oO 5 23) (stores_of strct_rat shp_r0 (shp_pr shp_zn shp_zn)) rfl
 intro _ a4 _ (S4 : Sta w 31 [(3, (qtlmf1 nD nL K D L)), (6, (qtlmf2)), (9, (.box 32 (qtlmf0 w nL m D L x τ dn)))] [] _ _ _)
 refine wq [.val (Part a4 9 0), .val ((ZN ((fS D (shL x dn τ nL m) L nL m).1)) w.heap.size), .val (Part a4 9 2), .val ((ZN ((dn * dn) * ((fS D (shL x dn τ nL m) L nL m).2 * D.getD (nL - m) 0))) w.heap.size), .val ((TWO (QQ ((fS D (shL x dn τ nL m) L nL m).1) qn) (IS (.int .i64 0))) w.heap.size), .val ((QQ ((fS D (shL x dn τ nL m) L nL m).1) qn) w.heap.size), .val (iV 0), .put (.inl 6) (.box 32 ((QQ ((fS D (shL x dn τ nL m) L nL m).1) qn) w.heap.size)), .val (iV 0)] [.inr 0, .inr 1] [.inl 8] S4 ?_ ?_
 ·repeat' refine And.intro ?_ ?_
  ·trivial
  ·exact owe_part rfl wA rfl (k := 2) rfl (by kernel_rfl) rfl (fun ρ w b h => part_rat0 ρ _ _ w b 0 h)
  ·exact owe_pload rfl wA rfl (oO 0 24) (k := 2) rfl (by kernel_rfl) rfl (fun ρ w b u h1 h2 h3 => pload_num ρ _ _ w b u h1 h2 h3)
  ·exact owe_part rfl wA rfl (k := 2) rfl (by kernel_rfl) rfl (fun ρ w b h => part_rat1 ρ _ _ w b 0 h)
  ·exact owe_pload rfl wA rfl (oO 2 26) (k := 2) rfl (by kernel_rfl) rfl (fun ρ w b u h1 h2 h3 => pload_den ρ _ _ w b u h1 h2 h3)
  ·exact cc2 wA (qO 1 25 rfl) (qO 3 27 rfl) (fresh_two (fresh_qq _ _) (fresh_is _)) (fun w u v h1 h2 => g_ratmake (k := 67108864) (k' := 67108864) hq0 (by omega) (by omega) w u v ((zn_zv (hN m (Nat.le_refl _))) _ _ h1) (by rw [← hq]; exact (zn_zv hz3) _ _ h2))
  ·exact e20 wA (oO 4 28)
  ·exact e21 wA (oO 4 28)
  ·exact owe_set rfl wA rfl (k := 1) rfl (by kernel_rfl) (oO 5 29) (stores_of strct_rat shp_r0 shp_qq) rfl
  ·exact mO 6 30
 intro _ a5 _ (S5 : Sta w 31 [(3, (qtlmf1 nD nL K D L)), (6, (.box 32 ((QQ ((fS D (shL x dn τ nL m) L nL m).1) qn) w.heap.size)))] [(7, iV 0)] _ _ _)
 refine wp_ret ?_
 exact end_two S5 rfl (res_cell S5 1 6 rfl strct_rat shp_qq) (res_tmp S5 0 7 rfl)

end Go.Proofs.Ytoeopdmaogmjhaa
