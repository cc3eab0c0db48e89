import Derived.Test.YtoeopdmaogmjhaaJaA
import Derived.Test.YtoeopdmaogmjhaaAmE
import Derived.Test.YtoeopdmaogmjhaaJaC
import Derived.Test.YtoeopdmaogmjhaaGlA
import Derived.Test.YtoeopdmaogmjhaaJaB
import Derived.Test.YtoeopdmaogmjhaaCoB
/-
 The limbs of a number in a list, read through its place; an empty frame.
-/
namespace Go.Proofs.Ytoeopdmaogmjhaa
open Go Go.RowKit Nt
set_option linter.unusedSimpArgs false
set_option linter.unusedVariables false
set_option maxRecDepth 20000

section
variable {ops : Array Oper} {l : List Kd} {bx : Bxs} {sl : List (Tmp × Pr)} {i : Nat} {o : Oper} {Q : Exit → Act → World → Prop} {a0 : Act} {n : Nat} {w0 : World}
end
end Go.Proofs.Ytoeopdmaogmjhaa

/-
 filter.Centre, filter.Range.
-/
namespace Go.Proofs.Ytoeopdmaogmjhaa
open Go Go.RowKit Nt
set_option linter.unusedSimpArgs false
set_option linter.unusedVariables false
set_option maxRecDepth 20000

abbrev qkzj10  : Rk := .box 32 zR
set_option maxHeartbeats 2000000 in
theorem fct_e (w : World) (u t v : Value) (nD nL nT K Kt m Ks : Nat) (D : List Int) (L : List (List Int)) (ts : List (Int × Int)) (x : List Int) (h : Hs w (SF [Vv nD D K, Mv nL L K]) u) (ht : Hs w (QV nT ts Kt) t) (hv : Hs w (Vv m x Ks) v) (hD : nD ≤ 1048576) (hL : nL ≤ 1048576) (hT : nT ≤ 1048576) (hm0 : m ≤ 1048576) (hK : K ≤ 1048576) (hKt : Kt ≤ 1048576) (hKs : Ks ≤ 1048576) (lD : D.length = nD) (lL : L.length = nL) (lT : ts.length = nT) (lx : x.length = m) (e0 : Int) (he : e0 ≠ 0) (g : FRef D L ts [] m e0) :
  Calls Try.prog 6 #[u, t, v] w (Gives (TWO (IS (.agg #[.bool false, .slice none 0 0, .bool false, .slice none 0 0])) (IS (.int .i64 e0))) w) := by
 refine calls_sta (sl := [(0, (SF [(Vv nD D K), (Mv nL L K)])), (1, (QV nT ts Kt)), (2, (Vv m x Ks))]) Try.func6 rfl Try.ntmps6 (by simp) (args_cons rfl (h) (args_cons rfl (ht) (args_cons rfl (hv) args_nil))) ?_
 intro a0 S0
 refine wq [.new (.box 25 (SF [(Vv nD D K), (Mv nL L K)])), .new (qkzj10), .val (iV 0)] [.inl 0, .inl 1] [.inr 1, .inr 2] S0 ?_ ?_
 ·apply jj3
  ·exact owe_box rfl wA rfl (oS 0 0) rfl (fun ρ w h => box_gso shp_sf2 ρ _ _ w h)
  ·exact owe_new rfl wA rfl rfl (fun ρ w => alloc_rat ρ _ w)
  ·exact mC
 intro _ a1 _ (S1 : Sta w 38 [(3, (.box 25 (SF [(Vv nD D K), (Mv nL L K)]))), (6, (qkzj10))] [(1, (QV nT ts Kt)), (2, Vv m x Ks)] _ _ _)
 refine wp_seq ?_
 refine wq [.val (SF [(Vv nD D K), (Mv nL L K)]), .val (QV nT ts Kt), .val (Vv m x Ks), .val (iV e0), .val (iV e0)] [.inr 0, .inr 1] [.inl 4, .inr 0, .inr 1] S1 ?_ ?_
 ·apply jj5
  ·exact lod 0 wA (loads_of strct_gso shp_sf2)
  ·exact mS 0 1
  ·exact mS 1 2
  ·exact owe_callh4 rfl wA rfl (oO 0 10) (oO 1 11) (oO 2 12) ((opnd_const _).imp nil_qv) (fresh_is _) rfl (fun args w => by go_simp) (fun w u0 u1 u2 u3 h0 h1 h2 h3 => refu_b w u0 u1 u2 u3 nD nL nT K Kt m Ks D L ts x h0 h1 h2 hD hL hT hm0 hK hKt hKs lD lL lT lx 0 0 [] h3 (by omega) (by omega) rfl e0 g)
  ·exact mO 3 13
 intro _ a2 _ (S2 : Sta w 38 [(3, (.box 25 (SF [(Vv nD D K), (Mv nL L K)]))), (6, (qkzj10))] [(8, iV e0), (1, (QV nT ts Kt)), (2, Vv m x Ks)] _ _ _)
 refine wq [.val (iV e0), kT] [.inr 0, .inr 1] [.inl 1, .inr 0, .inr 1, .inr 2] S2 ?_ ?_
 ·apply jj2
  ·exact mS 0 8
  ·exact b_neq_errno_t wA (oO 0 14) (opnd_const _) (h := he)
 intro _ a3 _ (S3 : Sta w 38 [(3, (.box 25 (SF [(Vv nD D K), (Mv nL L K)]))), (6, (qkzj10))] [(15, bT), (8, iV e0), (1, (QV nT ts Kt)), (2, Vv m x Ks)] _ _ _)
 refine wp_cond_true (S3.bool 0 15 rfl) ?_
 refine wq [.val zR, .val (iV e0), .put (.inl 6) (qkzj10), .val (iV e0)] [.inr 0, .inr 1] [.inl 3] S3 ?_ ?_
 ·apply jj4
  ·exact owe_build_rat rfl wA rfl rfl
  ·exact mS 1 8
  ·exact owe_set rfl wA rfl (k := 1) rfl (by kernel_rfl) (oO 0 16) (stores_of strct_rat shp_r0 shp_r0) rfl
  ·exact mO 1 17
 intro _ a4 _ (S4 : Sta w 38 [(3, (.box 25 (SF [(Vv nD D K), (Mv nL L K)]))), (6, (qkzj10))] [(7, iV e0)] _ _ _)
 refine wp_ret (thenR ?_)
 exact end_two S4 rfl (res_cell S4 1 6 rfl strct_rat shp_r0) (res_tmp S4 0 7 rfl)

abbrev qio8g0  : Rk := .box 32 zR
abbrev qio8g1 (nD : Nat) (nL : Nat) (K : Nat) (D : List Int) (L : List (List Int)) : Rk := .box 25 (SF [(Vv nD D K), (Mv nL L K)])
set_option maxHeartbeats 2000000 in
theorem fct_1 (w : World) (u t v : Value) (nD nL nT K Kt m Ks : Nat) (D : List Int) (L : List (List Int)) (ts : List (Int × Int)) (x : List Int) (h : Hs w (SF [Vv nD D K, Mv nL L K]) u) (ht : Hs w (QV nT ts Kt) t) (hv : Hs w (Vv m x Ks) v) (hD : nD ≤ 1048576) (hL : nL ≤ 1048576) (hT : nT ≤ 1048576) (hm0 : m ≤ 1048576) (hK : K ≤ 1048576) (hKt : Kt ≤ 1048576) (hKs : Ks ≤ 1048576) (lD : D.length = nD) (lL : L.length = nL) (lT : ts.length = nT) (lx : x.length = m) (g : FGood D L ts [] m) (hml : m = nL) :
  Calls Try.prog 6 #[u, t, v] w (Gives (TWO (IS (.agg #[.bool false, .slice none 0 0, .bool false, .slice none 0 0])) (IS (.int .i64 1))) w) := by
 refine calls_sta (sl := [(0, (SF [(Vv nD D K), (Mv nL L K)])), (1, (QV nT ts Kt)), (2, (Vv m x Ks))]) Try.func6 rfl Try.ntmps6 (by simp) (args_cons rfl (h) (args_cons rfl (ht) (args_cons rfl (hv) args_nil))) ?_
 intro a0 S0
 refine wq [.new (qio8g1 nD nL K D L), .new (qio8g0), .val (iV 0)] [.inl 0, .inl 1] [.inr 1, .inr 2] S0 ?_ ?_
 ·apply jj3
  ·exact owe_box rfl wA rfl (oS 0 0) rfl (fun ρ w h => box_gso shp_sf2 ρ _ _ w h)
  ·exact owe_new rfl wA rfl rfl (fun ρ w => alloc_rat ρ _ w)
  ·exact mC
 intro _ a1 _ (S1 : Sta w 38 [(3, (qio8g1 nD nL K D L)), (6, (qio8g0))] [(1, (QV nT ts Kt)), (2, Vv m x Ks)] _ _ _)
 refine wp_seq ?_
 refine wq [.val (SF [(Vv nD D K), (Mv nL L K)]), .val (QV nT ts Kt), .val (Vv m x Ks), .val (iV 0), .val (iV 0)] [.inr 0, .inr 1] [.inl 4, .inr 0, .inr 1] S1 ?_ ?_
 ·apply jj5
  ·exact lod 0 wA (loads_of strct_gso shp_sf2)
  ·exact mS 0 1
  ·exact mS 1 2
  ·exact owe_callh4 rfl wA rfl (oO 0 10) (oO 1 11) (oO 2 12) ((opnd_const _).imp nil_qv) (fresh_is _) rfl (fun args w => by go_simp) (fun w u0 u1 u2 u3 h0 h1 h2 h3 => refu_g w u0 u1 u2 u3 nD nL nT K Kt m Ks D L ts x h0 h1 h2 hD hL hT hm0 hK hKt hKs lD lL lT lx 0 0 [] h3 (by omega) (by omega) rfl g)
  ·exact mO 3 13
 intro _ a2 _ (S2 : Sta w 38 [(3, (qio8g1 nD nL K D L)), (6, (qio8g0))] [(8, iV 0), (1, (QV nT ts Kt)), (2, Vv m x Ks)] _ _ _)
 refine wq [.val (iV 0), kF] [.inr 0, .inr 1] [.inl 1, .inr 0, .inr 1, .inr 2] S2 ?_ ?_
 ·apply jj2
  ·exact mS 0 8
  ·exact b_neq_errno_f wA (oO 0 14) (opnd_const _) (h := rfl)
 intro _ a3 _ (S3 : Sta w 38 [(3, (qio8g1 nD nL K D L)), (6, (qio8g0))] [(15, bF), (8, iV 0), (1, (QV nT ts Kt)), (2, Vv m x Ks)] _ _ _)
 refine wp_cond_false (S3.bool 0 15 rfl) (wp_skip (thenN (wp_seq ?_)))
 refine wq [.val (Vv m x Ks), .val (iV (m : Nat)), .val (Part a3 3 1), .val (Mv nL L K), .val (iV (nL : Nat)), kT] [.inr 0, .inr 1] [.inl 5, .inr 2, .inr 3] S3 ?_ ?_
 ·apply jj6
  ·exact mS 3 2
  ·exact owe_len rfl wA rfl (oO 0 18) ar_len Try.underlying22 rfl
  ·exact owe_part rfl wA rfl (k := 0) rfl (by kernel_rfl) rfl (fun ρ w b h => part_gso1 ρ _ _ w b 0 h)
  ·exact owe_pload rfl wA rfl (oO 2 20) (k := 0) rfl (by kernel_rfl) rfl (fun ρ w b u h1 h2 h3 => ploadS rfl load1_mat ρ _ _ w b u h1 h2 h3)
  ·exact owe_len rfl wA rfl (oO 3 21) ar_len Try.underlying23 rfl
  ·exact b_eql_int_t wA (oO 1 19) (oO 4 22)
 intro _ a4 _ (S4 : Sta w 38 [(3, (qio8g1 nD nL K D L)), (6, (qio8g0))] [(23, bT), (1, (QV nT ts Kt)), (2, Vv m x Ks)] _ _ _)
 refine wp_cond_true (S4.bool 0 23 rfl) ?_
 refine wq [.val zR, .put (.inl 6) (qio8g0), .val (iV 1)] [.inr 0, .inr 1] [.inl 2] S4 ?_ ?_
 ·apply jj3
  ·exact owe_build_rat rfl wA rfl rfl
  ·exact owe_set rfl wA rfl (k := 1) rfl (by kernel_rfl) (oO 0 24) (stores_of strct_rat shp_r0 shp_r0) rfl
  ·exact mC
 intro _ a5 _ (S5 : Sta w 38 [(3, (qio8g1 nD nL K D L)), (6, (qio8g0))] [(7, iV 1)] _ _ _)
 refine wp_ret (thenR ?_)
 exact end_two S5 rfl (res_cell S5 1 6 rfl strct_rat shp_r0) (res_tmp S5 0 7 rfl)

abbrev qq8450 (nD : Nat) (nL : Nat) (K : Nat) (D : List Int) (L : List (List Int)) : Rk := .box 25 (SF [(Vv nD D K), (Mv nL L K)])
abbrev qq8451  : Rk := .box 32 zR
set_option maxHeartbeats 4000000 in
theorem fct_w (w : World) (u t v : Value) (nD nL nT K Kt m Ks : Nat) (D : List Int) (L : List (List Int)) (ts : List (Int × Int)) (x : List Int) (h : Hs w (SF [Vv nD D K, Mv nL L K]) u) (ht : Hs w (QV nT ts Kt) t) (hv : Hs w (Vv m x Ks) v) (hD : nD ≤ 1048576) (hL : nL ≤ 1048576) (hT : nT ≤ 1048576) (hm0 : m ≤ 1048576) (hK : K ≤ 1048576) (hKt : Kt ≤ 1048576) (hKs : Ks ≤ 1048576) (lD : D.length = nD) (lL : L.length = nL) (lT : ts.length = nT) (lx : x.length = m) (g : FGood D L ts [] m) (K2 : Nat) (τ : List Int) (dn : Int) (hK2 : K2 ≤ 16777216) (lτ : τ.length = nL) (hof : ∀ (B : Nat → Prop) (w : World) (u v : Value), (∀ k, B k → k < w.heap.size) → Has B w (SF [Vv nD D K, Mv nL L K]) u → Has B w (QV nT ts Kt) v → Calls Try.prog 17 #[u, v] w fun e w' => ∃ r, e = .returned r ∧ Below w.heap.size w w' ∧ Has B w' (APx nD nL nL K2 D L τ dn) r) (hN : ∀ k, k ≤ m → (digs (fS D (shL x dn τ nL m) L nL k).1.natAbs).length ≤ 67108864) (hR : ∀ k, k ≤ m → (digs (fS D (shL x dn τ nL m) L nL k).2.natAbs).length ≤ 67108864) (hml : m < nL) (T0 D1 cn cd : Int) (eT : τ.getD (nL - 1 - m) 0 = T0) (eD1 : D.getD (nL - 1 - m + 1) 0 = D1) (ecn : T0 * D1 - fB (shL x dn τ nL m) L nL m = cn) (ecd : dn * D1 = cd) (Kz : Nat) (hsd : Dl (shL x dn τ nL m) Kz) (hbB : (digs (fB (shL x dn τ nL m) L nL m).natAbs).length ≤ 134217728) (qc : Nat) (hq : cd = (qc : Int)) (hq0 : qc ≠ 0) (hqc : (digs qc).length ≤ 67108864) (hcn : (digs cn.natAbs).length ≤ 67108864) :
  Calls Try.prog 6 #[u, t, v] w (Gives (TWO (QQ cn qc) (IS (.int .i64 0))) w) := by
 have hgl := g.g.len
 have hNb : (digs (fS D (shL x dn τ nL m) L nL m).1.natAbs).length ≤ 67108864 := hN m (Nat.le_refl _)
 have hRb : (digs (fS D (shL x dn τ nL m) L nL m).2.natAbs).length ≤ 67108864 := hR m (Nat.le_refl _)
 have hcd : (digs cd.natAbs).length ≤ 67108864 := by rw [hq]; exact hqc
 refine calls_sta (sl := [(0, (SF [(Vv nD D K), (Mv nL L K)])), (1, (QV nT ts Kt)), (2, (Vv m x Ks))]) Try.func6 rfl Try.ntmps6 (by simp) (args_cons rfl (h) (args_cons rfl (ht) (args_cons rfl (hv) args_nil))) ?_
 intro a0 S0
 refine wq [.new (qq8450 nD nL K D L), .new (qq8451), .val (iV 0)] [.inl 0, .inl 1] [.inr 1, .inr 2] S0 ?_ ?_
 ·apply jj3
  ·exact owe_box rfl wA rfl (oS 0 0) rfl (fun ρ w h => box_gso shp_sf2 ρ _ _ w h)
  ·exact owe_new rfl wA rfl rfl (fun ρ w => alloc_rat ρ _ w)
  ·exact mC
 intro _ a1 _ (S1 : Sta w 38 [(3, (qq8450 nD nL K D L)), (6, (qq8451))] [(1, (QV nT ts Kt)), (2, Vv m x Ks)] _ _ _)
 refine wp_seq ?_
 refine wq [.val (SF [(Vv nD D K), (Mv nL L K)]), .val (QV nT ts Kt), .val (Vv m x Ks), .val (iV 0), .val (iV 0)] [.inr 0, .inr 1] [.inl 4, .inr 0, .inr 1] S1 ?_ ?_
 ·apply jj5
  ·exact lod 0 wA (loads_of strct_gso shp_sf2)
  ·exact mS 0 1
  ·exact mS 1 2
  ·exact owe_callh4 rfl wA rfl (oO 0 10) (oO 1 11) (oO 2 12) ((opnd_const _).imp nil_qv) (fresh_is _) rfl (fun args w => by go_simp) (fun w u0 u1 u2 u3 h0 h1 h2 h3 => refu_g w u0 u1 u2 u3 nD nL nT K Kt m Ks D L ts x h0 h1 h2 hD hL hT hm0 hK hKt hKs lD lL lT lx 0 0 [] h3 (by omega) (by omega) rfl g)
  ·exact mO 3 13
 intro _ a2 _ (S2 : Sta w 38 [(3, (qq8450 nD nL K D L)), (6, (qq8451))] [(8, iV 0), (1, (QV nT ts Kt)), (2, Vv m x Ks)] _ _ _)
 refine wq [.val (iV 0), kF] [.inr 0, .inr 1] [.inl 1, .inr 0, .inr 1, .inr 2] S2 ?_ ?_
 ·apply jj2
  ·exact mS 0 8
  ·exact b_neq_errno_f wA (oO 0 14) (opnd_const _) (h := rfl)
 intro _ a3 _ (S3 : Sta w 38 [(3, (qq8450 nD nL K D L)), (6, (qq8451))] [(15, bF), (8, iV 0), (1, (QV nT ts Kt)), (2, Vv m x Ks)] _ _ _)
 refine wp_cond_false (S3.bool 0 15 rfl) (wp_skip (thenN (wp_seq ?_)))
 refine wq [.val (Vv m x Ks), .val (iV (m : Nat)), .val (Part a3 3 1), .val (Mv nL L K), .val (iV (nL : Nat)), kF] [.inr 0, .inr 1] [.inl 5, .inr 2, .inr 3] S3 ?_ ?_
 ·apply jj6
  ·exact mS 3 2
  ·exact owe_len rfl wA rfl (oO 0 18) ar_len Try.underlying22 rfl
  ·exact owe_part rfl wA rfl (k := 0) rfl (by kernel_rfl) rfl (fun ρ w b h => part_gso1 ρ _ _ w b 0 h)
  ·exact owe_pload rfl wA rfl (oO 2 20) (k := 0) rfl (by kernel_rfl) rfl (fun ρ w b u h1 h2 h3 => ploadS rfl load1_mat ρ _ _ w b u h1 h2 h3)
  ·exact owe_len rfl wA rfl (oO 3 21) ar_len Try.underlying23 rfl
  ·exact b_eql_int_f wA (oO 1 19) (oO 4 22)
 intro _ a4 _ (S4 : Sta w 38 [(3, (qq8450 nD nL K D L)), (6, (qq8451))] [(23, bF), (1, (QV nT ts Kt)), (2, Vv m x Ks)] _ _ _)
 refine wp_cond_false (S4.bool 0 23 rfl) (wp_skip (thenN ?_))
 refine wq [.val (SF [(Vv nD D K), (Mv nL L K)]), .val (QV nT ts Kt), .val (APx nD nL nL K2 D L τ dn), .val (Vv m x Ks), .val (SP (APx nD nL nL K2 D L τ dn) ((VN m (shL x dn τ nL m)) w.heap.size) ((ZN (fB (shL x dn τ nL m) L nL m)) w.heap.size) ((ZN ((fS D (shL x dn τ nL m) L nL m).1)) w.heap.size) ((ZN ((fS D (shL x dn τ nL m) L nL m).2)) w.heap.size)), .val ((PRF (ZN (cn)) (ZN (cd))) w.heap.size), .new (qq8451), .put (.inr 6) (.box 32 ((PRF (ZN (cn)) (ZN (cd))) w.heap.size))] [.inr 0, .inr 1, .inl 6] [] S4 ?_ ?_
 ·repeat' refine And.intro ?_ ?_
  ·trivial
  ·exact lod 0 wA (loads_of strct_gso shp_sf2)
  ·exact mS 1 1
  ·exact owe_callB2 rfl wA rfl (oO 0 25) (oO 1 26) rfl (fun args w => by go_simp) (fun B w u v _ hB h1 h2 => hof B w u v hB h1 h2)
  ·exact mS 2 2
  ·exact owe_callB2 rfl wA rfl (oO 2 27) (oO 3 28) rfl (fun args w => by go_simp) (fun B w u v hlo hB h1 h2 => at_H (by omega) hL hL hK2 lD lL lτ lx (by omega) rfl (by omega) (fun j hj => g.g.row j (by omega)) (fun i hi => by have := g.g.pos i (by omega); omega) (by omega) (fun k hk => Nat.le_trans (hN k hk) (by omega)) (fun k hk => Nat.le_trans (hR k hk) (by omega)) B w u v hlo hB h1 h2)
  ·exact ch1 wA ((qO 4 29 rfl).imp (sp_imp (fun v w h => h) (vn_vv hsd) (zn_zv hbB) (zn_zv hNb) (zn_zv hRb))) (fresh_prf (fresh_zn _) (fresh_zn _)) (fun w u0 h0 => by obtain ⟨pa, h0⟩ := sp_pa (fun v w h => h) h0; exact Gives.cast (sct_w w pa nD nL nL K2 D L τ dn (by omega) hL hL hK2 lD lL lτ u0 m Kz _ _ _ _ _ _ _ h0 hml (shL_len _ _ _ _ _) rfl (by omega) T0 D1 eT eD1 (Nat.le_refl _)) (by rw [ecn, ecd]))
  ·exact owe_new rfl wA rfl rfl (fun ρ w => alloc_rat ρ _ w)
  ·exact owe_put 6 rfl wA rfl (by kernel_rfl) rfl (oO 5 30) (stores_of strct_rat shp_r0 (shp_pr shp_zn shp_zn)) rfl
 intro _ a5 _ (S5 : Sta w 38 [(3, (qq8450 nD nL K D L)), (6, (qq8451)), (9, (.box 32 ((PRF (ZN (cn)) (ZN (cd))) w.heap.size)))] [] _ _ _)
 refine wq [.val (Part a5 9 0), .val ((ZN (cn)) w.heap.size), .val (Part a5 9 2), .val ((ZN (cd)) w.heap.size), .val ((TWO (QQ cn qc) (IS (.int .i64 0))) w.heap.size), .val ((QQ cn qc) w.heap.size), .val (iV 0), .put (.inl 6) (.box 32 ((QQ cn qc) w.heap.size)), .val (iV 0)] [.inr 0, .inr 1] [.inl 8] S5 ?_ ?_
 ·repeat' refine And.intro ?_ ?_
  ·trivial
  ·exact owe_part rfl wA rfl (k := 2) rfl (by kernel_rfl) rfl (fun ρ w b h => part_rat0 ρ _ _ w b 0 h)
  ·exact owe_pload rfl wA rfl (oO 0 31) (k := 2) rfl (by kernel_rfl) rfl (fun ρ w b u h1 h2 h3 => pload_num ρ _ _ w b u h1 h2 h3)
  ·exact owe_part rfl wA rfl (k := 2) rfl (by kernel_rfl) rfl (fun ρ w b h => part_rat1 ρ _ _ w b 0 h)
  ·exact owe_pload rfl wA rfl (oO 2 33) (k := 2) rfl (by kernel_rfl) rfl (fun ρ w b u h1 h2 h3 => pload_den ρ _ _ w b u h1 h2 h3)
  ·exact cc2 wA (qO 1 32 rfl) (qO 3 34 rfl) (fresh_two (fresh_qq _ _) (fresh_is _)) (fun w u v h1 h2 => g_ratmake (k := 67108864) (k' := 67108864) hq0 (by omega) (by omega) w u v ((zn_zv hcn) _ _ h1) (by rw [← hq]; exact (zn_zv hcd) _ _ h2))
  ·exact e20 wA (oO 4 35)
  ·exact e21 wA (oO 4 35)
  ·exact owe_set rfl wA rfl (k := 1) rfl (by kernel_rfl) (oO 5 36) (stores_of strct_rat shp_r0 shp_qq) rfl
  ·exact mO 6 37
 intro _ a6 _ (S6 : Sta w 38 [(3, (qq8450 nD nL K D L)), (6, (.box 32 ((QQ cn qc) w.heap.size)))] [(7, iV 0)] _ _ _)
 refine wp_ret ?_
 exact end_two S6 rfl (res_cell S6 1 6 rfl strct_rat shp_qq) (res_tmp S6 0 7 rfl)

abbrev qdkqu0  : Rk := .box 29 zI
abbrev qdkqu1 (nD : Nat) (nL : Nat) (K : Nat) (D : List Int) (L : List (List Int)) : Rk := .box 25 (SF [(Vv nD D K), (Mv nL L K)])
abbrev qdkqu2 (Kr : Nat) (rn : Int) (rd : Int) : Rk := .box 32 (PR (Zv rn Kr) (Zv rd Kr))
set_option maxHeartbeats 4000000 in
theorem frg_w (w : World) (u t v r : Value) (nD nL nT K Kt m Ks : Nat) (D : List Int) (L : List (List Int)) (ts : List (Int × Int)) (x : List Int) (h : Hs w (SF [Vv nD D K, Mv nL L K]) u) (ht : Hs w (QV nT ts Kt) t) (hv : Hs w (Vv m x Ks) v) (hD : nD ≤ 1048576) (hL : nL ≤ 1048576) (hT : nT ≤ 1048576) (hm0 : m ≤ 1048576) (hK : K ≤ 1048576) (hKt : Kt ≤ 1048576) (hKs : Ks ≤ 1048576) (lD : D.length = nD) (lL : L.length = nL) (lT : ts.length = nT) (lx : x.length = m) (Kr : Nat) (rn rd : Int) (hr : Hs w (PR (Zv rn Kr) (Zv rd Kr)) r) (hKr : Kr ≤ 8388608) (g : FGood D L ts [(rn, rd)] m) (K2 : Nat) (τ : List Int) (dn : Int) (hK2 : K2 ≤ 16777216) (lτ : τ.length = nL) (hof : ∀ (B : Nat → Prop) (w : World) (u v : Value), (∀ k, B k → k < w.heap.size) → Has B w (SF [Vv nD D K, Mv nL L K]) u → Has B w (QV nT ts Kt) v → Calls Try.prog 17 #[u, v] w fun e w' => ∃ r, e = .returned r ∧ Below w.heap.size w w' ∧ Has B w' (APx nD nL nL K2 D L τ dn) r) (hN : ∀ k, k ≤ m → (digs (fS D (shL x dn τ nL m) L nL k).1.natAbs).length ≤ 67108864) (hR : ∀ k, k ≤ m → (digs (fS D (shL x dn τ nL m) L nL k).2.natAbs).length ≤ 67108864) (hml : m < nL) (T0 D1 cn cd : Int) (eT : τ.getD (nL - 1 - m) 0 = T0) (eD1 : D.getD (nL - 1 - m + 1) 0 = D1) (ecn : T0 * D1 - fB (shL x dn τ nL m) L nL m = cn) (ecd : dn * D1 = cd) (Kz : Nat) (hsd : Dl (shL x dn τ nL m) Kz) (hbB : (digs (fB (shL x dn τ nL m) L nL m).natAbs).length ≤ 134217728) (D0 lf sq ρ hi tn : Int) (eD0 : D.getD (nL - 1 - m) 0 = D0) (elf : rn * (dn * dn) * (D1 * (fS D (shL x dn τ nL m) L nL m).2) - (fS D (shL x dn τ nL m) L nL m).1 * rd = lf) (hl : 0 ≤ lf) (hnz : rd * (fS D (shL x dn τ nL m) L nL m).2 ≠ 0) (eS : fl (lf * D0) (rd * (fS D (shL x dn τ nL m) L nL m).2) = sq) (hs0 : 0 ≤ sq) (eρ : ((rt sq.natAbs : Nat) : Int) = ρ) (hρ : (digs ρ.natAbs).length ≤ 268435458) (hcd : cd ≠ 0) (eH : fl (cn + ρ) cd = hi) (eL : fl (ρ - cn) cd = tn) (hx : -tn ≤ hi) :
  Calls Try.prog 10 #[u, t, v, r] w (Gives (FOUR (ZN (-tn)) (ZN (hi)) (IS (.bool true)) (IS (.int .i64 0))) w) := by
 have hgl := g.g.len
 have hNb : (digs (fS D (shL x dn τ nL m) L nL m).1.natAbs).length ≤ 67108864 := hN m (Nat.le_refl _)
 have hRb : (digs (fS D (shL x dn τ nL m) L nL m).2.natAbs).length ≤ 67108864 := hR m (Nat.le_refl _)
 refine calls_sta (sl := [(0, (SF [(Vv nD D K), (Mv nL L K)])), (1, (QV nT ts Kt)), (2, (Vv m x Ks)), (3, (PR (Zv rn Kr) (Zv rd Kr)))]) Try.func10 rfl Try.ntmps10 (by simp) (args_cons rfl (h) (args_cons rfl (ht) (args_cons rfl (hv) (args_cons rfl (hr) args_nil)))) ?_
 intro a0 S0
 refine wq [.new (qdkqu1 nD nL K D L), .new (qdkqu2 Kr rn rd), .new (qdkqu0), .new (qdkqu0), kF, .val (iV 0)] [.inl 0, .inl 1, .inl 2, .inl 3] [.inr 1, .inr 2] S0 ?_ ?_
 ·apply jj6
  ·exact owe_box rfl wA rfl (oS 0 0) rfl (fun ρ w h => box_gso shp_sf2 ρ _ _ w h)
  ·exact owe_box rfl wA rfl (oS 3 3) rfl (fun ρ w h => box_rat (shp_pr shp_zv shp_zv) ρ _ _ w h)
  ·exact owe_new rfl wA rfl rfl (fun ρ w => alloc_int ρ _ w)
  ·exact owe_new rfl wA rfl rfl (fun ρ w => alloc_int ρ _ w)
  ·exact mC
  ·exact mC
 intro _ a1 _ (S1 : Sta w 49 [(4, (qdkqu1 nD nL K D L)), (7, (qdkqu2 Kr rn rd)), (8, (qdkqu0)), (9, (qdkqu0))] [(1, (QV nT ts Kt)), (2, Vv m x Ks)] _ _ _)
 refine wp_seq ?_
 refine wq [.val (SF [(Vv nD D K), (Mv nL L K)]), .val (QV nT ts Kt), .val (Vv m x Ks), .val (PR (Zv rn Kr) (Zv rd Kr)), .val (Sng 32 4 (PR (Zv rn Kr) (Zv rd Kr)) w.heap.size), .val (iV 0), .val (iV 0)] [.inr 0, .inr 1, .inr 2, .inr 3] [.inl 6, .inr 0, .inr 1] S1 ?_ ?_
 ·repeat' refine And.intro ?_ ?_
  ·trivial
  ·exact lod 0 wA (loads_of strct_gso shp_sf2)
  ·exact mS 0 1
  ·exact mS 1 2
  ·exact lod 1 wA (loads_of strct_rat (shp_pr shp_zv shp_zv))
  ·exact owe_b1 rfl wA rfl bld_rat4 (oO 3 19) (cel_shp (by decide) (shp_pr shp_zv shp_zv)) rfl
  ·exact owe_callh4 rfl wA rfl (oO 0 16) (oO 1 17) (oO 2 18) ((oO 4 20).imp sng_ar1) (fresh_is _) rfl (fun args w => by go_simp) (fun w u0 u1 u2 u3 h0 h1 h2 h3 => refu_g w u0 u1 u2 u3 nD nL nT K Kt m Ks D L ts x h0 h1 h2 hD hL hT hm0 hK hKt hKs lD lL lT lx 1 Kr [(rn, rd)] h3 (by omega) (by omega) rfl g)
  ·exact mO 5 21
 intro _ a2 _ (S2 : Sta w 49 [(4, (qdkqu1 nD nL K D L)), (7, (qdkqu2 Kr rn rd)), (8, (qdkqu0)), (9, (qdkqu0))] [(12, iV 0), (1, (QV nT ts Kt)), (2, Vv m x Ks)] _ _ _)
 refine wq [.val (iV 0), kF] [.inr 0, .inr 1, .inr 2, .inr 3] [.inl 1, .inr 0, .inr 1, .inr 2] S2 ?_ ?_
 ·apply jj2
  ·exact mS 0 12
  ·exact b_neq_errno_f wA (oO 0 22) (opnd_const _) (h := rfl)
 intro _ a3 _ (S3 : Sta w 49 [(4, (qdkqu1 nD nL K D L)), (7, (qdkqu2 Kr rn rd)), (8, (qdkqu0)), (9, (qdkqu0))] [(23, bF), (12, iV 0), (1, (QV nT ts Kt)), (2, Vv m x Ks)] _ _ _)
 refine wp_cond_false (S3.bool 0 23 rfl) (wp_skip (thenN (wp_seq ?_)))
 refine wq [.val (Vv m x Ks), .val (iV (m : Nat)), .val (Part a3 4 1), .val (Mv nL L K), .val (iV (nL : Nat)), kF] [.inr 0, .inr 1, .inr 2, .inr 3] [.inl 5, .inr 2, .inr 3] S3 ?_ ?_
 ·apply jj6
  ·exact mS 3 2
  ·exact owe_len rfl wA rfl (oO 0 27) ar_len Try.underlying22 rfl
  ·exact owe_part rfl wA rfl (k := 0) rfl (by kernel_rfl) rfl (fun ρ w b h => part_gso1 ρ _ _ w b 0 h)
  ·exact owe_pload rfl wA rfl (oO 2 29) (k := 0) rfl (by kernel_rfl) rfl (fun ρ w b u h1 h2 h3 => ploadS rfl load1_mat ρ _ _ w b u h1 h2 h3)
  ·exact owe_len rfl wA rfl (oO 3 30) ar_len Try.underlying23 rfl
  ·exact b_eql_int_f wA (oO 1 28) (oO 4 31)
 intro _ a4 _ (S4 : Sta w 49 [(4, (qdkqu1 nD nL K D L)), (7, (qdkqu2 Kr rn rd)), (8, (qdkqu0)), (9, (qdkqu0))] [(32, bF), (1, (QV nT ts Kt)), (2, Vv m x Ks)] _ _ _)
 refine wp_cond_false (S4.bool 0 32 rfl) (wp_skip (thenN ?_))
 refine wq [.val (SF [(Vv nD D K), (Mv nL L K)]), .val (QV nT ts Kt), .val (APx nD nL nL K2 D L τ dn), .val (Vv m x Ks), .val (SP (APx nD nL nL K2 D L τ dn) ((VN m (shL x dn τ nL m)) w.heap.size) ((ZN (fB (shL x dn τ nL m) L nL m)) w.heap.size) ((ZN ((fS D (shL x dn τ nL m) L nL m).1)) w.heap.size) ((ZN ((fS D (shL x dn τ nL m) L nL m).2)) w.heap.size)), .val (PR (Zv rn Kr) (Zv rd Kr)), .val ((THREE (ZN (-tn)) (ZN (hi)) (IS (.bool true))) w.heap.size), .val ((THREE (ZN (-tn)) (ZN (hi)) (IS (.bool true))) w.heap.size), .val ((ZN (-tn)) w.heap.size), .val ((ZN (hi)) w.heap.size), kT, .new (qdkqu0), .new (qdkqu0), .put (.inr 11) (.box 29 ((ZN (-tn)) w.heap.size)), .put (.inr 12) (.box 29 ((ZN (hi)) w.heap.size)), kT] [.inr 0, .inr 2, .inr 3, .inl 11, .inl 12] [.inl 15] S4 ?_ ?_
 ·repeat' refine And.intro ?_ ?_
  ·trivial
  ·exact lod 0 wA (loads_of strct_gso shp_sf2)
  ·exact mS 1 1
  ·exact owe_callB2 rfl wA rfl (oO 0 36) (oO 1 37) rfl (fun args w => by go_simp) (fun B w u v _ hB h1 h2 => hof B w u v hB h1 h2)
  ·exact mS 2 2
  ·exact owe_callB2 rfl wA rfl (oO 2 38) (oO 3 39) rfl (fun args w => by go_simp) (fun B w u v hlo hB h1 h2 => at_H (by omega) hL hL hK2 lD lL lτ lx (by omega) rfl (by omega) (fun j hj => g.g.row j (by omega)) (fun i hi => by have := g.g.pos i (by omega); omega) (by omega) (fun k hk => Nat.le_trans (hN k hk) (by omega)) (fun k hk => Nat.le_trans (hR k hk) (by omega)) B w u v hlo hB h1 h2)
  ·exact lod 1 wA (loads_of strct_rat (shp_pr shp_zv shp_zv))
  ·exact ch2 wA ((qO 4 40 rfl).imp (sp_imp (fun v w h => h) (vn_vv hsd) (zn_zv hbB) (zn_zv hNb) (zn_zv hRb))) (qO 5 41 rfl) (fresh_three (fresh_zn _) (fresh_zn _) (fresh_is _)) (fun w u0 u1 h0 h1 => by obtain ⟨pa, h0⟩ := sp_pa (fun v w h => h) h0; exact wth_y w pa nD nL nL K2 D L τ dn (by omega) hL hL hK2 lD lL lτ u0 m Kz _ _ _ _ _ _ _ h0 hml (shL_len _ _ _ _ _) rfl (by omega) u1 rn rd T0 D1 cn cd Kr h1 (Nat.le_refl _) eT eD1 ecn ecd ρ hi tn hρ hcd eH eL (fun w u r h1 h2 => rch_y w pa nD nL nL K2 D L τ dn (by omega) hL hL hK2 lD lL lτ u m Kz _ _ _ _ _ _ _ h1 hml (shL_len _ _ _ _ _) rfl (by omega) r rn rd D0 D1 lf Kr h2 (by omega) (by omega) (by omega) eD0 eD1 elf sq ρ hl hnz eS hs0 eρ) hx)
  ·exact mO 6 42
  ·exact e30 wA (oO 7 35)
  ·exact e31 wA (oO 7 35)
  ·exact e32 wA (oO 7 35)
  ·exact owe_new rfl wA rfl rfl (fun ρ w => alloc_int ρ _ w)
  ·exact owe_new rfl wA rfl rfl (fun ρ w => alloc_int ρ _ w)
  ·exact owe_put 11 rfl wA rfl (by kernel_rfl) rfl (oO 8 43) (stores_of strct_int shp_z0 shp_zn) rfl
  ·exact owe_put 12 rfl wA rfl (by kernel_rfl) rfl (oO 9 44) (stores_of strct_int shp_z0 shp_zn) rfl
  ·exact mO 10 45
 intro _ a5 _ (S5 : Sta w 49 [(4, (qdkqu1 nD nL K D L)), (8, (qdkqu0)), (9, (qdkqu0)), (13, (.box 29 ((ZN (-tn)) w.heap.size))), (14, (.box 29 ((ZN (hi)) w.heap.size)))] [(15, bT)] _ _ _)
 refine wq [.val ((ZN (-tn)) w.heap.size), .val ((ZN (hi)) w.heap.size), kT, .put (.inl 8) (.box 29 ((ZN (-tn)) w.heap.size)), .put (.inl 9) (.box 29 ((ZN (hi)) w.heap.size)), kT, .val (iV 0)] [.inr 0, .inr 1, .inr 2] [.inl 5, .inl 6] S5 ?_ ?_
 ·repeat' refine And.intro ?_ ?_
  ·trivial
  ·exact lod 3 wA (loads_of strct_int shp_zn)
  ·exact lod 4 wA (loads_of strct_int shp_zn)
  ·exact mS 0 15
  ·exact owe_set rfl wA rfl (k := 1) rfl (by kernel_rfl) (oO 0 46) (stores_of strct_int shp_z0 shp_zn) rfl
  ·exact owe_set rfl wA rfl (k := 2) rfl (by kernel_rfl) (oO 1 47) (stores_of strct_int shp_z0 shp_zn) rfl
  ·exact mO 2 48
  ·exact mC
 intro _ a6 _ (S6 : Sta w 49 [(4, (qdkqu1 nD nL K D L)), (8, (.box 29 ((ZN (-tn)) w.heap.size))), (9, (.box 29 ((ZN (hi)) w.heap.size)))] [(10, bT), (11, iV 0)] _ _ _)
 refine wp_ret ?_
 exact end_four S6 rfl (res_cell S6 1 8 rfl strct_int shp_zn) (res_cell S6 2 9 rfl strct_int shp_zn) (res_tmp S6 0 10 rfl) (res_tmp S6 1 11 rfl)

end Go.Proofs.Ytoeopdmaogmjhaa

/-
 The document's shape of rows.
-/
namespace Go.Proofs.Ytoeopdmaogmjhaa
open Go Go.RowKit Nt
set_option linter.unusedSimpArgs false
set_option linter.unusedVariables false
set_option maxRecDepth 20000

end Go.Proofs.Ytoeopdmaogmjhaa

/-
 The document's Valid and gso.Of of every matrix: one error, or the data of a basis.
-/
namespace Go.Proofs.Ytoeopdmaogmjhaa
open Go Go.RowKit Nt
set_option linter.unusedSimpArgs false
set_option linter.unusedVariables false
set_option maxRecDepth 20000

end Go.Proofs.Ytoeopdmaogmjhaa

/-
 The document's along, squares and products of rationals as they came in, Coords.
-/
namespace Go.Proofs.Ytoeopdmaogmjhaa
open Go Go.RowKit Nt
set_option linter.unusedSimpArgs false
set_option linter.unusedVariables false
set_option maxRecDepth 20000

end Go.Proofs.Ytoeopdmaogmjhaa

/-
 gso.solved, gso.Coords.
-/
namespace Go.Proofs.Ytoeopdmaogmjhaa
open Go Go.RowKit Nt
set_option linter.unusedSimpArgs false
set_option linter.unusedVariables false
set_option maxRecDepth 20000

end Go.Proofs.Ytoeopdmaogmjhaa

/-
 The program's Coords and the document's, of every matrix and every row: one error, or one answer.
-/
namespace Go.Proofs.Ytoeopdmaogmjhaa
open Go Go.RowKit Nt
set_option linter.unusedSimpArgs false
set_option linter.unusedVariables false
set_option maxRecDepth 20000

section
variable {n m Kb K : Nat} {Bm : List (List Int)} {ts : List (Int × Int)}
end
end Go.Proofs.Ytoeopdmaogmjhaa
