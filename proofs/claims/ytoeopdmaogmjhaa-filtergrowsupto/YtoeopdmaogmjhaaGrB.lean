import Derived.Test.YtoeopdmaogmjhaaGrA
import Derived.Test.YtoeopdmaogmjhaaJaD
import Derived.Test.YtoeopdmaogmjhaaAmD
import Derived.Test.YtoeopdmaogmjhaaJaE
/-
 FilterGrows: the law, from call to call.
-/
namespace Go.Proofs.Ytoeopdmaogmjhaa
open Go Go.RowKit Nt
set_option linter.unusedSimpArgs false
set_option linter.unusedVariables false
set_option maxRecDepth 20000

/-- A row of one's own and a number behind it, as a list. -/
theorem own_vv {es : List El} {n K lo lo2 : Nat} {φ : Pr} {A : Int} (hen : ∀ (i : Nat) e, es[i]? = some e → e.n ≤ K) (hφ : ∀ v w, φ v w → Zv A K v w) : ∀ v w xs, World.ownsRow w lo 29 2 v n xs → CE 2 ((es.map El.zo).map (· lo2) ++ [φ]) xs w → Vv n (es.map El.z ++ [A]) K v w := fun v w xs ho hc => by
 refine ar_imp (by simp) (fun i f f' h1 h2 v w hf => ?_) v w (row_ar (by decide) v w xs ho hc)
 rw [List.map_append, List.map_map] at h2
 rcases Nat.lt_or_ge i es.length with hi | hi
 ·rw [List.getElem?_append_left (by simpa using hi), List.map_map] at h1
  rw [List.getElem?_append_left (by simpa using hi)] at h2
  obtain ⟨e, he, rfl⟩ := map_get h1
  obtain ⟨e', he', rfl⟩ := map_get h2
  rw [he] at he'
  obtain rfl := Option.some.inj he'
  exact zo_zv rfl (hen i e he) v w hf
 ·rw [List.getElem?_append_right (by simpa using hi)] at h1 h2
  simp only [List.length_map] at h1 h2
  match i - es.length, h1, h2 with
  | 0, h1, h2 =>
   simp at h1 h2
   subst h1 h2
   exact hφ v w hf
  | k + 1, h1, _ => simp at h1

abbrev qhrug0 (w : World) (e0 : Int) : Pr := (TWO (IS (.agg #[.bool false, .slice none 0 0, .bool false, .slice none 0 0])) (IS (.int .i64 e0))) w.heap.size
abbrev qhrug1  : Rk := .box 32 zR
abbrev qhrug2 (nD : Nat) (nL : Nat) (K : Nat) (D : List Int) (L : List (List Int)) : Rk := .box 25 (SF [(Vv nD D K), (Mv nL L K)])
set_option maxHeartbeats 2000000 in
theorem fgr_e (w : World) (u t v z : Value) (nD nL nT K Kt m Ks Ka : Nat) (D : List Int) (L : List (List Int)) (ts : List (Int × Int)) (es : List El) (a : Int) (h : Hs w (SF [Vv nD D K, Mv nL L K]) u) (ht : Hs w (QV nT ts Kt) t) (hv : Hs w (Vx m es) v) (hz : Hs w (Zv a Ka) z) (hm0 : m ≤ 1048575) (hKs : Ks ≤ 1048576) (hKa : Ka ≤ Ks) (hen : ∀ (i : Nat) e, es[i]? = some e → e.n ≤ Ks) (hC : ∀ (i : Nat) e, es[i]? = some e → e.c ≤ 35184372087808) (e0 : Int) (he : e0 ≠ 0) (hn : ∀ (w : World) (u t v : Value), Hs w (SF [Vv nD D K, Mv nL L K]) u → Hs w (QV nT ts Kt) t → Hs w (Vv m (es.map El.z) Ks) v → Calls Try.prog 5 #[u, t, v] w (Gives (TWO (IS (.agg #[.bool false, .slice none 0 0, .bool false, .slice none 0 0])) (IS (.int .i64 e0))) w)) (hc : ∀ (w : World) (u t v : Value), Hs w (SF [Vv nD D K, Mv nL L K]) u → Hs w (QV nT ts Kt) t → Hs w (Vv m (es.map El.z) Ks) v → Calls Try.prog 6 #[u, t, v] w (Gives (TWO (IS (.agg #[.bool false, .slice none 0 0, .bool false, .slice none 0 0])) (IS (.int .i64 e0))) w)) :
  Calls Try.prog 3 #[u, t, v, z] w (Gives (IS (.bool true)) w) := by
 refine calls_sta (sl := [(0, (SF [(Vv nD D K), (Mv nL L K)])), (1, (QV nT ts Kt)), (2, (Vx m es)), (3, (Zv a Ka))]) Try.func3 rfl Try.ntmps3 (by simp) (args_cons rfl (h) (args_cons rfl (ht) (args_cons rfl (hv) (args_cons rfl (hz) args_nil)))) ?_
 intro a0 S0
 refine wq [.new (qhrug2 nD nL K D L), .new (.box 29 (Zv a Ka)), kF] [.inl 0, .inl 1] [.inr 1, .inr 2] S0 ?_ ?_
 ·apply jj3
  ·exact owe_box rfl wA rfl (oS 0 0) rfl (fun ρ w h => box_gso shp_sf2 ρ _ _ w h)
  ·exact owe_box rfl wA rfl (oS 3 3) rfl (fun ρ w h => box_int shp_zv ρ _ _ w h)
  ·exact mC
 intro _ a1 _ (S1 : Sta w 150 [(4, (qhrug2 nD nL K D L)), (7, (.box 29 (Zv a Ka)))] [(1, (QV nT ts Kt)), (2, Vx m es)] _ _ _)
 refine wp_seq ?_
 refine wq [kT, kF] [.inr 0, .inr 1] [.inl 1, .inr 0, .inr 1] S1 ?_ ?_
 ·apply jj2
  ·exact owe_call0 rfl wA rfl  (fresh_is _) rfl (fun args w => by go_simp) (fun w => falive_w w)
  ·exact b_not wA (oO 0 24)
 intro _ a2 _ (S2 : Sta w 150 [(4, (qhrug2 nD nL K D L)), (7, (.box 29 (Zv a Ka)))] [(25, bF), (1, (QV nT ts Kt)), (2, Vx m es)] _ _ _)
 refine wp_cond_false (S2.bool 0 25 rfl) (wp_skip (thenN ?_))
 refine wq [.val (SF [(Vv nD D K), (Mv nL L K)]), .val (QV nT ts Kt), .val (Vx m es), .val (qhrug0 w e0), .val (qhrug0 w e0), .val zR, .val (iV e0), .new (qhrug1), .put (.inr 7) (qhrug1), .val (iV e0)] [.inr 0, .inr 1, .inl 7] [.inl 9, .inr 1, .inr 2] S2 ?_ ?_
 ·repeat' refine And.intro ?_ ?_
  ·trivial
  ·exact lod 0 wA (loads_of strct_gso shp_sf2)
  ·exact mS 1 1
  ·exact mS 2 2
  ·exact ch3 wA (qO 0 27 rfl) (qO 1 28 rfl) ((qO 2 29 rfl).imp (vx_vv hen)) (fresh_two (fresh_is _) (fresh_is _)) (fun w u0 u1 u2 h0 h1 h2 => hn w u0 u1 u2 h0 h1 h2)
  ·exact mO 3 30
  ·exact e20 wA (oO 4 26)
  ·exact e21 wA (oO 4 26)
  ·exact owe_new rfl wA rfl rfl (fun ρ w => alloc_rat ρ _ w)
  ·exact owe_put 7 rfl wA rfl (by kernel_rfl) rfl (oO 5 31) (stores_of strct_rat shp_r0 shp_r0) rfl
  ·exact mO 6 32
 intro _ a3 _ (S3 : Sta w 150 [(4, (qhrug2 nD nL K D L)), (7, (.box 29 (Zv a Ka))), (9, (qhrug1))] [(10, iV e0), (1, (QV nT ts Kt)), (2, Vx m es)] _ _ _)
 refine wq [.val (SF [(Vv nD D K), (Mv nL L K)]), .val (QV nT ts Kt), .val (Vx m es), .val (qhrug0 w e0), .val (qhrug0 w e0), .val zR, .val (iV e0), .new (qhrug1), .put (.inr 7) (qhrug1), .val (iV e0)] [.inr 0, .inr 1, .inr 2, .inl 7] [.inl 9, .inr 0, .inr 1, .inr 2] S3 ?_ ?_
 ·repeat' refine And.intro ?_ ?_
  ·trivial
  ·exact lod 0 wA (loads_of strct_gso shp_sf2)
  ·exact mS 1 1
  ·exact mS 2 2
  ·exact ch3 wA (qO 0 34 rfl) (qO 1 35 rfl) ((qO 2 36 rfl).imp (vx_vv hen)) (fresh_two (fresh_is _) (fresh_is _)) (fun w u0 u1 u2 h0 h1 h2 => hc w u0 u1 u2 h0 h1 h2)
  ·exact mO 3 37
  ·exact e20 wA (oO 4 33)
  ·exact e21 wA (oO 4 33)
  ·exact owe_new rfl wA rfl rfl (fun ρ w => alloc_rat ρ _ w)
  ·exact owe_put 7 rfl wA rfl (by kernel_rfl) rfl (oO 5 38) (stores_of strct_rat shp_r0 shp_r0) rfl
  ·exact mO 6 39
 intro _ a4 _ (S4 : Sta w 150 [(4, (qhrug2 nD nL K D L)), (7, (.box 29 (Zv a Ka))), (9, (qhrug1)), (11, (qhrug1))] [(12, iV e0), (10, iV e0), (1, (QV nT ts Kt)), (2, Vx m es)] _ _ _)
 refine wp_seq ?_
 refine wq [.val (iV e0), kT, kT, .off, .off, kT] [.inr 0, .inr 1, .inr 2, .inr 3] [.inl 5, .inr 2, .inr 3] S4 ?_ ?_
 ·apply jj6
  ·exact mS 1 10
  ·exact b_neq_errno_t wA (oO 0 40) (opnd_const _) (h := he)
  ·exact mO 1 41
  ·exact oF 2 42
  ·exact oF 2 42
  ·exact pT wA (oO 2 42) (opnd_const _)
 intro _ a5 _ (S5 : Sta w 150 [(4, (qhrug2 nD nL K D L)), (7, (.box 29 (Zv a Ka))), (9, (qhrug1)), (11, (qhrug1))] [(45, bT), (1, (QV nT ts Kt)), (2, Vx m es)] _ _ _)
 refine wp_cond_true (S5.bool 0 45 rfl) ?_
 refine wq [kT] [.inr 0] [.inl 0] S5 ?_ ?_
 ·apply jj1
  ·exact mC
 intro _ a6 _ (S6 : Sta w 150 [(4, (qhrug2 nD nL K D L))] [(8, bT)] _ _ _)
 refine wp_ret (thenR ?_)
 exact end_one S6 rfl (res_tmp S6 0 8 rfl)

abbrev qqpxx0 (nD : Nat) (nL : Nat) (K : Nat) (D : List Int) (L : List (List Int)) : Rk := .box 25 (SF [(Vv nD D K), (Mv nL L K)])
set_option maxHeartbeats 2000000 in
theorem fgr_1 (w : World) (u t v z : Value) (nD nL nT K Kt m Ks Ka : Nat) (D : List Int) (L : List (List Int)) (ts : List (Int × Int)) (es : List El) (a : Int) (h : Hs w (SF [Vv nD D K, Mv nL L K]) u) (ht : Hs w (QV nT ts Kt) t) (hv : Hs w (Vx m es) v) (hz : Hs w (Zv a Ka) z) (hm0 : m ≤ 1048575) (hKs : Ks ≤ 1048576) (hKa : Ka ≤ Ks) (hen : ∀ (i : Nat) e, es[i]? = some e → e.n ≤ Ks) (hC : ∀ (i : Nat) e, es[i]? = some e → e.c ≤ 35184372087808) (N0 : Int) (d0 : Nat) (hn : ∀ (w : World) (u t v : Value), Hs w (SF [Vv nD D K, Mv nL L K]) u → Hs w (QV nT ts Kt) t → Hs w (Vv m (es.map El.z) Ks) v → Calls Try.prog 5 #[u, t, v] w (Gives (TWO (RN N0 d0) (IS (.int .i64 0))) w)) (hc : ∀ (w : World) (u t v : Value), Hs w (SF [Vv nD D K, Mv nL L K]) u → Hs w (QV nT ts Kt) t → Hs w (Vv m (es.map El.z) Ks) v → Calls Try.prog 6 #[u, t, v] w (Gives (TWO (IS (.agg #[.bool false, .slice none 0 0, .bool false, .slice none 0 0])) (IS (.int .i64 1))) w)) :
  Calls Try.prog 3 #[u, t, v, z] w (Gives (IS (.bool true)) w) := by
 refine calls_sta (sl := [(0, (SF [(Vv nD D K), (Mv nL L K)])), (1, (QV nT ts Kt)), (2, (Vx m es)), (3, (Zv a Ka))]) Try.func3 rfl Try.ntmps3 (by simp) (args_cons rfl (h) (args_cons rfl (ht) (args_cons rfl (hv) (args_cons rfl (hz) args_nil)))) ?_
 intro a0 S0
 refine wq [.new (qqpxx0 nD nL K D L), .new (.box 29 (Zv a Ka)), kF] [.inl 0, .inl 1] [.inr 1, .inr 2] S0 ?_ ?_
 ·apply jj3
  ·exact owe_box rfl wA rfl (oS 0 0) rfl (fun ρ w h => box_gso shp_sf2 ρ _ _ w h)
  ·exact owe_box rfl wA rfl (oS 3 3) rfl (fun ρ w h => box_int shp_zv ρ _ _ w h)
  ·exact mC
 intro _ a1 _ (S1 : Sta w 150 [(4, (qqpxx0 nD nL K D L)), (7, (.box 29 (Zv a Ka)))] [(1, (QV nT ts Kt)), (2, Vx m es)] _ _ _)
 refine wp_seq ?_
 refine wq [kT, kF] [.inr 0, .inr 1] [.inl 1, .inr 0, .inr 1] S1 ?_ ?_
 ·apply jj2
  ·exact owe_call0 rfl wA rfl  (fresh_is _) rfl (fun args w => by go_simp) (fun w => falive_w w)
  ·exact b_not wA (oO 0 24)
 intro _ a2 _ (S2 : Sta w 150 [(4, (qqpxx0 nD nL K D L)), (7, (.box 29 (Zv a Ka)))] [(25, bF), (1, (QV nT ts Kt)), (2, Vx m es)] _ _ _)
 refine wp_cond_false (S2.bool 0 25 rfl) (wp_skip (thenN ?_))
 refine wq [.val (SF [(Vv nD D K), (Mv nL L K)]), .val (QV nT ts Kt), .val (Vx m es), .val ((TWO (RN N0 d0) (IS (.int .i64 0))) w.heap.size), .val ((TWO (RN N0 d0) (IS (.int .i64 0))) w.heap.size), .val ((RN N0 d0) w.heap.size), .val (iV 0), .new (.box 32 zR), .put (.inr 7) (.box 32 ((RN N0 d0) w.heap.size)), .val (iV 0)] [.inr 0, .inr 1, .inl 7] [.inl 9, .inr 1, .inr 2] S2 ?_ ?_
 ·repeat' refine And.intro ?_ ?_
  ·trivial
  ·exact lod 0 wA (loads_of strct_gso shp_sf2)
  ·exact mS 1 1
  ·exact mS 2 2
  ·exact ch3 wA (qO 0 27 rfl) (qO 1 28 rfl) ((qO 2 29 rfl).imp (vx_vv hen)) (fresh_two (fresh_rn _ _) (fresh_is _)) (fun w u0 u1 u2 h0 h1 h2 => hn w u0 u1 u2 h0 h1 h2)
  ·exact mO 3 30
  ·exact e20 wA (oO 4 26)
  ·exact e21 wA (oO 4 26)
  ·exact owe_new rfl wA rfl rfl (fun ρ w => alloc_rat ρ _ w)
  ·exact owe_put 7 rfl wA rfl (by kernel_rfl) rfl (oO 5 31) (stores_of strct_rat shp_r0 (shp_pr shp_zn shp_zn)) rfl
  ·exact mO 6 32
 intro _ a3 _ (S3 : Sta w 150 [(4, (qqpxx0 nD nL K D L)), (7, (.box 29 (Zv a Ka))), (9, (.box 32 ((RN N0 d0) w.heap.size)))] [(10, iV 0), (1, (QV nT ts Kt)), (2, Vx m es)] _ _ _)
 refine wq [.val (SF [(Vv nD D K), (Mv nL L K)]), .val (QV nT ts Kt), .val (Vx m es), .val ((TWO (IS (.agg #[.bool false, .slice none 0 0, .bool false, .slice none 0 0])) (IS (.int .i64 1))) w.heap.size), .val ((TWO (IS (.agg #[.bool false, .slice none 0 0, .bool false, .slice none 0 0])) (IS (.int .i64 1))) w.heap.size), .val zR, .val (iV 1), .new (.box 32 zR), .put (.inr 7) (.box 32 zR), .val (iV 1)] [.inr 0, .inr 1, .inr 2, .inl 7] [.inl 9, .inr 0, .inr 1, .inr 2] S3 ?_ ?_
 ·repeat' refine And.intro ?_ ?_
  ·trivial
  ·exact lod 0 wA (loads_of strct_gso shp_sf2)
  ·exact mS 1 1
  ·exact mS 2 2
  ·exact ch3 wA (qO 0 34 rfl) (qO 1 35 rfl) ((qO 2 36 rfl).imp (vx_vv hen)) (fresh_two (fresh_is _) (fresh_is _)) (fun w u0 u1 u2 h0 h1 h2 => hc w u0 u1 u2 h0 h1 h2)
  ·exact mO 3 37
  ·exact e20 wA (oO 4 33)
  ·exact e21 wA (oO 4 33)
  ·exact owe_new rfl wA rfl rfl (fun ρ w => alloc_rat ρ _ w)
  ·exact owe_put 7 rfl wA rfl (by kernel_rfl) rfl (oO 5 38) (stores_of strct_rat shp_r0 shp_r0) rfl
  ·exact mO 6 39
 intro _ a4 _ (S4 : Sta w 150 [(4, (qqpxx0 nD nL K D L)), (7, (.box 29 (Zv a Ka))), (9, (.box 32 ((RN N0 d0) w.heap.size))), (11, (.box 32 zR))] [(12, iV 1), (10, iV 0), (1, (QV nT ts Kt)), (2, Vx m es)] _ _ _)
 refine wp_seq ?_
 refine wq [.val (iV 0), kF, kF, .val (iV 1), kT, kT] [.inr 0, .inr 1, .inr 2, .inr 3] [.inl 5, .inr 2, .inr 3] S4 ?_ ?_
 ·apply jj6
  ·exact mS 1 10
  ·exact b_neq_errno_f wA (oO 0 40) (opnd_const _) (h := rfl)
  ·exact mO 1 41
  ·exact mW (wI 2 42) (oS 0 12)
  ·exact b_neq_errno_t (wI 2 42) (oO 3 43) (opnd_const _) (h := by decide)
  ·exact pF wA (oO 2 42) (oO 4 44)
 intro _ a5 _ (S5 : Sta w 150 [(4, (qqpxx0 nD nL K D L)), (7, (.box 29 (Zv a Ka))), (9, (.box 32 ((RN N0 d0) w.heap.size))), (11, (.box 32 zR))] [(45, bT), (1, (QV nT ts Kt)), (2, Vx m es)] _ _ _)
 refine wp_cond_true (S5.bool 0 45 rfl) ?_
 refine wq [kT] [.inr 0] [.inl 0] S5 ?_ ?_
 ·apply jj1
  ·exact mC
 intro _ a6 _ (S6 : Sta w 150 [(4, (qqpxx0 nD nL K D L))] [(8, bT)] _ _ _)
 refine wp_ret (thenR ?_)
 exact end_one S6 rfl (res_tmp S6 0 8 rfl)

abbrev qi6qk0 (nD : Nat) (nL : Nat) (K : Nat) (D : List Int) (L : List (List Int)) : Rk := .box 25 (SF [(Vv nD D K), (Mv nL L K)])
abbrev qi6qk1 (w : World) (N0 : Int) (d0 : Nat) : Rk := .box 32 ((RN N0 d0) w.heap.size)
abbrev qi6qk2 (Ka : Nat) (a : Int) : Rk := .box 29 (Zv a Ka)
abbrev qi6qk3 (w : World) (m : Nat) (es : List El) (cn : Int) (cd : Nat) : Rk := .row 29 2 (m + 1) (CE 2 ((es.map El.zo).map (· w.heap.size) ++ [ZN (nr cn (cd : Int)) w.heap.size]))
abbrev qi6qk4 (w : World) (N1 : Int) (d1 : Nat) : Rk := .box 32 ((RN N1 d1) w.heap.size)
abbrev qi6qk5 (w : World) (m : Nat) (es : List El) : Rk := .row 29 2 m (CE 2 ((es.map El.zo).map (· w.heap.size)))
abbrev qi6qk6 (w : World) (cn : Int) (cd : Nat) : Rk := .box 29 ((ZN (nr cn (cd : Int))) w.heap.size)
set_option maxHeartbeats 4000000 in
theorem fgr_l (w : World) (u t v z : Value) (nD nL nT K Kt m Ks Ka : Nat) (D : List Int) (L : List (List Int)) (ts : List (Int × Int)) (es : List El) (a : Int) (h : Hs w (SF [Vv nD D K, Mv nL L K]) u) (ht : Hs w (QV nT ts Kt) t) (hv : Hs w (Vx m es) v) (hz : Hs w (Zv a Ka) z) (hm0 : m ≤ 1048575) (hKs : Ks ≤ 1048576) (hKa : Ka ≤ Ks) (hen : ∀ (i : Nat) e, es[i]? = some e → e.n ≤ Ks) (hC : ∀ (i : Nat) e, es[i]? = some e → e.c ≤ 35184372087808) (N0 N1 N2 cn lo hi : Int) (d0 d1 d2 cd : Nat) (c0 : cd ≠ 0) (z0 : d0 ≠ 0) (z1 : d1 ≠ 0) (z2 : d2 ≠ 0) (b0n : (digs (N0).natAbs).length ≤ 8388608) (b0d : (digs d0).length ≤ 8388608) (b1n : (digs (N1).natAbs).length ≤ 8388608) (b1d : (digs d1).length ≤ 8388608) (b2n : (digs (N2).natAbs).length ≤ 8388608) (b2d : (digs d2).length ≤ 8388608) (bcn : (digs (cn).natAbs).length ≤ 8388608) (bcd : (digs cd).length ≤ 8388608) (bl : (digs lo.natAbs).length ≤ 1073741824) (bh : (digs hi.natAbs).length ≤ 1073741824) (bz : (digs (nr cn (cd : Int)).natAbs).length ≤ Ks) (hn : ∀ (w : World) (u t v : Value), Hs w (SF [Vv nD D K, Mv nL L K]) u → Hs w (QV nT ts Kt) t → Hs w (Vv m (es.map El.z) Ks) v → Calls Try.prog 5 #[u, t, v] w (Gives (TWO (RN N0 d0) (IS (.int .i64 0))) w)) (hc : ∀ (w : World) (u t v : Value), Hs w (SF [Vv nD D K, Mv nL L K]) u → Hs w (QV nT ts Kt) t → Hs w (Vv m (es.map El.z) Ks) v → Calls Try.prog 6 #[u, t, v] w (Gives (TWO (RN cn cd) (IS (.int .i64 0))) w)) (hy : ∀ (w : World) (u t v : Value), Hs w (SF [Vv nD D K, Mv nL L K]) u → Hs w (QV nT ts Kt) t → Hs w (Vv (m + 1) (es.map El.z ++ [a]) Ks) v → Calls Try.prog 5 #[u, t, v] w (Gives (TWO (RN N1 d1) (IS (.int .i64 0))) w)) (hq : ∀ (w : World) (u t v : Value), Hs w (SF [Vv nD D K, Mv nL L K]) u → Hs w (QV nT ts Kt) t → Hs w (Vv (m + 1) (es.map El.z ++ [nr cn (cd : Int)]) Ks) v → Calls Try.prog 5 #[u, t, v] w (Gives (TWO (RN N2 d2) (IS (.int .i64 0))) w)) (hr : ∀ (w : World) (u t v r : Value), Hs w (SF [Vv nD D K, Mv nL L K]) u → Hs w (QV nT ts Kt) t → Hs w (Vv m (es.map El.z) Ks) v → Hs w (Rv N1 (d1 : Int) 8388608 8388608) r → Calls Try.prog 10 #[u, t, v, r] w (Gives (FOUR (ZN lo) (ZN hi) (IS (.bool true)) (IS (.int .i64 0))) w)) (s1 : 0 ≤ (N1 * (d0 : Int) - N0 * (d1 : Int)).sign) (s2 : 0 ≤ (N1 * (d2 : Int) - N2 * (d1 : Int)).sign) (s3 : (lo - a).sign ≤ 0) (s4 : (a - hi).sign ≤ 0) (sE : (lo - a).sign = 0) :
  Calls Try.prog 3 #[u, t, v, z] w (Gives (IS (.bool true)) w) := by
 refine calls_sta (sl := [(0, (SF [(Vv nD D K), (Mv nL L K)])), (1, (QV nT ts Kt)), (2, (Vx m es)), (3, (Zv a Ka))]) Try.func3 rfl Try.ntmps3 (by simp) (args_cons rfl (h) (args_cons rfl (ht) (args_cons rfl (hv) (args_cons rfl (hz) args_nil)))) ?_
 intro a0 S0
 refine wq [.new (qi6qk0 nD nL K D L), .new (qi6qk2 Ka a), kF] [.inl 0, .inl 1] [.inr 1, .inr 2] S0 ?_ ?_
 ·apply jj3
  ·exact owe_box rfl wA rfl (oS 0 0) rfl (fun ρ w h => box_gso shp_sf2 ρ _ _ w h)
  ·exact owe_box rfl wA rfl (oS 3 3) rfl (fun ρ w h => box_int shp_zv ρ _ _ w h)
  ·exact mC
 intro _ a1 _ (S1 : Sta w 150 [(4, (qi6qk0 nD nL K D L)), (7, (qi6qk2 Ka a))] [(1, (QV nT ts Kt)), (2, Vx m es)] _ _ _)
 refine wp_seq ?_
 refine wq [kT, kF] [.inr 0, .inr 1] [.inl 1, .inr 0, .inr 1] S1 ?_ ?_
 ·apply jj2
  ·exact owe_call0 rfl wA rfl  (fresh_is _) rfl (fun args w => by go_simp) (fun w => falive_w w)
  ·exact b_not wA (oO 0 24)
 intro _ a2 _ (S2 : Sta w 150 [(4, (qi6qk0 nD nL K D L)), (7, (qi6qk2 Ka a))] [(25, bF), (1, (QV nT ts Kt)), (2, Vx m es)] _ _ _)
 refine wp_cond_false (S2.bool 0 25 rfl) (wp_skip (thenN ?_))
 refine wq [.val (SF [(Vv nD D K), (Mv nL L K)]), .val (QV nT ts Kt), .val (Vx m es), .val ((TWO (RN N0 d0) (IS (.int .i64 0))) w.heap.size), .val ((TWO (RN N0 d0) (IS (.int .i64 0))) w.heap.size), .val ((RN N0 d0) w.heap.size), .val (iV 0), .new (.box 32 zR), .put (.inr 7) (qi6qk1 w N0 d0), .val (iV 0)] [.inr 0, .inr 1, .inl 7] [.inl 9, .inr 1, .inr 2] S2 ?_ ?_
 ·repeat' refine And.intro ?_ ?_
  ·trivial
  ·exact lod 0 wA (loads_of strct_gso shp_sf2)
  ·exact mS 1 1
  ·exact mS 2 2
  ·exact ch3 wA (qO 0 27 rfl) (qO 1 28 rfl) ((qO 2 29 rfl).imp (vx_vv hen)) (fresh_two (fresh_rn _ _) (fresh_is _)) (fun w u0 u1 u2 h0 h1 h2 => hn w u0 u1 u2 h0 h1 h2)
  ·exact mO 3 30
  ·exact e20 wA (oO 4 26)
  ·exact e21 wA (oO 4 26)
  ·exact owe_new rfl wA rfl rfl (fun ρ w => alloc_rat ρ _ w)
  ·exact owe_put 7 rfl wA rfl (by kernel_rfl) rfl (oO 5 31) (stores_of strct_rat shp_r0 (shp_pr shp_zn shp_zn)) rfl
  ·exact mO 6 32
 intro _ a3 _ (S3 : Sta w 150 [(4, (qi6qk0 nD nL K D L)), (7, (qi6qk2 Ka a)), (9, (qi6qk1 w N0 d0))] [(10, iV 0), (1, (QV nT ts Kt)), (2, Vx m es)] _ _ _)
 refine wq [.val (SF [(Vv nD D K), (Mv nL L K)]), .val (QV nT ts Kt), .val (Vx m es), .val ((TWO (RN cn cd) (IS (.int .i64 0))) w.heap.size), .val ((TWO (RN cn cd) (IS (.int .i64 0))) w.heap.size), .val ((RN cn cd) w.heap.size), .val (iV 0), .new (.box 32 zR), .put (.inr 7) (.box 32 ((RN cn cd) w.heap.size)), .val (iV 0)] [.inr 0, .inr 1, .inr 2, .inl 7] [.inl 9, .inr 0, .inr 1, .inr 2] S3 ?_ ?_
 ·repeat' refine And.intro ?_ ?_
  ·trivial
  ·exact lod 0 wA (loads_of strct_gso shp_sf2)
  ·exact mS 1 1
  ·exact mS 2 2
  ·exact ch3 wA (qO 0 34 rfl) (qO 1 35 rfl) ((qO 2 36 rfl).imp (vx_vv hen)) (fresh_two (fresh_rn _ _) (fresh_is _)) (fun w u0 u1 u2 h0 h1 h2 => hc w u0 u1 u2 h0 h1 h2)
  ·exact mO 3 37
  ·exact e20 wA (oO 4 33)
  ·exact e21 wA (oO 4 33)
  ·exact owe_new rfl wA rfl rfl (fun ρ w => alloc_rat ρ _ w)
  ·exact owe_put 7 rfl wA rfl (by kernel_rfl) rfl (oO 5 38) (stores_of strct_rat shp_r0 (shp_pr shp_zn shp_zn)) rfl
  ·exact mO 6 39
 intro _ a4 _ (S4 : Sta w 150 [(4, (qi6qk0 nD nL K D L)), (7, (qi6qk2 Ka a)), (9, (qi6qk1 w N0 d0)), (11, (.box 32 ((RN cn cd) w.heap.size)))] [(12, iV 0), (10, iV 0), (1, (QV nT ts Kt)), (2, Vx m es)] _ _ _)
 refine wp_seq ?_
 refine wq [.val (iV 0), kF, kF, .val (iV 0), kF, kF] [.inr 0, .inr 1, .inr 2, .inr 3] [.inl 5, .inr 2, .inr 3] S4 ?_ ?_
 ·apply jj6
  ·exact mS 1 10
  ·exact b_neq_errno_f wA (oO 0 40) (opnd_const _) (h := rfl)
  ·exact mO 1 41
  ·exact mW (wI 2 42) (oS 0 12)
  ·exact b_neq_errno_f (wI 2 42) (oO 3 43) (opnd_const _) (h := rfl)
  ·exact pF wA (oO 2 42) (oO 4 44)
 intro _ a5 _ (S5 : Sta w 150 [(4, (qi6qk0 nD nL K D L)), (7, (qi6qk2 Ka a)), (9, (qi6qk1 w N0 d0)), (11, (.box 32 ((RN cn cd) w.heap.size)))] [(45, bF), (1, (QV nT ts Kt)), (2, Vx m es)] _ _ _)
 refine wp_cond_false (S5.bool 0 45 rfl) (wp_skip (thenN ?_))
 refine wq [.val ((RN cn cd) w.heap.size), .val ((TWO (ZN (nr cn (cd : Int))) (IS (.int .i64 0))) w.heap.size), .val ((TWO (ZN (nr cn (cd : Int))) (IS (.int .i64 0))) w.heap.size), .val ((ZN (nr cn (cd : Int))) w.heap.size), .val (iV 0), .new (.box 29 zI), .put (.inr 5) (qi6qk6 w cn cd), .val (iV 0)] [.inr 0, .inr 1, .inr 2, .inl 5] [.inl 7, .inr 1, .inr 2] S5 ?_ ?_
 ·repeat' refine And.intro ?_ ?_
  ·trivial
  ·exact lod 3 wA (loads_of strct_rat (shp_pr shp_zn shp_zn))
  ·exact cc1 wA (qO 0 47 rfl) (fresh_two (fresh_zn _) (fresh_is _)) (fun w u h1 => g_ratnear c0 (by omega) (by omega) w u (rn_rv bcn bcd _ _ h1))
  ·exact mO 1 48
  ·exact e20 wA (oO 2 46)
  ·exact e21 wA (oO 2 46)
  ·exact owe_new rfl wA rfl rfl (fun ρ w => alloc_int ρ _ w)
  ·exact owe_put 5 rfl wA rfl (by kernel_rfl) rfl (oO 3 49) (stores_of strct_int shp_z0 shp_zn) rfl
  ·exact mO 4 50
 intro _ a6 _ (S6 : Sta w 150 [(4, (qi6qk0 nD nL K D L)), (7, (qi6qk2 Ka a)), (9, (qi6qk1 w N0 d0)), (13, (qi6qk6 w cn cd))] [(14, iV 0), (1, (QV nT ts Kt)), (2, Vx m es)] _ _ _)
 refine wp_seq ?_
 refine wq [.val (iV 0), kF] [.inr 0, .inr 1, .inr 2, .inr 3] [.inl 1, .inr 1, .inr 2] S6 ?_ ?_
 ·apply jj2
  ·exact mS 0 14
  ·exact b_neq_errno_f wA (oO 0 51) (opnd_const _) (h := rfl)
 intro _ a7 _ (S7 : Sta w 150 [(4, (qi6qk0 nD nL K D L)), (7, (qi6qk2 Ka a)), (9, (qi6qk1 w N0 d0)), (13, (qi6qk6 w cn cd))] [(52, bF), (1, (QV nT ts Kt)), (2, Vx m es)] _ _ _)
 refine wp_cond_false (S7.bool 0 52 rfl) (wp_skip (thenN ?_))
 refine wq [.val (Vx m es), .new (qi6qk5 w m es), .val (Vx m es), .new (qi6qk5 w m es), .ref 1, .ref 3] [.inr 0, .inr 1, .inr 2, .inr 3, .inl 4, .inl 5] [.inr 1, .inr 2] S7 ?_ ?_
 ·apply jj6
  ·exact mS 2 2
  ·exact owe_take1 rfl wA rfl (oO 0 53) fresh_zos rfl (fun args w => by go_simp) (fun w u h => fowns_w w u m es h (by omega) hC)
  ·exact mS 2 2
  ·exact owe_take1 rfl wA rfl (oO 2 55) fresh_zos rfl (fun args w => by go_simp) (fun w u h => fowns_w w u m es h (by omega) hC)
  ·exact owe_ref 1 rfl wA (Or.inr rfl) (by kernel_rfl) rfl rfl
  ·exact owe_ref 3 rfl wA (Or.inr rfl) (by kernel_rfl) rfl rfl
 intro _ a8 _ (S8 : Sta w 150 [(4, (qi6qk0 nD nL K D L)), (7, (qi6qk2 Ka a)), (9, (qi6qk1 w N0 d0)), (13, (qi6qk6 w cn cd)), (15, (qi6qk5 w m es)), (16, (qi6qk5 w m es))] [(1, (QV nT ts Kt)), (2, Vx m es)] _ _ _)
 refine wq [.val (Is (a8.eval (.tmp 15))), .val (Zv a Ka), .val (Sng 29 2 (Zv a Ka) w.heap.size), .mov 15 (.row 29 2 (m + 1) (CE 2 ((es.map El.zo).map (· w.heap.size) ++ [Zv a Ka]))), .ref 3] [.inr 0, .inr 1, .inr 2, .inr 3, .inr 5, .inl 4] [.inr 0, .inr 1] S8 ?_ ?_
 ·apply jj5
  ·exact owe_same rfl wA (Or.inl rfl) (by kernel_rfl) rfl
  ·exact lod 1 wA (loads_of strct_int shp_zv)
  ·exact owe_b1 rfl wA rfl bld_int (oO 1 58) (cel_shp (by decide) shp_zv) rfl
  ·exact owe_append rfl wA rfl (oO 0 57) (k := 4) rfl (by kernel_rfl) ((oO 2 59).imp b1_src) einf_int Try.underlying22 (by decide) ⟨by unfold maxLen; omega, by omega⟩ rfl (fun xs ys w h1 h2 => ce_append _ _ _ h1 h2)
  ·exact owe_ref 3 rfl wA (Or.inr rfl) (by kernel_rfl) rfl rfl
 intro _ a9 _ (S9 : Sta w 150 [(4, (qi6qk0 nD nL K D L)), (7, (qi6qk2 Ka a)), (9, (qi6qk1 w N0 d0)), (13, (qi6qk6 w cn cd)), (16, (qi6qk5 w m es)), (15, (.row 29 2 (m + 1) (CE 2 ((es.map El.zo).map (· w.heap.size) ++ [Zv a Ka]))))] [(1, (QV nT ts Kt)), (2, Vx m es)] _ _ _)
 refine wq [.val (Is (a9.eval (.tmp 16))), .val ((ZN (nr cn (cd : Int))) w.heap.size), .val (Sng 29 2 ((ZN (nr cn (cd : Int))) w.heap.size) w.heap.size), .mov 16 (qi6qk3 w m es cn cd), .ref 3] [.inr 0, .inr 1, .inr 2, .inr 5, .inl 4] [.inr 0, .inr 1] S9 ?_ ?_
 ·apply jj5
  ·exact owe_same rfl wA (Or.inl rfl) (by kernel_rfl) rfl
  ·exact lod 3 wA (loads_of strct_int shp_zn)
  ·exact owe_b1 rfl wA rfl bld_int (oO 1 62) (cel_shp (by decide) shp_zn) rfl
  ·exact owe_append rfl wA rfl (oO 0 61) (k := 4) rfl (by kernel_rfl) ((oO 2 63).imp b1_src) einf_int Try.underlying22 (by decide) ⟨by unfold maxLen; omega, by omega⟩ rfl (fun xs ys w h1 h2 => ce_append _ _ _ h1 h2)
  ·exact owe_ref 3 rfl wA (Or.inr rfl) (by kernel_rfl) rfl rfl
 intro _ a10 W10 (S10 : Sta w 150 [(4, (qi6qk0 nD nL K D L)), (7, (qi6qk2 Ka a)), (9, (qi6qk1 w N0 d0)), (15, (.row 29 2 (m + 1) (CE 2 ((es.map El.zo).map (· w.heap.size) ++ [Zv a Ka])))), (16, (qi6qk3 w m es cn cd))] [(1, (QV nT ts Kt)), (2, Vx m es)] _ _ _)
 obtain ⟨_, S11⟩ : ∃ Bq, Sta w 150 [(4, (qi6qk0 nD nL K D L)), (7, (qi6qk2 Ka a)), (9, (qi6qk1 w N0 d0)), (16, (qi6qk3 w m es cn cd))] [(15, Vv (m + 1) (es.map El.z ++ [a]) Ks), (1, (QV nT ts Kt)), (2, Vx m es)] Bq a10 W10 := ⟨_, S10.freeze 3 rfl (by simp) (fun v w' xs ho hc => own_vv hen (fun v w h => zv_mono hKa v w h) v w' xs ho hc)⟩
 obtain ⟨a11, _, e1, e2⟩ : ∃ a W, a10 = a ∧ W10 = W := ⟨_, _, rfl, rfl⟩
 rw [e1, e2] at S11 ⊢
 clear e1 e2
 refine wq [.val (SF [(Vv nD D K), (Mv nL L K)]), .val (QV nT ts Kt), .val (Vv (m + 1) (es.map El.z ++ [a]) Ks), .val ((TWO (RN N1 d1) (IS (.int .i64 0))) w.heap.size), .val ((TWO (RN N1 d1) (IS (.int .i64 0))) w.heap.size), .val ((RN N1 d1) w.heap.size), .val (iV 0), .new (.box 32 zR), .put (.inr 7) (qi6qk4 w N1 d1), .val (iV 0)] [.inr 0, .inr 1, .inr 2, .inr 3, .inl 7] [.inl 9, .inr 1, .inr 2] S11 ?_ ?_
 ·repeat' refine And.intro ?_ ?_
  ·trivial
  ·exact lod 0 wA (loads_of strct_gso shp_sf2)
  ·exact mS 1 1
  ·exact mS 0 15
  ·exact ch3 wA (qO 0 66 rfl) (qO 1 67 rfl) (qO 2 68 rfl) (fresh_two (fresh_rn _ _) (fresh_is _)) (fun w u0 u1 u2 h0 h1 h2 => hy w u0 u1 u2 h0 h1 h2)
  ·exact mO 3 69
  ·exact e20 wA (oO 4 65)
  ·exact e21 wA (oO 4 65)
  ·exact owe_new rfl wA rfl rfl (fun ρ w => alloc_rat ρ _ w)
  ·exact owe_put 7 rfl wA rfl (by kernel_rfl) rfl (oO 5 70) (stores_of strct_rat shp_r0 (shp_pr shp_zn shp_zn)) rfl
  ·exact mO 6 71
 intro _ a12 W12 (S12 : Sta w 150 [(4, (qi6qk0 nD nL K D L)), (7, (qi6qk2 Ka a)), (9, (qi6qk1 w N0 d0)), (16, (qi6qk3 w m es cn cd)), (17, (qi6qk4 w N1 d1))] [(10, iV 0), (1, (QV nT ts Kt)), (2, Vx m es)] _ _ _)
 obtain ⟨_, S13⟩ : ∃ Bq, Sta w 150 [(4, (qi6qk0 nD nL K D L)), (7, (qi6qk2 Ka a)), (9, (qi6qk1 w N0 d0)), (17, (qi6qk4 w N1 d1))] [(16, Vv (m + 1) (es.map El.z ++ [nr cn (cd : Int)]) Ks), (10, iV 0), (1, (QV nT ts Kt)), (2, Vx m es)] Bq a12 W12 := ⟨_, S12.freeze 3 rfl (by simp) (fun v w' xs ho hc => own_vv hen (fun v w h => zn_zv bz v w h) v w' xs ho hc)⟩
 obtain ⟨a13, _, e1, e2⟩ : ∃ a W, a12 = a ∧ W12 = W := ⟨_, _, rfl, rfl⟩
 rw [e1, e2] at S13 ⊢
 clear e1 e2
 refine wq [.val (SF [(Vv nD D K), (Mv nL L K)]), .val (QV nT ts Kt), .val (Vv (m + 1) (es.map El.z ++ [nr cn (cd : Int)]) Ks), .val ((TWO (RN N2 d2) (IS (.int .i64 0))) w.heap.size), .val ((TWO (RN N2 d2) (IS (.int .i64 0))) w.heap.size), .val ((RN N2 d2) w.heap.size), .val (iV 0), .new (.box 32 zR), .put (.inr 7) (.box 32 ((RN N2 d2) w.heap.size)), .val (iV 0)] [.inr 0, .inr 1, .inr 2, .inr 3, .inl 7] [.inl 9, .inr 1, .inr 2, .inr 3] S13 ?_ ?_
 ·repeat' refine And.intro ?_ ?_
  ·trivial
  ·exact lod 0 wA (loads_of strct_gso shp_sf2)
  ·exact mS 2 1
  ·exact mS 0 16
  ·exact ch3 wA (qO 0 73 rfl) (qO 1 74 rfl) (qO 2 75 rfl) (fresh_two (fresh_rn _ _) (fresh_is _)) (fun w u0 u1 u2 h0 h1 h2 => hq w u0 u1 u2 h0 h1 h2)
  ·exact mO 3 76
  ·exact e20 wA (oO 4 72)
  ·exact e21 wA (oO 4 72)
  ·exact owe_new rfl wA rfl rfl (fun ρ w => alloc_rat ρ _ w)
  ·exact owe_put 7 rfl wA rfl (by kernel_rfl) rfl (oO 5 77) (stores_of strct_rat shp_r0 (shp_pr shp_zn shp_zn)) rfl
  ·exact mO 6 78
 intro _ a14 _ (S14 : Sta w 150 [(4, (qi6qk0 nD nL K D L)), (7, (qi6qk2 Ka a)), (9, (qi6qk1 w N0 d0)), (17, (qi6qk4 w N1 d1)), (18, (.box 32 ((RN N2 d2) w.heap.size)))] [(12, iV 0), (10, iV 0), (1, (QV nT ts Kt)), (2, Vx m es)] _ _ _)
 refine wp_seq ?_
 refine wq [.val (iV 0), kF, kF, .val (iV 0), kF, kF] [.inr 0, .inr 1, .inr 2, .inr 3, .inr 4] [.inl 5, .inr 2, .inr 3] S14 ?_ ?_
 ·apply jj6
  ·exact mS 1 10
  ·exact b_neq_errno_f wA (oO 0 79) (opnd_const _) (h := rfl)
  ·exact mO 1 80
  ·exact mW (wI 2 81) (oS 0 12)
  ·exact b_neq_errno_f (wI 2 81) (oO 3 82) (opnd_const _) (h := rfl)
  ·exact pF wA (oO 2 81) (oO 4 83)
 intro _ a15 _ (S15 : Sta w 150 [(4, (qi6qk0 nD nL K D L)), (7, (qi6qk2 Ka a)), (9, (qi6qk1 w N0 d0)), (17, (qi6qk4 w N1 d1)), (18, (.box 32 ((RN N2 d2) w.heap.size)))] [(84, bF), (1, (QV nT ts Kt)), (2, Vx m es)] _ _ _)
 refine wp_cond_false (S15.bool 0 84 rfl) (wp_skip (thenN ?_))
 refine wq [.val ((RN N1 d1) w.heap.size), .val ((RN N0 d0) w.heap.size), .val ((TWO (IS (.int .i64 (N1 * (d0 : Int) - N0 * (d1 : Int)).sign)) (IS (.int .i64 0))) w.heap.size), .val ((TWO (IS (.int .i64 (N1 * (d0 : Int) - N0 * (d1 : Int)).sign)) (IS (.int .i64 0))) w.heap.size), .val (iV ((N1 * (d0 : Int) - N0 * (d1 : Int)).sign)), .val (iV 0), .val (iV ((N1 * (d0 : Int) - N0 * (d1 : Int)).sign)), .val (iV 0)] [.inr 0, .inr 1, .inr 3, .inr 4] [.inl 6, .inl 7, .inr 1, .inr 2] S15 ?_ ?_
 ·repeat' refine And.intro ?_ ?_
  ·trivial
  ·exact lod 3 wA (loads_of strct_rat (shp_pr shp_zn shp_zn))
  ·exact lod 2 wA (loads_of strct_rat (shp_pr shp_zn shp_zn))
  ·exact cc2 wA (qO 0 86 rfl) (qO 1 87 rfl) (fresh_two (fresh_is _) (fresh_is _)) (fun w u v h1 h2 => g_ratcmp (k1 := 8388608) (k2 := 8388608) (k3 := 8388608) (k4 := 8388608) z1 z0 (by omega) (by omega) (by omega) (by omega) w u v (rn_rv b1n b1d _ _ h1) (rn_rv b0n b0d _ _ h2))
  ·exact mO 2 88
  ·exact e20 wA (oO 3 85)
  ·exact e21 wA (oO 3 85)
  ·exact mO 4 89
  ·exact mO 5 90
 intro _ a16 _ (S16 : Sta w 150 [(4, (qi6qk0 nD nL K D L)), (7, (qi6qk2 Ka a)), (17, (qi6qk4 w N1 d1)), (18, (.box 32 ((RN N2 d2) w.heap.size)))] [(19, iV ((N1 * (d0 : Int) - N0 * (d1 : Int)).sign)), (10, iV 0), (1, (QV nT ts Kt)), (2, Vx m es)] _ _ _)
 refine wq [.val ((RN N1 d1) w.heap.size), .val ((RN N2 d2) w.heap.size), .val ((TWO (IS (.int .i64 (N1 * (d2 : Int) - N2 * (d1 : Int)).sign)) (IS (.int .i64 0))) w.heap.size), .val ((TWO (IS (.int .i64 (N1 * (d2 : Int) - N2 * (d1 : Int)).sign)) (IS (.int .i64 0))) w.heap.size), .val (iV ((N1 * (d2 : Int) - N2 * (d1 : Int)).sign)), .val (iV 0), .val (iV ((N1 * (d2 : Int) - N2 * (d1 : Int)).sign)), .val (iV 0)] [.inr 0, .inr 1, .inr 2] [.inl 6, .inl 7, .inr 0, .inr 1, .inr 2, .inr 3] S16 ?_ ?_
 ·repeat' refine And.intro ?_ ?_
  ·trivial
  ·exact lod 2 wA (loads_of strct_rat (shp_pr shp_zn shp_zn))
  ·exact lod 3 wA (loads_of strct_rat (shp_pr shp_zn shp_zn))
  ·exact cc2 wA (qO 0 92 rfl) (qO 1 93 rfl) (fresh_two (fresh_is _) (fresh_is _)) (fun w u v h1 h2 => g_ratcmp (k1 := 8388608) (k2 := 8388608) (k3 := 8388608) (k4 := 8388608) z1 z2 (by omega) (by omega) (by omega) (by omega) w u v (rn_rv b1n b1d _ _ h1) (rn_rv b2n b2d _ _ h2))
  ·exact mO 2 94
  ·exact e20 wA (oO 3 91)
  ·exact e21 wA (oO 3 91)
  ·exact mO 4 95
  ·exact mO 5 96
 intro _ a17 _ (S17 : Sta w 150 [(4, (qi6qk0 nD nL K D L)), (7, (qi6qk2 Ka a)), (17, (qi6qk4 w N1 d1))] [(20, iV ((N1 * (d2 : Int) - N2 * (d1 : Int)).sign)), (12, iV 0), (19, iV ((N1 * (d0 : Int) - N0 * (d1 : Int)).sign)), (10, iV 0), (1, (QV nT ts Kt)), (2, Vx m es)] _ _ _)
 refine wp_seq ?_
 refine wq [.val (iV 0), kF, kF, .val (iV 0), kF, kF, kF, .val (iV ((N1 * (d0 : Int) - N0 * (d1 : Int)).sign)), kF, kF, kF, .val (iV ((N1 * (d2 : Int) - N2 * (d1 : Int)).sign)), kF, kF] [.inr 0, .inr 1, .inr 2] [.inl 13, .inr 4, .inr 5] S17 ?_ ?_
 ·repeat' refine And.intro ?_ ?_
  ·trivial
  ·exact mS 3 10
  ·exact b_neq_errno_f wA (oO 0 97) (opnd_const _) (h := rfl)
  ·exact mO 1 98
  ·exact mW (wI 2 99) (oS 1 12)
  ·exact b_neq_errno_f (wI 2 99) (oO 3 100) (opnd_const _) (h := rfl)
  ·exact pF wA (oO 2 99) (oO 4 101)
  ·exact mO 5 102
  ·exact mW (wI 6 103) (oS 2 19)
  ·exact b_lss_int_f (wI 6 103) (oO 7 104) (opnd_const _)
  ·exact pF wA (oO 6 103) (oO 8 105)
  ·exact mO 9 106
  ·exact mW (wI 10 107) (oS 0 20)
  ·exact b_lss_int_f (wI 10 107) (oO 11 108) (opnd_const _)
  ·exact pF wA (oO 10 107) (oO 12 109)
 intro _ a18 _ (S18 : Sta w 150 [(4, (qi6qk0 nD nL K D L)), (7, (qi6qk2 Ka a)), (17, (qi6qk4 w N1 d1))] [(110, bF), (1, (QV nT ts Kt)), (2, Vx m es)] _ _ _)
 refine wp_cond_false (S18.bool 0 110 rfl) (wp_skip (thenN ?_))
 refine wq [.val (SF [(Vv nD D K), (Mv nL L K)]), .val (QV nT ts Kt), .val (Vx m es), .val ((RN N1 d1) w.heap.size), .val ((FOUR (ZN (lo)) (ZN (hi)) (IS (.bool true)) (IS (.int .i64 0))) w.heap.size), .val ((FOUR (ZN (lo)) (ZN (hi)) (IS (.bool true)) (IS (.int .i64 0))) w.heap.size), .val ((ZN (lo)) w.heap.size), .val ((ZN (hi)) w.heap.size), kT, .val (iV 0), .new (.box 29 zI), .new (.box 29 zI), .put (.inr 10) (.box 29 ((ZN (lo)) w.heap.size)), .put (.inr 11) (.box 29 ((ZN (hi)) w.heap.size)), kT, .val (iV 0)] [.inr 0, .inr 1, .inl 10, .inl 11] [.inl 14, .inl 15] S18 ?_ ?_
 ·repeat' refine And.intro ?_ ?_
  ·trivial
  ·exact lod 0 wA (loads_of strct_gso shp_sf2)
  ·exact mS 1 1
  ·exact mS 2 2
  ·exact lod 2 wA (loads_of strct_rat (shp_pr shp_zn shp_zn))
  ·exact owe_callh4 rfl wA rfl (oO 0 112) (oO 1 113) ((oO 2 114).imp (vx_vv hen)) ((oO 3 115).imp (rn_rv b1n b1d)) (fresh_four (fresh_zn _) (fresh_zn _) (fresh_is _) (fresh_is _)) rfl (fun args w => by go_simp) (fun w u0 u1 u2 u3 h0 h1 h2 h3 => hr w u0 u1 u2 u3 h0 h1 h2 h3)
  ·exact mO 4 116
  ·exact owe_ext4 rfl wA rfl (oO 5 111) (Or.inl ⟨rfl, rfl⟩) rfl
  ·exact owe_ext4 rfl wA rfl (oO 5 111) (Or.inr (Or.inl ⟨rfl, rfl⟩)) rfl
  ·exact owe_ext4 rfl wA rfl (oO 5 111) (Or.inr (Or.inr (Or.inl ⟨rfl, rfl⟩))) rfl
  ·exact owe_ext4 rfl wA rfl (oO 5 111) (Or.inr (Or.inr (Or.inr ⟨rfl, rfl⟩))) rfl
  ·exact owe_new rfl wA rfl rfl (fun ρ w => alloc_int ρ _ w)
  ·exact owe_new rfl wA rfl rfl (fun ρ w => alloc_int ρ _ w)
  ·exact owe_put 10 rfl wA rfl (by kernel_rfl) rfl (oO 6 117) (stores_of strct_int shp_z0 shp_zn) rfl
  ·exact owe_put 11 rfl wA rfl (by kernel_rfl) rfl (oO 7 118) (stores_of strct_int shp_z0 shp_zn) rfl
  ·exact mO 8 119
  ·exact mO 9 120
 intro _ a19 _ (S19 : Sta w 150 [(4, (qi6qk0 nD nL K D L)), (7, (qi6qk2 Ka a)), (21, (.box 29 ((ZN (lo)) w.heap.size))), (22, (.box 29 ((ZN (hi)) w.heap.size)))] [(23, bT), (10, iV 0)] _ _ _)
 refine wq [.val (iV 0), kT, kT, kT, kT, kT, .val ((ZN (lo)) w.heap.size), .val (Zv a Ka), .val (iV ((lo - a).sign)), kT, kT, kT, .val (Zv a Ka), .val ((ZN (hi)) w.heap.size), .val (iV ((a - hi).sign)), kT, kT, kT, .val ((ZN (lo)) w.heap.size), .val (Zv a Ka), .val (iV ((lo - a).sign)), kT, kT, .off, .off, .off, .off, kT, kT, kT] [.inr 0] [.inl 29] S19 ?_ ?_
 ·repeat' refine And.intro ?_ ?_
  ·trivial
  ·exact mS 1 10
  ·exact b_eql_errno_t wA (oO 0 121) (opnd_const _) (h := rfl)
  ·exact mO 1 122
  ·exact mW (wI 2 123) (oS 0 23)
  ·exact pT wA (oO 2 123) (oO 3 124)
  ·exact mO 4 125
  ·exact lod 2 (wI 5 126) (loads_of strct_int shp_zn)
  ·exact lod 1 (wI 5 126) (loads_of strct_int shp_zv)
  ·exact cc2 (wI 5 126) (qO 6 127 rfl) (qO 7 128 rfl) (fresh_is _) (fun w u v h1 h2 => h_zcmp (by omega) (by omega) w u v ((zn_zv bl) _ _ h1) ((fun _ _ h => h) _ _ h2))
  ·exact b_leq_int_t (wI 5 126) (oO 8 129) (opnd_const _) (h := s3)
  ·exact pT wA (oO 5 126) (oO 9 130)
  ·exact mO 10 131
  ·exact lod 1 (wI 11 132) (loads_of strct_int shp_zv)
  ·exact lod 3 (wI 11 132) (loads_of strct_int shp_zn)
  ·exact cc2 (wI 11 132) (qO 12 133 rfl) (qO 13 134 rfl) (fresh_is _) (fun w u v h1 h2 => h_zcmp (by omega) (by omega) w u v ((fun _ _ h => h) _ _ h1) ((zn_zv bh) _ _ h2))
  ·exact b_leq_int_t (wI 11 132) (oO 14 135) (opnd_const _) (h := s4)
  ·exact pT wA (oO 11 132) (oO 15 136)
  ·exact mO 16 137
  ·exact lod 2 (wI 17 138) (loads_of strct_int shp_zn)
  ·exact lod 1 (wI 17 138) (loads_of strct_int shp_zv)
  ·exact cc2 (wI 17 138) (qO 18 139 rfl) (qO 19 140 rfl) (fresh_is _) (fun w u v h1 h2 => h_zcmp (by omega) (by omega) w u v ((zn_zv bl) _ _ h1) ((fun _ _ h => h) _ _ h2))
  ·exact b_eql_int_t (wI 17 138) (oO 20 141) (opnd_const _) (h := sE)
  ·exact mW (wI 17 138) (oO 21 142)
  ·exact oF 22 143
  ·exact oF 22 143
  ·exact oF 22 143
  ·exact oF 22 143
  ·exact pT (wI 17 138) (oO 22 143) (opnd_const _)
  ·exact pT wA (oO 17 138) (oO 27 148)
  ·exact mO 28 149
 intro _ a20 _ (S20 : Sta w 150 [(4, (qi6qk0 nD nL K D L))] [(8, bT)] _ _ _)
 refine wp_ret ?_
 exact end_one S20 rfl (res_tmp S20 0 8 rfl)

abbrev q4bk50 (nD : Nat) (nL : Nat) (K : Nat) (D : List Int) (L : List (List Int)) : Rk := .box 25 (SF [(Vv nD D K), (Mv nL L K)])
abbrev q4bk51 (w : World) (N0 : Int) (d0 : Nat) : Rk := .box 32 ((RN N0 d0) w.heap.size)
abbrev q4bk52 (Ka : Nat) (a : Int) : Rk := .box 29 (Zv a Ka)
abbrev q4bk53 (w : World) (m : Nat) (es : List El) (cn : Int) (cd : Nat) : Rk := .row 29 2 (m + 1) (CE 2 ((es.map El.zo).map (· w.heap.size) ++ [ZN (nr cn (cd : Int)) w.heap.size]))
abbrev q4bk54 (w : World) (N1 : Int) (d1 : Nat) : Rk := .box 32 ((RN N1 d1) w.heap.size)
abbrev q4bk55 (w : World) (m : Nat) (es : List El) : Rk := .row 29 2 m (CE 2 ((es.map El.zo).map (· w.heap.size)))
abbrev q4bk56 (w : World) (cn : Int) (cd : Nat) : Rk := .box 29 ((ZN (nr cn (cd : Int))) w.heap.size)
set_option maxHeartbeats 4000000 in
theorem fgr_h (w : World) (u t v z : Value) (nD nL nT K Kt m Ks Ka : Nat) (D : List Int) (L : List (List Int)) (ts : List (Int × Int)) (es : List El) (a : Int) (h : Hs w (SF [Vv nD D K, Mv nL L K]) u) (ht : Hs w (QV nT ts Kt) t) (hv : Hs w (Vx m es) v) (hz : Hs w (Zv a Ka) z) (hm0 : m ≤ 1048575) (hKs : Ks ≤ 1048576) (hKa : Ka ≤ Ks) (hen : ∀ (i : Nat) e, es[i]? = some e → e.n ≤ Ks) (hC : ∀ (i : Nat) e, es[i]? = some e → e.c ≤ 35184372087808) (N0 N1 N2 cn lo hi : Int) (d0 d1 d2 cd : Nat) (c0 : cd ≠ 0) (z0 : d0 ≠ 0) (z1 : d1 ≠ 0) (z2 : d2 ≠ 0) (b0n : (digs (N0).natAbs).length ≤ 8388608) (b0d : (digs d0).length ≤ 8388608) (b1n : (digs (N1).natAbs).length ≤ 8388608) (b1d : (digs d1).length ≤ 8388608) (b2n : (digs (N2).natAbs).length ≤ 8388608) (b2d : (digs d2).length ≤ 8388608) (bcn : (digs (cn).natAbs).length ≤ 8388608) (bcd : (digs cd).length ≤ 8388608) (bl : (digs lo.natAbs).length ≤ 1073741824) (bh : (digs hi.natAbs).length ≤ 1073741824) (bz : (digs (nr cn (cd : Int)).natAbs).length ≤ Ks) (hn : ∀ (w : World) (u t v : Value), Hs w (SF [Vv nD D K, Mv nL L K]) u → Hs w (QV nT ts Kt) t → Hs w (Vv m (es.map El.z) Ks) v → Calls Try.prog 5 #[u, t, v] w (Gives (TWO (RN N0 d0) (IS (.int .i64 0))) w)) (hc : ∀ (w : World) (u t v : Value), Hs w (SF [Vv nD D K, Mv nL L K]) u → Hs w (QV nT ts Kt) t → Hs w (Vv m (es.map El.z) Ks) v → Calls Try.prog 6 #[u, t, v] w (Gives (TWO (RN cn cd) (IS (.int .i64 0))) w)) (hy : ∀ (w : World) (u t v : Value), Hs w (SF [Vv nD D K, Mv nL L K]) u → Hs w (QV nT ts Kt) t → Hs w (Vv (m + 1) (es.map El.z ++ [a]) Ks) v → Calls Try.prog 5 #[u, t, v] w (Gives (TWO (RN N1 d1) (IS (.int .i64 0))) w)) (hq : ∀ (w : World) (u t v : Value), Hs w (SF [Vv nD D K, Mv nL L K]) u → Hs w (QV nT ts Kt) t → Hs w (Vv (m + 1) (es.map El.z ++ [nr cn (cd : Int)]) Ks) v → Calls Try.prog 5 #[u, t, v] w (Gives (TWO (RN N2 d2) (IS (.int .i64 0))) w)) (hr : ∀ (w : World) (u t v r : Value), Hs w (SF [Vv nD D K, Mv nL L K]) u → Hs w (QV nT ts Kt) t → Hs w (Vv m (es.map El.z) Ks) v → Hs w (Rv N1 (d1 : Int) 8388608 8388608) r → Calls Try.prog 10 #[u, t, v, r] w (Gives (FOUR (ZN lo) (ZN hi) (IS (.bool true)) (IS (.int .i64 0))) w)) (s1 : 0 ≤ (N1 * (d0 : Int) - N0 * (d1 : Int)).sign) (s2 : 0 ≤ (N1 * (d2 : Int) - N2 * (d1 : Int)).sign) (s3 : (lo - a).sign ≤ 0) (s4 : (a - hi).sign ≤ 0) (sE : (lo - a).sign ≠ 0) (sF : (a - hi).sign = 0) :
  Calls Try.prog 3 #[u, t, v, z] w (Gives (IS (.bool true)) w) := by
 refine calls_sta (sl := [(0, (SF [(Vv nD D K), (Mv nL L K)])), (1, (QV nT ts Kt)), (2, (Vx m es)), (3, (Zv a Ka))]) Try.func3 rfl Try.ntmps3 (by simp) (args_cons rfl (h) (args_cons rfl (ht) (args_cons rfl (hv) (args_cons rfl (hz) args_nil)))) ?_
 intro a0 S0
 refine wq [.new (q4bk50 nD nL K D L), .new (q4bk52 Ka a), kF] [.inl 0, .inl 1] [.inr 1, .inr 2] S0 ?_ ?_
 ·apply jj3
  ·exact owe_box rfl wA rfl (oS 0 0) rfl (fun ρ w h => box_gso shp_sf2 ρ _ _ w h)
  ·exact owe_box rfl wA rfl (oS 3 3) rfl (fun ρ w h => box_int shp_zv ρ _ _ w h)
  ·exact mC
 intro _ a1 _ (S1 : Sta w 150 [(4, (q4bk50 nD nL K D L)), (7, (q4bk52 Ka a))] [(1, (QV nT ts Kt)), (2, Vx m es)] _ _ _)
 refine wp_seq ?_
 refine wq [kT, kF] [.inr 0, .inr 1] [.inl 1, .inr 0, .inr 1] S1 ?_ ?_
 ·apply jj2
  ·exact owe_call0 rfl wA rfl  (fresh_is _) rfl (fun args w => by go_simp) (fun w => falive_w w)
  ·exact b_not wA (oO 0 24)
 intro _ a2 _ (S2 : Sta w 150 [(4, (q4bk50 nD nL K D L)), (7, (q4bk52 Ka a))] [(25, bF), (1, (QV nT ts Kt)), (2, Vx m es)] _ _ _)
 refine wp_cond_false (S2.bool 0 25 rfl) (wp_skip (thenN ?_))
 refine wq [.val (SF [(Vv nD D K), (Mv nL L K)]), .val (QV nT ts Kt), .val (Vx m es), .val ((TWO (RN N0 d0) (IS (.int .i64 0))) w.heap.size), .val ((TWO (RN N0 d0) (IS (.int .i64 0))) w.heap.size), .val ((RN N0 d0) w.heap.size), .val (iV 0), .new (.box 32 zR), .put (.inr 7) (q4bk51 w N0 d0), .val (iV 0)] [.inr 0, .inr 1, .inl 7] [.inl 9, .inr 1, .inr 2] S2 ?_ ?_
 ·repeat' refine And.intro ?_ ?_
  ·trivial
  ·exact lod 0 wA (loads_of strct_gso shp_sf2)
  ·exact mS 1 1
  ·exact mS 2 2
  ·exact ch3 wA (qO 0 27 rfl) (qO 1 28 rfl) ((qO 2 29 rfl).imp (vx_vv hen)) (fresh_two (fresh_rn _ _) (fresh_is _)) (fun w u0 u1 u2 h0 h1 h2 => hn w u0 u1 u2 h0 h1 h2)
  ·exact mO 3 30
  ·exact e20 wA (oO 4 26)
  ·exact e21 wA (oO 4 26)
  ·exact owe_new rfl wA rfl rfl (fun ρ w => alloc_rat ρ _ w)
  ·exact owe_put 7 rfl wA rfl (by kernel_rfl) rfl (oO 5 31) (stores_of strct_rat shp_r0 (shp_pr shp_zn shp_zn)) rfl
  ·exact mO 6 32
 intro _ a3 _ (S3 : Sta w 150 [(4, (q4bk50 nD nL K D L)), (7, (q4bk52 Ka a)), (9, (q4bk51 w N0 d0))] [(10, iV 0), (1, (QV nT ts Kt)), (2, Vx m es)] _ _ _)
 refine wq [.val (SF [(Vv nD D K), (Mv nL L K)]), .val (QV nT ts Kt), .val (Vx m es), .val ((TWO (RN cn cd) (IS (.int .i64 0))) w.heap.size), .val ((TWO (RN cn cd) (IS (.int .i64 0))) w.heap.size), .val ((RN cn cd) w.heap.size), .val (iV 0), .new (.box 32 zR), .put (.inr 7) (.box 32 ((RN cn cd) w.heap.size)), .val (iV 0)] [.inr 0, .inr 1, .inr 2, .inl 7] [.inl 9, .inr 0, .inr 1, .inr 2] S3 ?_ ?_
 ·repeat' refine And.intro ?_ ?_
  ·trivial
  ·exact lod 0 wA (loads_of strct_gso shp_sf2)
  ·exact mS 1 1
  ·exact mS 2 2
  ·exact ch3 wA (qO 0 34 rfl) (qO 1 35 rfl) ((qO 2 36 rfl).imp (vx_vv hen)) (fresh_two (fresh_rn _ _) (fresh_is _)) (fun w u0 u1 u2 h0 h1 h2 => hc w u0 u1 u2 h0 h1 h2)
  ·exact mO 3 37
  ·exact e20 wA (oO 4 33)
  ·exact e21 wA (oO 4 33)
  ·exact owe_new rfl wA rfl rfl (fun ρ w => alloc_rat ρ _ w)
  ·exact owe_put 7 rfl wA rfl (by kernel_rfl) rfl (oO 5 38) (stores_of strct_rat shp_r0 (shp_pr shp_zn shp_zn)) rfl
  ·exact mO 6 39
 intro _ a4 _ (S4 : Sta w 150 [(4, (q4bk50 nD nL K D L)), (7, (q4bk52 Ka a)), (9, (q4bk51 w N0 d0)), (11, (.box 32 ((RN cn cd) w.heap.size)))] [(12, iV 0), (10, iV 0), (1, (QV nT ts Kt)), (2, Vx m es)] _ _ _)
 refine wp_seq ?_
 refine wq [.val (iV 0), kF, kF, .val (iV 0), kF, kF] [.inr 0, .inr 1, .inr 2, .inr 3] [.inl 5, .inr 2, .inr 3] S4 ?_ ?_
 ·apply jj6
  ·exact mS 1 10
  ·exact b_neq_errno_f wA (oO 0 40) (opnd_const _) (h := rfl)
  ·exact mO 1 41
  ·exact mW (wI 2 42) (oS 0 12)
  ·exact b_neq_errno_f (wI 2 42) (oO 3 43) (opnd_const _) (h := rfl)
  ·exact pF wA (oO 2 42) (oO 4 44)
 intro _ a5 _ (S5 : Sta w 150 [(4, (q4bk50 nD nL K D L)), (7, (q4bk52 Ka a)), (9, (q4bk51 w N0 d0)), (11, (.box 32 ((RN cn cd) w.heap.size)))] [(45, bF), (1, (QV nT ts Kt)), (2, Vx m es)] _ _ _)
 refine wp_cond_false (S5.bool 0 45 rfl) (wp_skip (thenN ?_))
 refine wq [.val ((RN cn cd) w.heap.size), .val ((TWO (ZN (nr cn (cd : Int))) (IS (.int .i64 0))) w.heap.size), .val ((TWO (ZN (nr cn (cd : Int))) (IS (.int .i64 0))) w.heap.size), .val ((ZN (nr cn (cd : Int))) w.heap.size), .val (iV 0), .new (.box 29 zI), .put (.inr 5) (q4bk56 w cn cd), .val (iV 0)] [.inr 0, .inr 1, .inr 2, .inl 5] [.inl 7, .inr 1, .inr 2] S5 ?_ ?_
 ·repeat' refine And.intro ?_ ?_
  ·trivial
  ·exact lod 3 wA (loads_of strct_rat (shp_pr shp_zn shp_zn))
  ·exact cc1 wA (qO 0 47 rfl) (fresh_two (fresh_zn _) (fresh_is _)) (fun w u h1 => g_ratnear c0 (by omega) (by omega) w u (rn_rv bcn bcd _ _ h1))
  ·exact mO 1 48
  ·exact e20 wA (oO 2 46)
  ·exact e21 wA (oO 2 46)
  ·exact owe_new rfl wA rfl rfl (fun ρ w => alloc_int ρ _ w)
  ·exact owe_put 5 rfl wA rfl (by kernel_rfl) rfl (oO 3 49) (stores_of strct_int shp_z0 shp_zn) rfl
  ·exact mO 4 50
 intro _ a6 _ (S6 : Sta w 150 [(4, (q4bk50 nD nL K D L)), (7, (q4bk52 Ka a)), (9, (q4bk51 w N0 d0)), (13, (q4bk56 w cn cd))] [(14, iV 0), (1, (QV nT ts Kt)), (2, Vx m es)] _ _ _)
 refine wp_seq ?_
 refine wq [.val (iV 0), kF] [.inr 0, .inr 1, .inr 2, .inr 3] [.inl 1, .inr 1, .inr 2] S6 ?_ ?_
 ·apply jj2
  ·exact mS 0 14
  ·exact b_neq_errno_f wA (oO 0 51) (opnd_const _) (h := rfl)
 intro _ a7 _ (S7 : Sta w 150 [(4, (q4bk50 nD nL K D L)), (7, (q4bk52 Ka a)), (9, (q4bk51 w N0 d0)), (13, (q4bk56 w cn cd))] [(52, bF), (1, (QV nT ts Kt)), (2, Vx m es)] _ _ _)
 refine wp_cond_false (S7.bool 0 52 rfl) (wp_skip (thenN ?_))
 refine wq [.val (Vx m es), .new (q4bk55 w m es), .val (Vx m es), .new (q4bk55 w m es), .ref 1, .ref 3] [.inr 0, .inr 1, .inr 2, .inr 3, .inl 4, .inl 5] [.inr 1, .inr 2] S7 ?_ ?_
 ·apply jj6
  ·exact mS 2 2
  ·exact owe_take1 rfl wA rfl (oO 0 53) fresh_zos rfl (fun args w => by go_simp) (fun w u h => fowns_w w u m es h (by omega) hC)
  ·exact mS 2 2
  ·exact owe_take1 rfl wA rfl (oO 2 55) fresh_zos rfl (fun args w => by go_simp) (fun w u h => fowns_w w u m es h (by omega) hC)
  ·exact owe_ref 1 rfl wA (Or.inr rfl) (by kernel_rfl) rfl rfl
  ·exact owe_ref 3 rfl wA (Or.inr rfl) (by kernel_rfl) rfl rfl
 intro _ a8 _ (S8 : Sta w 150 [(4, (q4bk50 nD nL K D L)), (7, (q4bk52 Ka a)), (9, (q4bk51 w N0 d0)), (13, (q4bk56 w cn cd)), (15, (q4bk55 w m es)), (16, (q4bk55 w m es))] [(1, (QV nT ts Kt)), (2, Vx m es)] _ _ _)
 refine wq [.val (Is (a8.eval (.tmp 15))), .val (Zv a Ka), .val (Sng 29 2 (Zv a Ka) w.heap.size), .mov 15 (.row 29 2 (m + 1) (CE 2 ((es.map El.zo).map (· w.heap.size) ++ [Zv a Ka]))), .ref 3] [.inr 0, .inr 1, .inr 2, .inr 3, .inr 5, .inl 4] [.inr 0, .inr 1] S8 ?_ ?_
 ·apply jj5
  ·exact owe_same rfl wA (Or.inl rfl) (by kernel_rfl) rfl
  ·exact lod 1 wA (loads_of strct_int shp_zv)
  ·exact owe_b1 rfl wA rfl bld_int (oO 1 58) (cel_shp (by decide) shp_zv) rfl
  ·exact owe_append rfl wA rfl (oO 0 57) (k := 4) rfl (by kernel_rfl) ((oO 2 59).imp b1_src) einf_int Try.underlying22 (by decide) ⟨by unfold maxLen; omega, by omega⟩ rfl (fun xs ys w h1 h2 => ce_append _ _ _ h1 h2)
  ·exact owe_ref 3 rfl wA (Or.inr rfl) (by kernel_rfl) rfl rfl
 intro _ a9 _ (S9 : Sta w 150 [(4, (q4bk50 nD nL K D L)), (7, (q4bk52 Ka a)), (9, (q4bk51 w N0 d0)), (13, (q4bk56 w cn cd)), (16, (q4bk55 w m es)), (15, (.row 29 2 (m + 1) (CE 2 ((es.map El.zo).map (· w.heap.size) ++ [Zv a Ka]))))] [(1, (QV nT ts Kt)), (2, Vx m es)] _ _ _)
 refine wq [.val (Is (a9.eval (.tmp 16))), .val ((ZN (nr cn (cd : Int))) w.heap.size), .val (Sng 29 2 ((ZN (nr cn (cd : Int))) w.heap.size) w.heap.size), .mov 16 (q4bk53 w m es cn cd), .ref 3] [.inr 0, .inr 1, .inr 2, .inr 5, .inl 4] [.inr 0, .inr 1] S9 ?_ ?_
 ·apply jj5
  ·exact owe_same rfl wA (Or.inl rfl) (by kernel_rfl) rfl
  ·exact lod 3 wA (loads_of strct_int shp_zn)
  ·exact owe_b1 rfl wA rfl bld_int (oO 1 62) (cel_shp (by decide) shp_zn) rfl
  ·exact owe_append rfl wA rfl (oO 0 61) (k := 4) rfl (by kernel_rfl) ((oO 2 63).imp b1_src) einf_int Try.underlying22 (by decide) ⟨by unfold maxLen; omega, by omega⟩ rfl (fun xs ys w h1 h2 => ce_append _ _ _ h1 h2)
  ·exact owe_ref 3 rfl wA (Or.inr rfl) (by kernel_rfl) rfl rfl
 intro _ a10 W10 (S10 : Sta w 150 [(4, (q4bk50 nD nL K D L)), (7, (q4bk52 Ka a)), (9, (q4bk51 w N0 d0)), (15, (.row 29 2 (m + 1) (CE 2 ((es.map El.zo).map (· w.heap.size) ++ [Zv a Ka])))), (16, (q4bk53 w m es cn cd))] [(1, (QV nT ts Kt)), (2, Vx m es)] _ _ _)
 obtain ⟨_, S11⟩ : ∃ Bq, Sta w 150 [(4, (q4bk50 nD nL K D L)), (7, (q4bk52 Ka a)), (9, (q4bk51 w N0 d0)), (16, (q4bk53 w m es cn cd))] [(15, Vv (m + 1) (es.map El.z ++ [a]) Ks), (1, (QV nT ts Kt)), (2, Vx m es)] Bq a10 W10 := ⟨_, S10.freeze 3 rfl (by simp) (fun v w' xs ho hc => own_vv hen (fun v w h => zv_mono hKa v w h) v w' xs ho hc)⟩
 obtain ⟨a11, _, e1, e2⟩ : ∃ a W, a10 = a ∧ W10 = W := ⟨_, _, rfl, rfl⟩
 rw [e1, e2] at S11 ⊢
 clear e1 e2
 refine wq [.val (SF [(Vv nD D K), (Mv nL L K)]), .val (QV nT ts Kt), .val (Vv (m + 1) (es.map El.z ++ [a]) Ks), .val ((TWO (RN N1 d1) (IS (.int .i64 0))) w.heap.size), .val ((TWO (RN N1 d1) (IS (.int .i64 0))) w.heap.size), .val ((RN N1 d1) w.heap.size), .val (iV 0), .new (.box 32 zR), .put (.inr 7) (q4bk54 w N1 d1), .val (iV 0)] [.inr 0, .inr 1, .inr 2, .inr 3, .inl 7] [.inl 9, .inr 1, .inr 2] S11 ?_ ?_
 ·repeat' refine And.intro ?_ ?_
  ·trivial
  ·exact lod 0 wA (loads_of strct_gso shp_sf2)
  ·exact mS 1 1
  ·exact mS 0 15
  ·exact ch3 wA (qO 0 66 rfl) (qO 1 67 rfl) (qO 2 68 rfl) (fresh_two (fresh_rn _ _) (fresh_is _)) (fun w u0 u1 u2 h0 h1 h2 => hy w u0 u1 u2 h0 h1 h2)
  ·exact mO 3 69
  ·exact e20 wA (oO 4 65)
  ·exact e21 wA (oO 4 65)
  ·exact owe_new rfl wA rfl rfl (fun ρ w => alloc_rat ρ _ w)
  ·exact owe_put 7 rfl wA rfl (by kernel_rfl) rfl (oO 5 70) (stores_of strct_rat shp_r0 (shp_pr shp_zn shp_zn)) rfl
  ·exact mO 6 71
 intro _ a12 W12 (S12 : Sta w 150 [(4, (q4bk50 nD nL K D L)), (7, (q4bk52 Ka a)), (9, (q4bk51 w N0 d0)), (16, (q4bk53 w m es cn cd)), (17, (q4bk54 w N1 d1))] [(10, iV 0), (1, (QV nT ts Kt)), (2, Vx m es)] _ _ _)
 obtain ⟨_, S13⟩ : ∃ Bq, Sta w 150 [(4, (q4bk50 nD nL K D L)), (7, (q4bk52 Ka a)), (9, (q4bk51 w N0 d0)), (17, (q4bk54 w N1 d1))] [(16, Vv (m + 1) (es.map El.z ++ [nr cn (cd : Int)]) Ks), (10, iV 0), (1, (QV nT ts Kt)), (2, Vx m es)] Bq a12 W12 := ⟨_, S12.freeze 3 rfl (by simp) (fun v w' xs ho hc => own_vv hen (fun v w h => zn_zv bz v w h) v w' xs ho hc)⟩
 obtain ⟨a13, _, e1, e2⟩ : ∃ a W, a12 = a ∧ W12 = W := ⟨_, _, rfl, rfl⟩
 rw [e1, e2] at S13 ⊢
 clear e1 e2
 refine wq [.val (SF [(Vv nD D K), (Mv nL L K)]), .val (QV nT ts Kt), .val (Vv (m + 1) (es.map El.z ++ [nr cn (cd : Int)]) Ks), .val ((TWO (RN N2 d2) (IS (.int .i64 0))) w.heap.size), .val ((TWO (RN N2 d2) (IS (.int .i64 0))) w.heap.size), .val ((RN N2 d2) w.heap.size), .val (iV 0), .new (.box 32 zR), .put (.inr 7) (.box 32 ((RN N2 d2) w.heap.size)), .val (iV 0)] [.inr 0, .inr 1, .inr 2, .inr 3, .inl 7] [.inl 9, .inr 1, .inr 2, .inr 3] S13 ?_ ?_
 ·repeat' refine And.intro ?_ ?_
  ·trivial
  ·exact lod 0 wA (loads_of strct_gso shp_sf2)
  ·exact mS 2 1
  ·exact mS 0 16
  ·exact ch3 wA (qO 0 73 rfl) (qO 1 74 rfl) (qO 2 75 rfl) (fresh_two (fresh_rn _ _) (fresh_is _)) (fun w u0 u1 u2 h0 h1 h2 => hq w u0 u1 u2 h0 h1 h2)
  ·exact mO 3 76
  ·exact e20 wA (oO 4 72)
  ·exact e21 wA (oO 4 72)
  ·exact owe_new rfl wA rfl rfl (fun ρ w => alloc_rat ρ _ w)
  ·exact owe_put 7 rfl wA rfl (by kernel_rfl) rfl (oO 5 77) (stores_of strct_rat shp_r0 (shp_pr shp_zn shp_zn)) rfl
  ·exact mO 6 78
 intro _ a14 _ (S14 : Sta w 150 [(4, (q4bk50 nD nL K D L)), (7, (q4bk52 Ka a)), (9, (q4bk51 w N0 d0)), (17, (q4bk54 w N1 d1)), (18, (.box 32 ((RN N2 d2) w.heap.size)))] [(12, iV 0), (10, iV 0), (1, (QV nT ts Kt)), (2, Vx m es)] _ _ _)
 refine wp_seq ?_
 refine wq [.val (iV 0), kF, kF, .val (iV 0), kF, kF] [.inr 0, .inr 1, .inr 2, .inr 3, .inr 4] [.inl 5, .inr 2, .inr 3] S14 ?_ ?_
 ·apply jj6
  ·exact mS 1 10
  ·exact b_neq_errno_f wA (oO 0 79) (opnd_const _) (h := rfl)
  ·exact mO 1 80
  ·exact mW (wI 2 81) (oS 0 12)
  ·exact b_neq_errno_f (wI 2 81) (oO 3 82) (opnd_const _) (h := rfl)
  ·exact pF wA (oO 2 81) (oO 4 83)
 intro _ a15 _ (S15 : Sta w 150 [(4, (q4bk50 nD nL K D L)), (7, (q4bk52 Ka a)), (9, (q4bk51 w N0 d0)), (17, (q4bk54 w N1 d1)), (18, (.box 32 ((RN N2 d2) w.heap.size)))] [(84, bF), (1, (QV nT ts Kt)), (2, Vx m es)] _ _ _)
 refine wp_cond_false (S15.bool 0 84 rfl) (wp_skip (thenN ?_))
 refine wq [.val ((RN N1 d1) w.heap.size), .val ((RN N0 d0) w.heap.size), .val ((TWO (IS (.int .i64 (N1 * (d0 : Int) - N0 * (d1 : Int)).sign)) (IS (.int .i64 0))) w.heap.size), .val ((TWO (IS (.int .i64 (N1 * (d0 : Int) - N0 * (d1 : Int)).sign)) (IS (.int .i64 0))) w.heap.size), .val (iV ((N1 * (d0 : Int) - N0 * (d1 : Int)).sign)), .val (iV 0), .val (iV ((N1 * (d0 : Int) - N0 * (d1 : Int)).sign)), .val (iV 0)] [.inr 0, .inr 1, .inr 3, .inr 4] [.inl 6, .inl 7, .inr 1, .inr 2] S15 ?_ ?_
 ·repeat' refine And.intro ?_ ?_
  ·trivial
  ·exact lod 3 wA (loads_of strct_rat (shp_pr shp_zn shp_zn))
  ·exact lod 2 wA (loads_of strct_rat (shp_pr shp_zn shp_zn))
  ·exact cc2 wA (qO 0 86 rfl) (qO 1 87 rfl) (fresh_two (fresh_is _) (fresh_is _)) (fun w u v h1 h2 => g_ratcmp (k1 := 8388608) (k2 := 8388608) (k3 := 8388608) (k4 := 8388608) z1 z0 (by omega) (by omega) (by omega) (by omega) w u v (rn_rv b1n b1d _ _ h1) (rn_rv b0n b0d _ _ h2))
  ·exact mO 2 88
  ·exact e20 wA (oO 3 85)
  ·exact e21 wA (oO 3 85)
  ·exact mO 4 89
  ·exact mO 5 90
 intro _ a16 _ (S16 : Sta w 150 [(4, (q4bk50 nD nL K D L)), (7, (q4bk52 Ka a)), (17, (q4bk54 w N1 d1)), (18, (.box 32 ((RN N2 d2) w.heap.size)))] [(19, iV ((N1 * (d0 : Int) - N0 * (d1 : Int)).sign)), (10, iV 0), (1, (QV nT ts Kt)), (2, Vx m es)] _ _ _)
 refine wq [.val ((RN N1 d1) w.heap.size), .val ((RN N2 d2) w.heap.size), .val ((TWO (IS (.int .i64 (N1 * (d2 : Int) - N2 * (d1 : Int)).sign)) (IS (.int .i64 0))) w.heap.size), .val ((TWO (IS (.int .i64 (N1 * (d2 : Int) - N2 * (d1 : Int)).sign)) (IS (.int .i64 0))) w.heap.size), .val (iV ((N1 * (d2 : Int) - N2 * (d1 : Int)).sign)), .val (iV 0), .val (iV ((N1 * (d2 : Int) - N2 * (d1 : Int)).sign)), .val (iV 0)] [.inr 0, .inr 1, .inr 2] [.inl 6, .inl 7, .inr 0, .inr 1, .inr 2, .inr 3] S16 ?_ ?_
 ·repeat' refine And.intro ?_ ?_
  ·trivial
  ·exact lod 2 wA (loads_of strct_rat (shp_pr shp_zn shp_zn))
  ·exact lod 3 wA (loads_of strct_rat (shp_pr shp_zn shp_zn))
  ·exact cc2 wA (qO 0 92 rfl) (qO 1 93 rfl) (fresh_two (fresh_is _) (fresh_is _)) (fun w u v h1 h2 => g_ratcmp (k1 := 8388608) (k2 := 8388608) (k3 := 8388608) (k4 := 8388608) z1 z2 (by omega) (by omega) (by omega) (by omega) w u v (rn_rv b1n b1d _ _ h1) (rn_rv b2n b2d _ _ h2))
  ·exact mO 2 94
  ·exact e20 wA (oO 3 91)
  ·exact e21 wA (oO 3 91)
  ·exact mO 4 95
  ·exact mO 5 96
 intro _ a17 _ (S17 : Sta w 150 [(4, (q4bk50 nD nL K D L)), (7, (q4bk52 Ka a)), (17, (q4bk54 w N1 d1))] [(20, iV ((N1 * (d2 : Int) - N2 * (d1 : Int)).sign)), (12, iV 0), (19, iV ((N1 * (d0 : Int) - N0 * (d1 : Int)).sign)), (10, iV 0), (1, (QV nT ts Kt)), (2, Vx m es)] _ _ _)
 refine wp_seq ?_
 refine wq [.val (iV 0), kF, kF, .val (iV 0), kF, kF, kF, .val (iV ((N1 * (d0 : Int) - N0 * (d1 : Int)).sign)), kF, kF, kF, .val (iV ((N1 * (d2 : Int) - N2 * (d1 : Int)).sign)), kF, kF] [.inr 0, .inr 1, .inr 2] [.inl 13, .inr 4, .inr 5] S17 ?_ ?_
 ·repeat' refine And.intro ?_ ?_
  ·trivial
  ·exact mS 3 10
  ·exact b_neq_errno_f wA (oO 0 97) (opnd_const _) (h := rfl)
  ·exact mO 1 98
  ·exact mW (wI 2 99) (oS 1 12)
  ·exact b_neq_errno_f (wI 2 99) (oO 3 100) (opnd_const _) (h := rfl)
  ·exact pF wA (oO 2 99) (oO 4 101)
  ·exact mO 5 102
  ·exact mW (wI 6 103) (oS 2 19)
  ·exact b_lss_int_f (wI 6 103) (oO 7 104) (opnd_const _)
  ·exact pF wA (oO 6 103) (oO 8 105)
  ·exact mO 9 106
  ·exact mW (wI 10 107) (oS 0 20)
  ·exact b_lss_int_f (wI 10 107) (oO 11 108) (opnd_const _)
  ·exact pF wA (oO 10 107) (oO 12 109)
 intro _ a18 _ (S18 : Sta w 150 [(4, (q4bk50 nD nL K D L)), (7, (q4bk52 Ka a)), (17, (q4bk54 w N1 d1))] [(110, bF), (1, (QV nT ts Kt)), (2, Vx m es)] _ _ _)
 refine wp_cond_false (S18.bool 0 110 rfl) (wp_skip (thenN ?_))
 refine wq [.val (SF [(Vv nD D K), (Mv nL L K)]), .val (QV nT ts Kt), .val (Vx m es), .val ((RN N1 d1) w.heap.size), .val ((FOUR (ZN (lo)) (ZN (hi)) (IS (.bool true)) (IS (.int .i64 0))) w.heap.size), .val ((FOUR (ZN (lo)) (ZN (hi)) (IS (.bool true)) (IS (.int .i64 0))) w.heap.size), .val ((ZN (lo)) w.heap.size), .val ((ZN (hi)) w.heap.size), kT, .val (iV 0), .new (.box 29 zI), .new (.box 29 zI), .put (.inr 10) (.box 29 ((ZN (lo)) w.heap.size)), .put (.inr 11) (.box 29 ((ZN (hi)) w.heap.size)), kT, .val (iV 0)] [.inr 0, .inr 1, .inl 10, .inl 11] [.inl 14, .inl 15] S18 ?_ ?_
 ·repeat' refine And.intro ?_ ?_
  ·trivial
  ·exact lod 0 wA (loads_of strct_gso shp_sf2)
  ·exact mS 1 1
  ·exact mS 2 2
  ·exact lod 2 wA (loads_of strct_rat (shp_pr shp_zn shp_zn))
  ·exact owe_callh4 rfl wA rfl (oO 0 112) (oO 1 113) ((oO 2 114).imp (vx_vv hen)) ((oO 3 115).imp (rn_rv b1n b1d)) (fresh_four (fresh_zn _) (fresh_zn _) (fresh_is _) (fresh_is _)) rfl (fun args w => by go_simp) (fun w u0 u1 u2 u3 h0 h1 h2 h3 => hr w u0 u1 u2 u3 h0 h1 h2 h3)
  ·exact mO 4 116
  ·exact owe_ext4 rfl wA rfl (oO 5 111) (Or.inl ⟨rfl, rfl⟩) rfl
  ·exact owe_ext4 rfl wA rfl (oO 5 111) (Or.inr (Or.inl ⟨rfl, rfl⟩)) rfl
  ·exact owe_ext4 rfl wA rfl (oO 5 111) (Or.inr (Or.inr (Or.inl ⟨rfl, rfl⟩))) rfl
  ·exact owe_ext4 rfl wA rfl (oO 5 111) (Or.inr (Or.inr (Or.inr ⟨rfl, rfl⟩))) rfl
  ·exact owe_new rfl wA rfl rfl (fun ρ w => alloc_int ρ _ w)
  ·exact owe_new rfl wA rfl rfl (fun ρ w => alloc_int ρ _ w)
  ·exact owe_put 10 rfl wA rfl (by kernel_rfl) rfl (oO 6 117) (stores_of strct_int shp_z0 shp_zn) rfl
  ·exact owe_put 11 rfl wA rfl (by kernel_rfl) rfl (oO 7 118) (stores_of strct_int shp_z0 shp_zn) rfl
  ·exact mO 8 119
  ·exact mO 9 120
 intro _ a19 _ (S19 : Sta w 150 [(4, (q4bk50 nD nL K D L)), (7, (q4bk52 Ka a)), (21, (.box 29 ((ZN (lo)) w.heap.size))), (22, (.box 29 ((ZN (hi)) w.heap.size)))] [(23, bT), (10, iV 0)] _ _ _)
 refine wq [.val (iV 0), kT, kT, kT, kT, kT, .val ((ZN (lo)) w.heap.size), .val (Zv a Ka), .val (iV ((lo - a).sign)), kT, kT, kT, .val (Zv a Ka), .val ((ZN (hi)) w.heap.size), .val (iV ((a - hi).sign)), kT, kT, kT, .val ((ZN (lo)) w.heap.size), .val (Zv a Ka), .val (iV ((lo - a).sign)), kF, kF, .val (Zv a Ka), .val ((ZN (hi)) w.heap.size), .val (iV ((a - hi).sign)), kT, kT, kT, kT] [.inr 0] [.inl 29] S19 ?_ ?_
 ·repeat' refine And.intro ?_ ?_
  ·trivial
  ·exact mS 1 10
  ·exact b_eql_errno_t wA (oO 0 121) (opnd_const _) (h := rfl)
  ·exact mO 1 122
  ·exact mW (wI 2 123) (oS 0 23)
  ·exact pT wA (oO 2 123) (oO 3 124)
  ·exact mO 4 125
  ·exact lod 2 (wI 5 126) (loads_of strct_int shp_zn)
  ·exact lod 1 (wI 5 126) (loads_of strct_int shp_zv)
  ·exact cc2 (wI 5 126) (qO 6 127 rfl) (qO 7 128 rfl) (fresh_is _) (fun w u v h1 h2 => h_zcmp (by omega) (by omega) w u v ((zn_zv bl) _ _ h1) ((fun _ _ h => h) _ _ h2))
  ·exact b_leq_int_t (wI 5 126) (oO 8 129) (opnd_const _) (h := s3)
  ·exact pT wA (oO 5 126) (oO 9 130)
  ·exact mO 10 131
  ·exact lod 1 (wI 11 132) (loads_of strct_int shp_zv)
  ·exact lod 3 (wI 11 132) (loads_of strct_int shp_zn)
  ·exact cc2 (wI 11 132) (qO 12 133 rfl) (qO 13 134 rfl) (fresh_is _) (fun w u v h1 h2 => h_zcmp (by omega) (by omega) w u v ((fun _ _ h => h) _ _ h1) ((zn_zv bh) _ _ h2))
  ·exact b_leq_int_t (wI 11 132) (oO 14 135) (opnd_const _) (h := s4)
  ·exact pT wA (oO 11 132) (oO 15 136)
  ·exact mO 16 137
  ·exact lod 2 (wI 17 138) (loads_of strct_int shp_zn)
  ·exact lod 1 (wI 17 138) (loads_of strct_int shp_zv)
  ·exact cc2 (wI 17 138) (qO 18 139 rfl) (qO 19 140 rfl) (fresh_is _) (fun w u v h1 h2 => h_zcmp (by omega) (by omega) w u v ((zn_zv bl) _ _ h1) ((fun _ _ h => h) _ _ h2))
  ·exact b_eql_int_f (wI 17 138) (oO 20 141) (opnd_const _) (h := sE)
  ·exact mW (wI 17 138) (oO 21 142)
  ·exact lod 1 (wI 22 143) (loads_of strct_int shp_zv)
  ·exact lod 3 (wI 22 143) (loads_of strct_int shp_zn)
  ·exact cc2 (wI 22 143) (qO 23 144 rfl) (qO 24 145 rfl) (fresh_is _) (fun w u v h1 h2 => h_zcmp (by omega) (by omega) w u v ((fun _ _ h => h) _ _ h1) ((zn_zv bh) _ _ h2))
  ·exact b_eql_int_t (wI 22 143) (oO 25 146) (opnd_const _) (h := sF)
  ·exact pF (wI 17 138) (oO 22 143) (oO 26 147)
  ·exact pT wA (oO 17 138) (oO 27 148)
  ·exact mO 28 149
 intro _ a20 _ (S20 : Sta w 150 [(4, (q4bk50 nD nL K D L))] [(8, bT)] _ _ _)
 refine wp_ret ?_
 exact end_one S20 rfl (res_tmp S20 0 8 rfl)

end Go.Proofs.Ytoeopdmaogmjhaa
