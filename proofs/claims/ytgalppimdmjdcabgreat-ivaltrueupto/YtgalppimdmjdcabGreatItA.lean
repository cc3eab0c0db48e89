import Derived.Test.YtgalppimdmjdcabGreatITrueMath
import Derived.Test.YtgalppimdmjdcabGreatIOrd
import Derived.Test.YtgalppimdmjdcabGreatIProd
import Derived.Test.YtgalppimdmjdcabGreatRRProd
/-
  IvalTrue's walk.
-/
namespace Go.Proofs.YtgalppimdmjdcabGreat
open Go Go.RowKit Nt
set_option linter.unusedSimpArgs false
set_option linter.unusedVariables false
set_option maxRecDepth 20000

theorem h_rholdsF {p q : Option Int} {px py : Int} (hp : p = some px) (hq : q = some py) {A : Int} {D k1 k2 : Nat} (hD : D ≠ 0) (b1 : k1 ≤ 8388608) (b2 : k2 ≤ 8388608) (ht : hoB px py A D = true) : ∀ w u v, SF [FL p, FL q] u w → Rv A ((D : Nat) : Int) k1 k2 v w → Calls Tryz.prog 7 #[u, v] w (Gives (IS (.bool true)) w) := fun w u v h hr => by
  obtain ⟨x, y, rfl, hx, hx2, hy, hy2⟩ := sf_fl h
  have := h_rholds hx hy (hx2.trans hp) (hy2.trans hq) hD b1 b2 w _ v ix_mk hr
  rwa [ht] at this
theorem h_rrmul {A N : Int} {D M k1 k2 k3 k4 : Nat} (hD : D ≠ 0) (hM : M ≠ 0) (b1 : k1 ≤ 8388608) (b2 : k2 ≤ 8388608) (b3 : k3 ≤ 8388608) (b4 : k4 ≤ 8388608) : ∀ w u v, Rv A (D : Int) k1 k2 u w → Rv N (M : Int) k3 k4 v w → Calls Tryz.prog 15 #[u, v] w (Gives (RN (nR (A * N) (D * M)) (dR (A * N) (D * M))) w) := by
  rintro w u v ⟨x0, x1, y0, y1, rfl, ⟨s, p, n, c, xs, ea, h, rfl, hn⟩, ⟨t, q, m, d, ys, eb, h', eD, hm⟩⟩ ⟨z0, z1, u0, u1, rfl, ⟨s', p', n', c', xs', ea', h2, rfl, hn'⟩, ⟨t', q', m', d', ys', eb', h2', eM, hm'⟩⟩
  simp at ea eb ea' eb'
  obtain ⟨rfl, rfl⟩ := ea
  obtain ⟨rfl, rfl⟩ := eb
  obtain ⟨rfl, rfl⟩ := ea'
  obtain ⟨rfl, rfl⟩ := eb'
  obtain ⟨rfl, rfl⟩ := zv_pos eD hD
  obtain ⟨rfl, rfl⟩ := zv_pos eM hM
  exact rt_gives (rrmul_c w s p n c xs q m d ys s' p' n' c' xs' q' m' d' ys' h h' h2 h2' hD hM (by omega) (by omega) (by omega) (by omega))
theorem sgn_posI {D : Int} (h : 0 < D) : 0 < D.sign := by rw [Int.sign_eq_one_of_pos h]; decide
set_option maxHeartbeats 1000000 in
theorem ivaltrue_f (w : World) (x y x1 y1 : Nat) (hx : x < 18446744073709551616) (hy : y < 18446744073709551616) (hx1 : x1 < 18446744073709551616) (hy1 : y1 < 18446744073709551616) (h : okI x y = false) (A D B E : Int) (k1 k2 k3 k4 : Nat) (r r2 : Value) (hr : Has (fun _ => False) w (Rv A D k1 k2) r) (hr2 : Has (fun _ => False) w (Rv B E k3 k4) r2) (b1 : k1 ≤ 8388608) (b2 : k2 ≤ 8388608) (b3 : k3 ≤ 8388608) (b4 : k4 ≤ 8388608) :
    Calls Tryz.prog 3 #[(.agg #[.float .f64 x, .float .f64 y]), (.agg #[.float .f64 x1, .float .f64 y1]), r, r2] w (Gives (IS (.bool true)) w) := by
  refine calls_sta (sl := [(0, (SF [(Is (.float .f64 x)), (Is (.float .f64 y))])), (1, (SF [(Is (.float .f64 x1)), (Is (.float .f64 y1))])), (2, (PR (Zv A k1) (Zv D k2))), (3, (PR (Zv B k3) (Zv E k4)))]) Tryz.func3 rfl Tryz.ntmps3 (by simp) (args_cons rfl (ix_has) (args_cons rfl (ix_has) (args_cons rfl (hr) (args_cons rfl (hr2) args_nil)))) ?_
  intro a0 S0
  refine wp_stmt_seq [.new (.box 24 (SF [(Is (.float .f64 x)), (Is (.float .f64 y))])), .new (.box 24 (SF [(Is (.float .f64 x1)), (Is (.float .f64 y1))])), .new (.box 29 (PR (Zv A k1) (Zv D k2))), .new (.box 29 (PR (Zv B k3) (Zv E k4))), kF] [.inl 0, .inl 1, .inl 2, .inl 3] [] follows S0 rfl (by kernel_rfl) ?_ ?_
  · refine ⟨⟨⟨⟨⟨trivial, ?_⟩, ?_⟩, ?_⟩, ?_⟩, ?_⟩
    · exact owe_box rfl wA rfl (oS 0 0) rfl (fun ρ w h => box_ival shp_iv ρ _ _ w h)
    · exact owe_box rfl wA rfl (oS 1 1) rfl (fun ρ w h => box_ival shp_iv ρ _ _ w h)
    · exact owe_box rfl wA rfl (oS 2 2) rfl (fun ρ w h => box_rat (shp_pr shp_zv shp_zv) ρ _ _ w h)
    · exact owe_box rfl wA rfl (oS 3 3) rfl (fun ρ w h => box_rat (shp_pr shp_zv shp_zv) ρ _ _ w h)
    · exact mC
  intro B1 a1 W1 (S1 : Sta w 141 [(4, (.box 24 (SF [(Is (.float .f64 x)), (Is (.float .f64 y))]))), (5, (.box 24 (SF [(Is (.float .f64 x1)), (Is (.float .f64 y1))]))), (6, (.box 29 (PR (Zv A k1) (Zv D k2)))), (7, (.box 29 (PR (Zv B k3) (Zv E k4))))] [] _ _ _)
  refine wp_seq ?_
  refine wp_stmt_seq [kT, kF] [.inr 0, .inr 1, .inr 2, .inr 3] [.inl 1] follows S1 rfl (by kernel_rfl) ?_ ?_
  · refine ⟨⟨trivial, ?_⟩, ?_⟩
    · exact owe_call0 rfl wA rfl  (fresh_is _) rfl (fun args w => by go_simp) awake_w
    · exact b_not wA (oO 0 20)
  intro B2 a2 W2 (S2 : Sta w 141 [(4, (.box 24 (SF [(Is (.float .f64 x)), (Is (.float .f64 y))]))), (5, (.box 24 (SF [(Is (.float .f64 x1)), (Is (.float .f64 y1))]))), (6, (.box 29 (PR (Zv A k1) (Zv D k2)))), (7, (.box 29 (PR (Zv B k3) (Zv E k4))))] [(21, bF)] _ _ _)
  refine wp_cond_false (S2.bool 0 21 rfl) ?_
  refine wp_skip ?_
  refine thenN ?_
  refine wp_seq ?_
  refine wp_stmt_seq [.val (SF [(Is (.float .f64 x)), (Is (.float .f64 y))]), kF, kT, kT, .off, .off, .off, kT, kT, .off, .off, .off, kT, kT, .off, .off, .off, kT] [.inr 0, .inr 1, .inr 2, .inr 3] [.inl 17] follows S2 rfl (by kernel_rfl) ?_ ?_
  · repeat' refine And.intro ?_ ?_
    · trivial
    · exact lod 0 wA (loads_of strct_ival shp_iv)
    · exact cc1 wA (qO 0 22 rfl) (fresh_is _) (ix1 (fun w => rvalid_f w _ _ hx hy h))
    · exact b_not wA (oO 1 23)
    · exact mO 2 24
    · exact oF 3 25
    · exact oF 3 25
    · exact oF 3 25
    · exact pT wA (oO 3 25) (opnd_const _)
    · exact mO 7 29
    · exact oF 8 30
    · exact oF 8 30
    · exact oF 8 30
    · exact pT wA (oO 8 30) (opnd_const _)
    · exact mO 12 34
    · exact oF 13 35
    · exact oF 13 35
    · exact oF 13 35
    · exact pT wA (oO 13 35) (opnd_const _)
  intro B3 a3 W3 (S3 : Sta w 141 [(4, (.box 24 (SF [(Is (.float .f64 x)), (Is (.float .f64 y))]))), (5, (.box 24 (SF [(Is (.float .f64 x1)), (Is (.float .f64 y1))]))), (6, (.box 29 (PR (Zv A k1) (Zv D k2)))), (7, (.box 29 (PR (Zv B k3) (Zv E k4))))] [(39, bT)] _ _ _)
  refine wp_cond_true (S3.bool 0 39 rfl) ?_
  refine wp_stmt_seq [kT] [.inr 0, .inr 1] [.inl 0] follows S3 rfl (by kernel_rfl) ?_ ?_
  · refine ⟨trivial, ?_⟩
    · exact mC
  intro B4 a4 W4 (S4 : Sta w 141 [(4, (.box 24 (SF [(Is (.float .f64 x)), (Is (.float .f64 y))]))), (5, (.box 24 (SF [(Is (.float .f64 x1)), (Is (.float .f64 y1))])))] [(8, bT)] _ _ _)
  refine wp_ret ?_
  refine thenR ?_
  exact end_one S4 rfl (res_tmp S4 0 8 rfl)
set_option maxHeartbeats 1000000 in
theorem ivaltrue_tf (w : World) (x y x1 y1 : Nat) (hx : x < 18446744073709551616) (hy : y < 18446744073709551616) (hx1 : x1 < 18446744073709551616) (hy1 : y1 < 18446744073709551616) (h : okI x y = true) (h' : okI x1 y1 = false) (A D B E : Int) (k1 k2 k3 k4 : Nat) (r r2 : Value) (hr : Has (fun _ => False) w (Rv A D k1 k2) r) (hr2 : Has (fun _ => False) w (Rv B E k3 k4) r2) (b1 : k1 ≤ 8388608) (b2 : k2 ≤ 8388608) (b3 : k3 ≤ 8388608) (b4 : k4 ≤ 8388608) :
    Calls Tryz.prog 3 #[(.agg #[.float .f64 x, .float .f64 y]), (.agg #[.float .f64 x1, .float .f64 y1]), r, r2] w (Gives (IS (.bool true)) w) := by
  refine calls_sta (sl := [(0, (SF [(Is (.float .f64 x)), (Is (.float .f64 y))])), (1, (SF [(Is (.float .f64 x1)), (Is (.float .f64 y1))])), (2, (PR (Zv A k1) (Zv D k2))), (3, (PR (Zv B k3) (Zv E k4)))]) Tryz.func3 rfl Tryz.ntmps3 (by simp) (args_cons rfl (ix_has) (args_cons rfl (ix_has) (args_cons rfl (hr) (args_cons rfl (hr2) args_nil)))) ?_
  intro a0 S0
  refine wp_stmt_seq [.new (.box 24 (SF [(Is (.float .f64 x)), (Is (.float .f64 y))])), .new (.box 24 (SF [(Is (.float .f64 x1)), (Is (.float .f64 y1))])), .new (.box 29 (PR (Zv A k1) (Zv D k2))), .new (.box 29 (PR (Zv B k3) (Zv E k4))), kF] [.inl 0, .inl 1, .inl 2, .inl 3] [] follows S0 rfl (by kernel_rfl) ?_ ?_
  · refine ⟨⟨⟨⟨⟨trivial, ?_⟩, ?_⟩, ?_⟩, ?_⟩, ?_⟩
    · exact owe_box rfl wA rfl (oS 0 0) rfl (fun ρ w h => box_ival shp_iv ρ _ _ w h)
    · exact owe_box rfl wA rfl (oS 1 1) rfl (fun ρ w h => box_ival shp_iv ρ _ _ w h)
    · exact owe_box rfl wA rfl (oS 2 2) rfl (fun ρ w h => box_rat (shp_pr shp_zv shp_zv) ρ _ _ w h)
    · exact owe_box rfl wA rfl (oS 3 3) rfl (fun ρ w h => box_rat (shp_pr shp_zv shp_zv) ρ _ _ w h)
    · exact mC
  intro B1 a1 W1 (S1 : Sta w 141 [(4, (.box 24 (SF [(Is (.float .f64 x)), (Is (.float .f64 y))]))), (5, (.box 24 (SF [(Is (.float .f64 x1)), (Is (.float .f64 y1))]))), (6, (.box 29 (PR (Zv A k1) (Zv D k2)))), (7, (.box 29 (PR (Zv B k3) (Zv E k4))))] [] _ _ _)
  refine wp_seq ?_
  refine wp_stmt_seq [kT, kF] [.inr 0, .inr 1, .inr 2, .inr 3] [.inl 1] follows S1 rfl (by kernel_rfl) ?_ ?_
  · refine ⟨⟨trivial, ?_⟩, ?_⟩
    · exact owe_call0 rfl wA rfl  (fresh_is _) rfl (fun args w => by go_simp) awake_w
    · exact b_not wA (oO 0 20)
  intro B2 a2 W2 (S2 : Sta w 141 [(4, (.box 24 (SF [(Is (.float .f64 x)), (Is (.float .f64 y))]))), (5, (.box 24 (SF [(Is (.float .f64 x1)), (Is (.float .f64 y1))]))), (6, (.box 29 (PR (Zv A k1) (Zv D k2)))), (7, (.box 29 (PR (Zv B k3) (Zv E k4))))] [(21, bF)] _ _ _)
  refine wp_cond_false (S2.bool 0 21 rfl) ?_
  refine wp_skip ?_
  refine thenN ?_
  refine wp_seq ?_
  refine wp_stmt_seq [.val (SF [(Is (.float .f64 x)), (Is (.float .f64 y))]), kT, kF, kF, .val (SF [(Is (.float .f64 x1)), (Is (.float .f64 y1))]), kF, kT, kT, kT, .off, .off, .off, kT, kT, .off, .off, .off, kT] [.inr 0, .inr 1, .inr 2, .inr 3] [.inl 17] follows S2 rfl (by kernel_rfl) ?_ ?_
  · repeat' refine And.intro ?_ ?_
    · trivial
    · exact lod 0 wA (loads_of strct_ival shp_iv)
    · exact cc1 wA (qO 0 22 rfl) (fresh_is _) (ix1 (fun w => rvalid_t w _ _ hx hy h))
    · exact b_not wA (oO 1 23)
    · exact mO 2 24
    · exact lod 1 (wI 3 25) (loads_of strct_ival shp_iv)
    · exact cc1 (wI 3 25) (qO 4 26 rfl) (fresh_is _) (ix1 (fun w => rvalid_f w _ _ hx1 hy1 h'))
    · exact b_not (wI 3 25) (oO 5 27)
    · exact pF wA (oO 3 25) (oO 6 28)
    · exact mO 7 29
    · exact oF 8 30
    · exact oF 8 30
    · exact oF 8 30
    · exact pT wA (oO 8 30) (opnd_const _)
    · exact mO 12 34
    · exact oF 13 35
    · exact oF 13 35
    · exact oF 13 35
    · exact pT wA (oO 13 35) (opnd_const _)
  intro B3 a3 W3 (S3 : Sta w 141 [(4, (.box 24 (SF [(Is (.float .f64 x)), (Is (.float .f64 y))]))), (5, (.box 24 (SF [(Is (.float .f64 x1)), (Is (.float .f64 y1))]))), (6, (.box 29 (PR (Zv A k1) (Zv D k2)))), (7, (.box 29 (PR (Zv B k3) (Zv E k4))))] [(39, bT)] _ _ _)
  refine wp_cond_true (S3.bool 0 39 rfl) ?_
  refine wp_stmt_seq [kT] [.inr 0, .inr 1] [.inl 0] follows S3 rfl (by kernel_rfl) ?_ ?_
  · refine ⟨trivial, ?_⟩
    · exact mC
  intro B4 a4 W4 (S4 : Sta w 141 [(4, (.box 24 (SF [(Is (.float .f64 x)), (Is (.float .f64 y))]))), (5, (.box 24 (SF [(Is (.float .f64 x1)), (Is (.float .f64 y1))])))] [(8, bT)] _ _ _)
  refine wp_ret ?_
  refine thenR ?_
  exact end_one S4 rfl (res_tmp S4 0 8 rfl)
set_option maxHeartbeats 1000000 in
theorem ivaltrue_xb (w : World) (x y x1 y1 : Nat) (hx : x < 18446744073709551616) (hy : y < 18446744073709551616) (hx1 : x1 < 18446744073709551616) (hy1 : y1 < 18446744073709551616) (h : okI x y = true) (h' : okI x1 y1 = true) (A D B E : Int) (k1 k2 k3 k4 : Nat) (r r2 : Value) (hr : Has (fun _ => False) w (Rv A D k1 k2) r) (hr2 : Has (fun _ => False) w (Rv B E k3 k4) r2) (b1 : k1 ≤ 8388608) (b2 : k2 ≤ 8388608) (b3 : k3 ≤ 8388608) (b4 : k4 ≤ 8388608) (gx : D ≤ 0) :
    Calls Tryz.prog 3 #[(.agg #[.float .f64 x, .float .f64 y]), (.agg #[.float .f64 x1, .float .f64 y1]), r, r2] w (Gives (IS (.bool true)) w) := by
  refine calls_sta (sl := [(0, (SF [(Is (.float .f64 x)), (Is (.float .f64 y))])), (1, (SF [(Is (.float .f64 x1)), (Is (.float .f64 y1))])), (2, (PR (Zv A k1) (Zv D k2))), (3, (PR (Zv B k3) (Zv E k4)))]) Tryz.func3 rfl Tryz.ntmps3 (by simp) (args_cons rfl (ix_has) (args_cons rfl (ix_has) (args_cons rfl (hr) (args_cons rfl (hr2) args_nil)))) ?_
  intro a0 S0
  refine wp_stmt_seq [.new (.box 24 (SF [(Is (.float .f64 x)), (Is (.float .f64 y))])), .new (.box 24 (SF [(Is (.float .f64 x1)), (Is (.float .f64 y1))])), .new (.box 29 (PR (Zv A k1) (Zv D k2))), .new (.box 29 (PR (Zv B k3) (Zv E k4))), kF] [.inl 0, .inl 1, .inl 2, .inl 3] [] follows S0 rfl (by kernel_rfl) ?_ ?_
  · refine ⟨⟨⟨⟨⟨trivial, ?_⟩, ?_⟩, ?_⟩, ?_⟩, ?_⟩
    · exact owe_box rfl wA rfl (oS 0 0) rfl (fun ρ w h => box_ival shp_iv ρ _ _ w h)
    · exact owe_box rfl wA rfl (oS 1 1) rfl (fun ρ w h => box_ival shp_iv ρ _ _ w h)
    · exact owe_box rfl wA rfl (oS 2 2) rfl (fun ρ w h => box_rat (shp_pr shp_zv shp_zv) ρ _ _ w h)
    · exact owe_box rfl wA rfl (oS 3 3) rfl (fun ρ w h => box_rat (shp_pr shp_zv shp_zv) ρ _ _ w h)
    · exact mC
  intro B1 a1 W1 (S1 : Sta w 141 [(4, (.box 24 (SF [(Is (.float .f64 x)), (Is (.float .f64 y))]))), (5, (.box 24 (SF [(Is (.float .f64 x1)), (Is (.float .f64 y1))]))), (6, (.box 29 (PR (Zv A k1) (Zv D k2)))), (7, (.box 29 (PR (Zv B k3) (Zv E k4))))] [] _ _ _)
  refine wp_seq ?_
  refine wp_stmt_seq [kT, kF] [.inr 0, .inr 1, .inr 2, .inr 3] [.inl 1] follows S1 rfl (by kernel_rfl) ?_ ?_
  · refine ⟨⟨trivial, ?_⟩, ?_⟩
    · exact owe_call0 rfl wA rfl  (fresh_is _) rfl (fun args w => by go_simp) awake_w
    · exact b_not wA (oO 0 20)
  intro B2 a2 W2 (S2 : Sta w 141 [(4, (.box 24 (SF [(Is (.float .f64 x)), (Is (.float .f64 y))]))), (5, (.box 24 (SF [(Is (.float .f64 x1)), (Is (.float .f64 y1))]))), (6, (.box 29 (PR (Zv A k1) (Zv D k2)))), (7, (.box 29 (PR (Zv B k3) (Zv E k4))))] [(21, bF)] _ _ _)
  refine wp_cond_false (S2.bool 0 21 rfl) ?_
  refine wp_skip ?_
  refine thenN ?_
  refine wp_seq ?_
  refine wp_stmt_seq [.val (SF [(Is (.float .f64 x)), (Is (.float .f64 y))]), kT, kF, kF, .val (SF [(Is (.float .f64 x1)), (Is (.float .f64 y1))]), kT, kF, kF, kF, .val (PR (Zv A k1) (Zv D k2)), kF, kT, kT, kT, .off, .off, .off, kT] [.inr 0, .inr 1, .inr 2, .inr 3] [.inl 17] follows S2 rfl (by kernel_rfl) ?_ ?_
  · repeat' refine And.intro ?_ ?_
    · trivial
    · exact lod 0 wA (loads_of strct_ival shp_iv)
    · exact cc1 wA (qO 0 22 rfl) (fresh_is _) (ix1 (fun w => rvalid_t w _ _ hx hy h))
    · exact b_not wA (oO 1 23)
    · exact mO 2 24
    · exact lod 1 (wI 3 25) (loads_of strct_ival shp_iv)
    · exact cc1 (wI 3 25) (qO 4 26 rfl) (fresh_is _) (ix1 (fun w => rvalid_t w _ _ hx1 hy1 h'))
    · exact b_not (wI 3 25) (oO 5 27)
    · exact pF wA (oO 3 25) (oO 6 28)
    · exact mO 7 29
    · exact lod 2 (wI 8 30) (loads_of strct_rat (shp_pr shp_zv shp_zv))
    · exact cc1 (wI 8 30) (qO 9 31 rfl) (fresh_is _) (h_rval b1 b2 (decide_eq_false (Int.not_lt.2 (sgn_not gx))))
    · exact b_not (wI 8 30) (oO 10 32)
    · exact pF wA (oO 8 30) (oO 11 33)
    · exact mO 12 34
    · exact oF 13 35
    · exact oF 13 35
    · exact oF 13 35
    · exact pT wA (oO 13 35) (opnd_const _)
  intro B3 a3 W3 (S3 : Sta w 141 [(4, (.box 24 (SF [(Is (.float .f64 x)), (Is (.float .f64 y))]))), (5, (.box 24 (SF [(Is (.float .f64 x1)), (Is (.float .f64 y1))]))), (6, (.box 29 (PR (Zv A k1) (Zv D k2)))), (7, (.box 29 (PR (Zv B k3) (Zv E k4))))] [(39, bT)] _ _ _)
  refine wp_cond_true (S3.bool 0 39 rfl) ?_
  refine wp_stmt_seq [kT] [.inr 0, .inr 1] [.inl 0] follows S3 rfl (by kernel_rfl) ?_ ?_
  · refine ⟨trivial, ?_⟩
    · exact mC
  intro B4 a4 W4 (S4 : Sta w 141 [(4, (.box 24 (SF [(Is (.float .f64 x)), (Is (.float .f64 y))]))), (5, (.box 24 (SF [(Is (.float .f64 x1)), (Is (.float .f64 y1))])))] [(8, bT)] _ _ _)
  refine wp_ret ?_
  refine thenR ?_
  exact end_one S4 rfl (res_tmp S4 0 8 rfl)
set_option maxHeartbeats 1000000 in
theorem ivaltrue_yb (w : World) (x y x1 y1 : Nat) (hx : x < 18446744073709551616) (hy : y < 18446744073709551616) (hx1 : x1 < 18446744073709551616) (hy1 : y1 < 18446744073709551616) (h : okI x y = true) (h' : okI x1 y1 = true) (A D B E : Int) (k1 k2 k3 k4 : Nat) (r r2 : Value) (hr : Has (fun _ => False) w (Rv A D k1 k2) r) (hr2 : Has (fun _ => False) w (Rv B E k3 k4) r2) (b1 : k1 ≤ 8388608) (b2 : k2 ≤ 8388608) (b3 : k3 ≤ 8388608) (b4 : k4 ≤ 8388608) (gx : 0 < D) (gy : E ≤ 0) :
    Calls Tryz.prog 3 #[(.agg #[.float .f64 x, .float .f64 y]), (.agg #[.float .f64 x1, .float .f64 y1]), r, r2] w (Gives (IS (.bool true)) w) := by
  refine calls_sta (sl := [(0, (SF [(Is (.float .f64 x)), (Is (.float .f64 y))])), (1, (SF [(Is (.float .f64 x1)), (Is (.float .f64 y1))])), (2, (PR (Zv A k1) (Zv D k2))), (3, (PR (Zv B k3) (Zv E k4)))]) Tryz.func3 rfl Tryz.ntmps3 (by simp) (args_cons rfl (ix_has) (args_cons rfl (ix_has) (args_cons rfl (hr) (args_cons rfl (hr2) args_nil)))) ?_
  intro a0 S0
  refine wp_stmt_seq [.new (.box 24 (SF [(Is (.float .f64 x)), (Is (.float .f64 y))])), .new (.box 24 (SF [(Is (.float .f64 x1)), (Is (.float .f64 y1))])), .new (.box 29 (PR (Zv A k1) (Zv D k2))), .new (.box 29 (PR (Zv B k3) (Zv E k4))), kF] [.inl 0, .inl 1, .inl 2, .inl 3] [] follows S0 rfl (by kernel_rfl) ?_ ?_
  · refine ⟨⟨⟨⟨⟨trivial, ?_⟩, ?_⟩, ?_⟩, ?_⟩, ?_⟩
    · exact owe_box rfl wA rfl (oS 0 0) rfl (fun ρ w h => box_ival shp_iv ρ _ _ w h)
    · exact owe_box rfl wA rfl (oS 1 1) rfl (fun ρ w h => box_ival shp_iv ρ _ _ w h)
    · exact owe_box rfl wA rfl (oS 2 2) rfl (fun ρ w h => box_rat (shp_pr shp_zv shp_zv) ρ _ _ w h)
    · exact owe_box rfl wA rfl (oS 3 3) rfl (fun ρ w h => box_rat (shp_pr shp_zv shp_zv) ρ _ _ w h)
    · exact mC
  intro B1 a1 W1 (S1 : Sta w 141 [(4, (.box 24 (SF [(Is (.float .f64 x)), (Is (.float .f64 y))]))), (5, (.box 24 (SF [(Is (.float .f64 x1)), (Is (.float .f64 y1))]))), (6, (.box 29 (PR (Zv A k1) (Zv D k2)))), (7, (.box 29 (PR (Zv B k3) (Zv E k4))))] [] _ _ _)
  refine wp_seq ?_
  refine wp_stmt_seq [kT, kF] [.inr 0, .inr 1, .inr 2, .inr 3] [.inl 1] follows S1 rfl (by kernel_rfl) ?_ ?_
  · refine ⟨⟨trivial, ?_⟩, ?_⟩
    · exact owe_call0 rfl wA rfl  (fresh_is _) rfl (fun args w => by go_simp) awake_w
    · exact b_not wA (oO 0 20)
  intro B2 a2 W2 (S2 : Sta w 141 [(4, (.box 24 (SF [(Is (.float .f64 x)), (Is (.float .f64 y))]))), (5, (.box 24 (SF [(Is (.float .f64 x1)), (Is (.float .f64 y1))]))), (6, (.box 29 (PR (Zv A k1) (Zv D k2)))), (7, (.box 29 (PR (Zv B k3) (Zv E k4))))] [(21, bF)] _ _ _)
  refine wp_cond_false (S2.bool 0 21 rfl) ?_
  refine wp_skip ?_
  refine thenN ?_
  refine wp_seq ?_
  refine wp_stmt_seq [.val (SF [(Is (.float .f64 x)), (Is (.float .f64 y))]), kT, kF, kF, .val (SF [(Is (.float .f64 x1)), (Is (.float .f64 y1))]), kT, kF, kF, kF, .val (PR (Zv A k1) (Zv D k2)), kT, kF, kF, kF, .val (PR (Zv B k3) (Zv E k4)), kF, kT, kT] [.inr 0, .inr 1, .inr 2, .inr 3] [.inl 17] follows S2 rfl (by kernel_rfl) ?_ ?_
  · repeat' refine And.intro ?_ ?_
    · trivial
    · exact lod 0 wA (loads_of strct_ival shp_iv)
    · exact cc1 wA (qO 0 22 rfl) (fresh_is _) (ix1 (fun w => rvalid_t w _ _ hx hy h))
    · exact b_not wA (oO 1 23)
    · exact mO 2 24
    · exact lod 1 (wI 3 25) (loads_of strct_ival shp_iv)
    · exact cc1 (wI 3 25) (qO 4 26 rfl) (fresh_is _) (ix1 (fun w => rvalid_t w _ _ hx1 hy1 h'))
    · exact b_not (wI 3 25) (oO 5 27)
    · exact pF wA (oO 3 25) (oO 6 28)
    · exact mO 7 29
    · exact lod 2 (wI 8 30) (loads_of strct_rat (shp_pr shp_zv shp_zv))
    · exact cc1 (wI 8 30) (qO 9 31 rfl) (fresh_is _) (h_rval b1 b2 (decide_eq_true (sgn_posI gx)))
    · exact b_not (wI 8 30) (oO 10 32)
    · exact pF wA (oO 8 30) (oO 11 33)
    · exact mO 12 34
    · exact lod 3 (wI 13 35) (loads_of strct_rat (shp_pr shp_zv shp_zv))
    · exact cc1 (wI 13 35) (qO 14 36 rfl) (fresh_is _) (h_rval b3 b4 (decide_eq_false (Int.not_lt.2 (sgn_not gy))))
    · exact b_not (wI 13 35) (oO 15 37)
    · exact pF wA (oO 13 35) (oO 16 38)
  intro B3 a3 W3 (S3 : Sta w 141 [(4, (.box 24 (SF [(Is (.float .f64 x)), (Is (.float .f64 y))]))), (5, (.box 24 (SF [(Is (.float .f64 x1)), (Is (.float .f64 y1))]))), (6, (.box 29 (PR (Zv A k1) (Zv D k2)))), (7, (.box 29 (PR (Zv B k3) (Zv E k4))))] [(39, bT)] _ _ _)
  refine wp_cond_true (S3.bool 0 39 rfl) ?_
  refine wp_stmt_seq [kT] [.inr 0, .inr 1] [.inl 0] follows S3 rfl (by kernel_rfl) ?_ ?_
  · refine ⟨trivial, ?_⟩
    · exact mC
  intro B4 a4 W4 (S4 : Sta w 141 [(4, (.box 24 (SF [(Is (.float .f64 x)), (Is (.float .f64 y))]))), (5, (.box 24 (SF [(Is (.float .f64 x1)), (Is (.float .f64 y1))])))] [(8, bT)] _ _ _)
  refine wp_ret ?_
  refine thenR ?_
  exact end_one S4 rfl (res_tmp S4 0 8 rfl)
set_option maxHeartbeats 1000000 in
theorem ivaltrue_ha (w : World) (x y x1 y1 : Nat) (hx : x < 18446744073709551616) (hy : y < 18446744073709551616) (hx1 : x1 < 18446744073709551616) (hy1 : y1 < 18446744073709551616) (h : okI x y = true) (h' : okI x1 y1 = true) (px py qx qy : Int) (hpx : plc x = some px) (hpy : plc y = some py) (hqx : plc x1 = some qx) (hqy : plc y1 = some qy) (A B : Int) (D E k1 k2 k3 k4 : Nat) (r r2 : Value) (hr : Has (fun _ => False) w (Rv A ((D : Nat) : Int) k1 k2) r) (hr2 : Has (fun _ => False) w (Rv B ((E : Nat) : Int) k3 k4) r2) (hD : D ≠ 0) (hE : E ≠ 0) (b1 : k1 ≤ 2097152) (b2 : k2 ≤ 2097152) (b3 : k3 ≤ 2097152) (b4 : k4 ≤ 2097152) (ha : hoB px py A D = false) :
    Calls Tryz.prog 3 #[(.agg #[.float .f64 x, .float .f64 y]), (.agg #[.float .f64 x1, .float .f64 y1]), r, r2] w (Gives (IS (.bool true)) w) := by
  refine calls_sta (sl := [(0, (SF [(Is (.float .f64 x)), (Is (.float .f64 y))])), (1, (SF [(Is (.float .f64 x1)), (Is (.float .f64 y1))])), (2, (PR (Zv A k1) (Zv (((D : Nat) : Int)) k2))), (3, (PR (Zv B k3) (Zv (((E : Nat) : Int)) k4)))]) Tryz.func3 rfl Tryz.ntmps3 (by simp) (args_cons rfl (ix_has) (args_cons rfl (ix_has) (args_cons rfl (hr) (args_cons rfl (hr2) args_nil)))) ?_
  intro a0 S0
  refine wp_stmt_seq [.new (.box 24 (SF [(Is (.float .f64 x)), (Is (.float .f64 y))])), .new (.box 24 (SF [(Is (.float .f64 x1)), (Is (.float .f64 y1))])), .new (.box 29 (PR (Zv A k1) (Zv (((D : Nat) : Int)) k2))), .new (.box 29 (PR (Zv B k3) (Zv (((E : Nat) : Int)) k4))), kF] [.inl 0, .inl 1, .inl 2, .inl 3] [] follows S0 rfl (by kernel_rfl) ?_ ?_
  · refine ⟨⟨⟨⟨⟨trivial, ?_⟩, ?_⟩, ?_⟩, ?_⟩, ?_⟩
    · exact owe_box rfl wA rfl (oS 0 0) rfl (fun ρ w h => box_ival shp_iv ρ _ _ w h)
    · exact owe_box rfl wA rfl (oS 1 1) rfl (fun ρ w h => box_ival shp_iv ρ _ _ w h)
    · exact owe_box rfl wA rfl (oS 2 2) rfl (fun ρ w h => box_rat (shp_pr shp_zv shp_zv) ρ _ _ w h)
    · exact owe_box rfl wA rfl (oS 3 3) rfl (fun ρ w h => box_rat (shp_pr shp_zv shp_zv) ρ _ _ w h)
    · exact mC
  intro B1 a1 W1 (S1 : Sta w 141 [(4, (.box 24 (SF [(Is (.float .f64 x)), (Is (.float .f64 y))]))), (5, (.box 24 (SF [(Is (.float .f64 x1)), (Is (.float .f64 y1))]))), (6, (.box 29 (PR (Zv A k1) (Zv (((D : Nat) : Int)) k2)))), (7, (.box 29 (PR (Zv B k3) (Zv (((E : Nat) : Int)) k4))))] [] _ _ _)
  refine wp_seq ?_
  refine wp_stmt_seq [kT, kF] [.inr 0, .inr 1, .inr 2, .inr 3] [.inl 1] follows S1 rfl (by kernel_rfl) ?_ ?_
  · refine ⟨⟨trivial, ?_⟩, ?_⟩
    · exact owe_call0 rfl wA rfl  (fresh_is _) rfl (fun args w => by go_simp) awake_w
    · exact b_not wA (oO 0 20)
  intro B2 a2 W2 (S2 : Sta w 141 [(4, (.box 24 (SF [(Is (.float .f64 x)), (Is (.float .f64 y))]))), (5, (.box 24 (SF [(Is (.float .f64 x1)), (Is (.float .f64 y1))]))), (6, (.box 29 (PR (Zv A k1) (Zv (((D : Nat) : Int)) k2)))), (7, (.box 29 (PR (Zv B k3) (Zv (((E : Nat) : Int)) k4))))] [(21, bF)] _ _ _)
  refine wp_cond_false (S2.bool 0 21 rfl) ?_
  refine wp_skip ?_
  refine thenN ?_
  refine wp_seq ?_
  refine wp_stmt_seq [.val (SF [(Is (.float .f64 x)), (Is (.float .f64 y))]), kT, kF, kF, .val (SF [(Is (.float .f64 x1)), (Is (.float .f64 y1))]), kT, kF, kF, kF, .val (PR (Zv A k1) (Zv (((D : Nat) : Int)) k2)), kT, kF, kF, kF, .val (PR (Zv B k3) (Zv (((E : Nat) : Int)) k4)), kT, kF, kF] [.inr 0, .inr 1, .inr 2, .inr 3] [.inl 17] follows S2 rfl (by kernel_rfl) ?_ ?_
  · repeat' refine And.intro ?_ ?_
    · trivial
    · exact lod 0 wA (loads_of strct_ival shp_iv)
    · exact cc1 wA (qO 0 22 rfl) (fresh_is _) (ix1 (fun w => rvalid_t w _ _ hx hy h))
    · exact b_not wA (oO 1 23)
    · exact mO 2 24
    · exact lod 1 (wI 3 25) (loads_of strct_ival shp_iv)
    · exact cc1 (wI 3 25) (qO 4 26 rfl) (fresh_is _) (ix1 (fun w => rvalid_t w _ _ hx1 hy1 h'))
    · exact b_not (wI 3 25) (oO 5 27)
    · exact pF wA (oO 3 25) (oO 6 28)
    · exact mO 7 29
    · exact lod 2 (wI 8 30) (loads_of strct_rat (shp_pr shp_zv shp_zv))
    · exact cc1 (wI 8 30) (qO 9 31 rfl) (fresh_is _) (h_rval (Nat.le_trans b1 (by decide)) (Nat.le_trans b2 (by decide)) (decide_eq_true (sgn_pos hD)))
    · exact b_not (wI 8 30) (oO 10 32)
    · exact pF wA (oO 8 30) (oO 11 33)
    · exact mO 12 34
    · exact lod 3 (wI 13 35) (loads_of strct_rat (shp_pr shp_zv shp_zv))
    · exact cc1 (wI 13 35) (qO 14 36 rfl) (fresh_is _) (h_rval (Nat.le_trans b3 (by decide)) (Nat.le_trans b4 (by decide)) (decide_eq_true (sgn_pos hE)))
    · exact b_not (wI 13 35) (oO 15 37)
    · exact pF wA (oO 13 35) (oO 16 38)
  intro B3 a3 W3 (S3 : Sta w 141 [(4, (.box 24 (SF [(Is (.float .f64 x)), (Is (.float .f64 y))]))), (5, (.box 24 (SF [(Is (.float .f64 x1)), (Is (.float .f64 y1))]))), (6, (.box 29 (PR (Zv A k1) (Zv (((D : Nat) : Int)) k2)))), (7, (.box 29 (PR (Zv B k3) (Zv (((E : Nat) : Int)) k4))))] [(39, bF)] _ _ _)
  refine wp_cond_false (S3.bool 0 39 rfl) ?_
  refine wp_skip ?_
  refine thenN ?_
  refine wp_seq ?_
  refine wp_stmt_seq [.val (SF [(Is (.float .f64 x)), (Is (.float .f64 y))]), .val (PR (Zv A k1) (Zv (((D : Nat) : Int)) k2)), kF, kT, kT, .off, .off, .off, .off, kT] [.inr 0, .inr 1, .inr 2, .inr 3] [.inl 9] follows S3 rfl (by kernel_rfl) ?_ ?_
  · repeat' refine And.intro ?_ ?_
    · trivial
    · exact lod 0 wA (loads_of strct_ival shp_iv)
    · exact lod 2 wA (loads_of strct_rat (shp_pr shp_zv shp_zv))
    · exact cc2 wA (qO 0 40 rfl) (qO 1 41 rfl) (fresh_is _) (fun w u0 u1 h0 h1 => Gives.cast ((h_rholds hx hy hpx hpy hD (Nat.le_trans b1 (by decide)) (Nat.le_trans b2 (by decide))) w u0 u1 h0 h1) (by rw [ha]))
    · exact b_not wA (oO 2 42)
    · exact mO 3 43
    · exact oF 4 44
    · exact oF 4 44
    · exact oF 4 44
    · exact oF 4 44
    · exact pT wA (oO 4 44) (opnd_const _)
  intro B4 a4 W4 (S4 : Sta w 141 [(4, (.box 24 (SF [(Is (.float .f64 x)), (Is (.float .f64 y))]))), (5, (.box 24 (SF [(Is (.float .f64 x1)), (Is (.float .f64 y1))]))), (6, (.box 29 (PR (Zv A k1) (Zv (((D : Nat) : Int)) k2)))), (7, (.box 29 (PR (Zv B k3) (Zv (((E : Nat) : Int)) k4))))] [(49, bT)] _ _ _)
  refine wp_cond_true (S4.bool 0 49 rfl) ?_
  refine wp_stmt_seq [kT] [.inr 0, .inr 1] [.inl 0] follows S4 rfl (by kernel_rfl) ?_ ?_
  · refine ⟨trivial, ?_⟩
    · exact mC
  intro B5 a5 W5 (S5 : Sta w 141 [(4, (.box 24 (SF [(Is (.float .f64 x)), (Is (.float .f64 y))]))), (5, (.box 24 (SF [(Is (.float .f64 x1)), (Is (.float .f64 y1))])))] [(8, bT)] _ _ _)
  refine wp_ret ?_
  refine thenR ?_
  exact end_one S5 rfl (res_tmp S5 0 8 rfl)
set_option maxHeartbeats 1000000 in
theorem ivaltrue_hb (w : World) (x y x1 y1 : Nat) (hx : x < 18446744073709551616) (hy : y < 18446744073709551616) (hx1 : x1 < 18446744073709551616) (hy1 : y1 < 18446744073709551616) (h : okI x y = true) (h' : okI x1 y1 = true) (px py qx qy : Int) (hpx : plc x = some px) (hpy : plc y = some py) (hqx : plc x1 = some qx) (hqy : plc y1 = some qy) (A B : Int) (D E k1 k2 k3 k4 : Nat) (r r2 : Value) (hr : Has (fun _ => False) w (Rv A ((D : Nat) : Int) k1 k2) r) (hr2 : Has (fun _ => False) w (Rv B ((E : Nat) : Int) k3 k4) r2) (hD : D ≠ 0) (hE : E ≠ 0) (b1 : k1 ≤ 2097152) (b2 : k2 ≤ 2097152) (b3 : k3 ≤ 2097152) (b4 : k4 ≤ 2097152) (ha : hoB px py A D = true) (hb : hoB qx qy B E = false) :
    Calls Tryz.prog 3 #[(.agg #[.float .f64 x, .float .f64 y]), (.agg #[.float .f64 x1, .float .f64 y1]), r, r2] w (Gives (IS (.bool true)) w) := by
  refine calls_sta (sl := [(0, (SF [(Is (.float .f64 x)), (Is (.float .f64 y))])), (1, (SF [(Is (.float .f64 x1)), (Is (.float .f64 y1))])), (2, (PR (Zv A k1) (Zv (((D : Nat) : Int)) k2))), (3, (PR (Zv B k3) (Zv (((E : Nat) : Int)) k4)))]) Tryz.func3 rfl Tryz.ntmps3 (by simp) (args_cons rfl (ix_has) (args_cons rfl (ix_has) (args_cons rfl (hr) (args_cons rfl (hr2) args_nil)))) ?_
  intro a0 S0
  refine wp_stmt_seq [.new (.box 24 (SF [(Is (.float .f64 x)), (Is (.float .f64 y))])), .new (.box 24 (SF [(Is (.float .f64 x1)), (Is (.float .f64 y1))])), .new (.box 29 (PR (Zv A k1) (Zv (((D : Nat) : Int)) k2))), .new (.box 29 (PR (Zv B k3) (Zv (((E : Nat) : Int)) k4))), kF] [.inl 0, .inl 1, .inl 2, .inl 3] [] follows S0 rfl (by kernel_rfl) ?_ ?_
  · refine ⟨⟨⟨⟨⟨trivial, ?_⟩, ?_⟩, ?_⟩, ?_⟩, ?_⟩
    · exact owe_box rfl wA rfl (oS 0 0) rfl (fun ρ w h => box_ival shp_iv ρ _ _ w h)
    · exact owe_box rfl wA rfl (oS 1 1) rfl (fun ρ w h => box_ival shp_iv ρ _ _ w h)
    · exact owe_box rfl wA rfl (oS 2 2) rfl (fun ρ w h => box_rat (shp_pr shp_zv shp_zv) ρ _ _ w h)
    · exact owe_box rfl wA rfl (oS 3 3) rfl (fun ρ w h => box_rat (shp_pr shp_zv shp_zv) ρ _ _ w h)
    · exact mC
  intro B1 a1 W1 (S1 : Sta w 141 [(4, (.box 24 (SF [(Is (.float .f64 x)), (Is (.float .f64 y))]))), (5, (.box 24 (SF [(Is (.float .f64 x1)), (Is (.float .f64 y1))]))), (6, (.box 29 (PR (Zv A k1) (Zv (((D : Nat) : Int)) k2)))), (7, (.box 29 (PR (Zv B k3) (Zv (((E : Nat) : Int)) k4))))] [] _ _ _)
  refine wp_seq ?_
  refine wp_stmt_seq [kT, kF] [.inr 0, .inr 1, .inr 2, .inr 3] [.inl 1] follows S1 rfl (by kernel_rfl) ?_ ?_
  · refine ⟨⟨trivial, ?_⟩, ?_⟩
    · exact owe_call0 rfl wA rfl  (fresh_is _) rfl (fun args w => by go_simp) awake_w
    · exact b_not wA (oO 0 20)
  intro B2 a2 W2 (S2 : Sta w 141 [(4, (.box 24 (SF [(Is (.float .f64 x)), (Is (.float .f64 y))]))), (5, (.box 24 (SF [(Is (.float .f64 x1)), (Is (.float .f64 y1))]))), (6, (.box 29 (PR (Zv A k1) (Zv (((D : Nat) : Int)) k2)))), (7, (.box 29 (PR (Zv B k3) (Zv (((E : Nat) : Int)) k4))))] [(21, bF)] _ _ _)
  refine wp_cond_false (S2.bool 0 21 rfl) ?_
  refine wp_skip ?_
  refine thenN ?_
  refine wp_seq ?_
  refine wp_stmt_seq [.val (SF [(Is (.float .f64 x)), (Is (.float .f64 y))]), kT, kF, kF, .val (SF [(Is (.float .f64 x1)), (Is (.float .f64 y1))]), kT, kF, kF, kF, .val (PR (Zv A k1) (Zv (((D : Nat) : Int)) k2)), kT, kF, kF, kF, .val (PR (Zv B k3) (Zv (((E : Nat) : Int)) k4)), kT, kF, kF] [.inr 0, .inr 1, .inr 2, .inr 3] [.inl 17] follows S2 rfl (by kernel_rfl) ?_ ?_
  · repeat' refine And.intro ?_ ?_
    · trivial
    · exact lod 0 wA (loads_of strct_ival shp_iv)
    · exact cc1 wA (qO 0 22 rfl) (fresh_is _) (ix1 (fun w => rvalid_t w _ _ hx hy h))
    · exact b_not wA (oO 1 23)
    · exact mO 2 24
    · exact lod 1 (wI 3 25) (loads_of strct_ival shp_iv)
    · exact cc1 (wI 3 25) (qO 4 26 rfl) (fresh_is _) (ix1 (fun w => rvalid_t w _ _ hx1 hy1 h'))
    · exact b_not (wI 3 25) (oO 5 27)
    · exact pF wA (oO 3 25) (oO 6 28)
    · exact mO 7 29
    · exact lod 2 (wI 8 30) (loads_of strct_rat (shp_pr shp_zv shp_zv))
    · exact cc1 (wI 8 30) (qO 9 31 rfl) (fresh_is _) (h_rval (Nat.le_trans b1 (by decide)) (Nat.le_trans b2 (by decide)) (decide_eq_true (sgn_pos hD)))
    · exact b_not (wI 8 30) (oO 10 32)
    · exact pF wA (oO 8 30) (oO 11 33)
    · exact mO 12 34
    · exact lod 3 (wI 13 35) (loads_of strct_rat (shp_pr shp_zv shp_zv))
    · exact cc1 (wI 13 35) (qO 14 36 rfl) (fresh_is _) (h_rval (Nat.le_trans b3 (by decide)) (Nat.le_trans b4 (by decide)) (decide_eq_true (sgn_pos hE)))
    · exact b_not (wI 13 35) (oO 15 37)
    · exact pF wA (oO 13 35) (oO 16 38)
  intro B3 a3 W3 (S3 : Sta w 141 [(4, (.box 24 (SF [(Is (.float .f64 x)), (Is (.float .f64 y))]))), (5, (.box 24 (SF [(Is (.float .f64 x1)), (Is (.float .f64 y1))]))), (6, (.box 29 (PR (Zv A k1) (Zv (((D : Nat) : Int)) k2)))), (7, (.box 29 (PR (Zv B k3) (Zv (((E : Nat) : Int)) k4))))] [(39, bF)] _ _ _)
  refine wp_cond_false (S3.bool 0 39 rfl) ?_
  refine wp_skip ?_
  refine thenN ?_
  refine wp_seq ?_
  refine wp_stmt_seq [.val (SF [(Is (.float .f64 x)), (Is (.float .f64 y))]), .val (PR (Zv A k1) (Zv (((D : Nat) : Int)) k2)), kT, kF, kF, .val (SF [(Is (.float .f64 x1)), (Is (.float .f64 y1))]), .val (PR (Zv B k3) (Zv (((E : Nat) : Int)) k4)), kF, kT, kT] [.inr 0, .inr 1, .inr 2, .inr 3] [.inl 9] follows S3 rfl (by kernel_rfl) ?_ ?_
  · repeat' refine And.intro ?_ ?_
    · trivial
    · exact lod 0 wA (loads_of strct_ival shp_iv)
    · exact lod 2 wA (loads_of strct_rat (shp_pr shp_zv shp_zv))
    · exact cc2 wA (qO 0 40 rfl) (qO 1 41 rfl) (fresh_is _) (fun w u0 u1 h0 h1 => Gives.cast ((h_rholds hx hy hpx hpy hD (Nat.le_trans b1 (by decide)) (Nat.le_trans b2 (by decide))) w u0 u1 h0 h1) (by rw [ha]))
    · exact b_not wA (oO 2 42)
    · exact mO 3 43
    · exact lod 1 (wI 4 44) (loads_of strct_ival shp_iv)
    · exact lod 3 (wI 4 44) (loads_of strct_rat (shp_pr shp_zv shp_zv))
    · exact cc2 (wI 4 44) (qO 5 45 rfl) (qO 6 46 rfl) (fresh_is _) (fun w u0 u1 h0 h1 => Gives.cast ((h_rholds hx1 hy1 hqx hqy hE (Nat.le_trans b3 (by decide)) (Nat.le_trans b4 (by decide))) w u0 u1 h0 h1) (by rw [hb]))
    · exact b_not (wI 4 44) (oO 7 47)
    · exact pF wA (oO 4 44) (oO 8 48)
  intro B4 a4 W4 (S4 : Sta w 141 [(4, (.box 24 (SF [(Is (.float .f64 x)), (Is (.float .f64 y))]))), (5, (.box 24 (SF [(Is (.float .f64 x1)), (Is (.float .f64 y1))]))), (6, (.box 29 (PR (Zv A k1) (Zv (((D : Nat) : Int)) k2)))), (7, (.box 29 (PR (Zv B k3) (Zv (((E : Nat) : Int)) k4))))] [(49, bT)] _ _ _)
  refine wp_cond_true (S4.bool 0 49 rfl) ?_
  refine wp_stmt_seq [kT] [.inr 0, .inr 1] [.inl 0] follows S4 rfl (by kernel_rfl) ?_ ?_
  · refine ⟨trivial, ?_⟩
    · exact mC
  intro B5 a5 W5 (S5 : Sta w 141 [(4, (.box 24 (SF [(Is (.float .f64 x)), (Is (.float .f64 y))]))), (5, (.box 24 (SF [(Is (.float .f64 x1)), (Is (.float .f64 y1))])))] [(8, bT)] _ _ _)
  refine wp_ret ?_
  refine thenR ?_
  exact end_one S5 rfl (res_tmp S5 0 8 rfl)
set_option maxHeartbeats 4000000 in
theorem ivaltrue_ok (w : World) (x y x1 y1 : Nat) (hx : x < 18446744073709551616) (hy : y < 18446744073709551616) (hx1 : x1 < 18446744073709551616) (hy1 : y1 < 18446744073709551616) (h : okI x y = true) (h' : okI x1 y1 = true) (px py qx qy : Int) (hpx : plc x = some px) (hpy : plc y = some py) (hqx : plc x1 = some qx) (hqy : plc y1 = some qy) (A B : Int) (D E k1 k2 k3 k4 : Nat) (r r2 : Value) (hr : Has (fun _ => False) w (Rv A ((D : Nat) : Int) k1 k2) r) (hr2 : Has (fun _ => False) w (Rv B ((E : Nat) : Int) k3 k4) r2) (hD : D ≠ 0) (hE : E ≠ 0) (b1 : k1 ≤ 2097152) (b2 : k2 ≤ 2097152) (b3 : k3 ≤ 2097152) (b4 : k4 ≤ 2097152) (ha : hoB px py A D = true) (hb : hoB qx qy B E = true) (p0 p1 p2 p3 : Int) (h0 : tmP x x1 = some p0) (h1 : tmP x y1 = some p1) (h2 : tmP y x1 = some p2) (h3 : tmP y y1 = some p3) (s0 s1 : Int) (k0 : tmP x x = some s0) (k1' : tmP y y = some s1) (N1 : Int) (D1 : Nat) (L1 U1 : Int) (c1 : ∀ w u v, Rv A ((D : Nat) : Int) k1 k2 u w → Rv B ((E : Nat) : Int) k3 k4 v w → Calls Tryz.prog 13 #[u, v] w (Gives (RN N1 D1) w)) (l1 : loP (arP .add x x1) = some L1) (u1 : hiP (arP .add y y1) = some U1) (z1 : D1 ≠ 0) (n1 : (digs N1.natAbs).length ≤ 8388608) (m1 : (digs D1).length ≤ 8388608) (t1 : hoB L1 U1 N1 D1 = true) (N2 : Int) (D2 : Nat) (L2 U2 : Int) (c2 : ∀ w u v, Rv A ((D : Nat) : Int) k1 k2 u w → Rv B ((E : Nat) : Int) k3 k4 v w → Calls Tryz.prog 14 #[u, v] w (Gives (RN N2 D2) w)) (l2 : loP (arP .sub x y1) = some L2) (u2 : hiP (arP .sub y x1) = some U2) (z2 : D2 ≠ 0) (n2 : (digs N2.natAbs).length ≤ 8388608) (m2 : (digs D2).length ≤ 8388608) (t2 : hoB L2 U2 N2 D2 = true) (N3 : Int) (D3 : Nat) (L3 U3 : Int) (c3 : ∀ w u v, Rv A ((D : Nat) : Int) k1 k2 u w → Rv B ((E : Nat) : Int) k3 k4 v w → Calls Tryz.prog 15 #[u, v] w (Gives (RN N3 D3) w)) (l3 : loP (some (mnP (q4 p0 p1 p2 p3) 3)) = some L3) (u3 : hiP (some (mxP (q4 p0 p1 p2 p3) 3)) = some U3) (z3 : D3 ≠ 0) (n3 : (digs N3.natAbs).length ≤ 8388608) (m3 : (digs D3).length ≤ 8388608) (t3 : hoB L3 U3 N3 D3 = true) (N4 : Int) (D4 : Nat) (L4 U4 : Int) (c4 : ∀ w u v, Rv A ((D : Nat) : Int) k1 k2 u w → Rv A ((D : Nat) : Int) k1 k2 v w → Calls Tryz.prog 15 #[u, v] w (Gives (RN N4 D4) w)) (l4 : sqL px py s0 s1 = some L4) (u4 : sqH s0 s1 = some U4) (z4 : D4 ≠ 0) (n4 : (digs N4.natAbs).length ≤ 8388608) (m4 : (digs D4).length ≤ 8388608) (t4 : hoB L4 U4 N4 D4 = true) (sB : Bool) (hS : cmS px py qx qy = sB) (hc : sB = true → cmN px py qx qy = (A * ((E : Nat) : Int) - B * ((D : Nat) : Int)).sign) (h40 : 0 ≤ L4) :
    Calls Tryz.prog 3 #[(.agg #[.float .f64 x, .float .f64 y]), (.agg #[.float .f64 x1, .float .f64 y1]), r, r2] w (Gives (IS (.bool true)) w) := by
  refine calls_sta (sl := [(0, (SF [(Is (.float .f64 x)), (Is (.float .f64 y))])), (1, (SF [(Is (.float .f64 x1)), (Is (.float .f64 y1))])), (2, (PR (Zv A k1) (Zv (((D : Nat) : Int)) k2))), (3, (PR (Zv B k3) (Zv (((E : Nat) : Int)) k4)))]) Tryz.func3 rfl Tryz.ntmps3 (by simp) (args_cons rfl (ix_has) (args_cons rfl (ix_has) (args_cons rfl (hr) (args_cons rfl (hr2) args_nil)))) ?_
  intro a0 S0
  refine wp_stmt_seq [.new (.box 24 (SF [(Is (.float .f64 x)), (Is (.float .f64 y))])), .new (.box 24 (SF [(Is (.float .f64 x1)), (Is (.float .f64 y1))])), .new (.box 29 (PR (Zv A k1) (Zv (((D : Nat) : Int)) k2))), .new (.box 29 (PR (Zv B k3) (Zv (((E : Nat) : Int)) k4))), kF] [.inl 0, .inl 1, .inl 2, .inl 3] [] follows S0 rfl (by kernel_rfl) ?_ ?_
  · refine ⟨⟨⟨⟨⟨trivial, ?_⟩, ?_⟩, ?_⟩, ?_⟩, ?_⟩
    · exact owe_box rfl wA rfl (oS 0 0) rfl (fun ρ w h => box_ival shp_iv ρ _ _ w h)
    · exact owe_box rfl wA rfl (oS 1 1) rfl (fun ρ w h => box_ival shp_iv ρ _ _ w h)
    · exact owe_box rfl wA rfl (oS 2 2) rfl (fun ρ w h => box_rat (shp_pr shp_zv shp_zv) ρ _ _ w h)
    · exact owe_box rfl wA rfl (oS 3 3) rfl (fun ρ w h => box_rat (shp_pr shp_zv shp_zv) ρ _ _ w h)
    · exact mC
  intro B1 a1 W1 (S1 : Sta w 141 [(4, (.box 24 (SF [(Is (.float .f64 x)), (Is (.float .f64 y))]))), (5, (.box 24 (SF [(Is (.float .f64 x1)), (Is (.float .f64 y1))]))), (6, (.box 29 (PR (Zv A k1) (Zv (((D : Nat) : Int)) k2)))), (7, (.box 29 (PR (Zv B k3) (Zv (((E : Nat) : Int)) k4))))] [] _ _ _)
  refine wp_seq ?_
  refine wp_stmt_seq [kT, kF] [.inr 0, .inr 1, .inr 2, .inr 3] [.inl 1] follows S1 rfl (by kernel_rfl) ?_ ?_
  · refine ⟨⟨trivial, ?_⟩, ?_⟩
    · exact owe_call0 rfl wA rfl  (fresh_is _) rfl (fun args w => by go_simp) awake_w
    · exact b_not wA (oO 0 20)
  intro B2 a2 W2 (S2 : Sta w 141 [(4, (.box 24 (SF [(Is (.float .f64 x)), (Is (.float .f64 y))]))), (5, (.box 24 (SF [(Is (.float .f64 x1)), (Is (.float .f64 y1))]))), (6, (.box 29 (PR (Zv A k1) (Zv (((D : Nat) : Int)) k2)))), (7, (.box 29 (PR (Zv B k3) (Zv (((E : Nat) : Int)) k4))))] [(21, bF)] _ _ _)
  refine wp_cond_false (S2.bool 0 21 rfl) ?_
  refine wp_skip ?_
  refine thenN ?_
  refine wp_seq ?_
  refine wp_stmt_seq [.val (SF [(Is (.float .f64 x)), (Is (.float .f64 y))]), kT, kF, kF, .val (SF [(Is (.float .f64 x1)), (Is (.float .f64 y1))]), kT, kF, kF, kF, .val (PR (Zv A k1) (Zv (((D : Nat) : Int)) k2)), kT, kF, kF, kF, .val (PR (Zv B k3) (Zv (((E : Nat) : Int)) k4)), kT, kF, kF] [.inr 0, .inr 1, .inr 2, .inr 3] [.inl 17] follows S2 rfl (by kernel_rfl) ?_ ?_
  · repeat' refine And.intro ?_ ?_
    · trivial
    · exact lod 0 wA (loads_of strct_ival shp_iv)
    · exact cc1 wA (qO 0 22 rfl) (fresh_is _) (ix1 (fun w => rvalid_t w _ _ hx hy h))
    · exact b_not wA (oO 1 23)
    · exact mO 2 24
    · exact lod 1 (wI 3 25) (loads_of strct_ival shp_iv)
    · exact cc1 (wI 3 25) (qO 4 26 rfl) (fresh_is _) (ix1 (fun w => rvalid_t w _ _ hx1 hy1 h'))
    · exact b_not (wI 3 25) (oO 5 27)
    · exact pF wA (oO 3 25) (oO 6 28)
    · exact mO 7 29
    · exact lod 2 (wI 8 30) (loads_of strct_rat (shp_pr shp_zv shp_zv))
    · exact cc1 (wI 8 30) (qO 9 31 rfl) (fresh_is _) (h_rval (Nat.le_trans b1 (by decide)) (Nat.le_trans b2 (by decide)) (decide_eq_true (sgn_pos hD)))
    · exact b_not (wI 8 30) (oO 10 32)
    · exact pF wA (oO 8 30) (oO 11 33)
    · exact mO 12 34
    · exact lod 3 (wI 13 35) (loads_of strct_rat (shp_pr shp_zv shp_zv))
    · exact cc1 (wI 13 35) (qO 14 36 rfl) (fresh_is _) (h_rval (Nat.le_trans b3 (by decide)) (Nat.le_trans b4 (by decide)) (decide_eq_true (sgn_pos hE)))
    · exact b_not (wI 13 35) (oO 15 37)
    · exact pF wA (oO 13 35) (oO 16 38)
  intro B3 a3 W3 (S3 : Sta w 141 [(4, (.box 24 (SF [(Is (.float .f64 x)), (Is (.float .f64 y))]))), (5, (.box 24 (SF [(Is (.float .f64 x1)), (Is (.float .f64 y1))]))), (6, (.box 29 (PR (Zv A k1) (Zv (((D : Nat) : Int)) k2)))), (7, (.box 29 (PR (Zv B k3) (Zv (((E : Nat) : Int)) k4))))] [(39, bF)] _ _ _)
  refine wp_cond_false (S3.bool 0 39 rfl) ?_
  refine wp_skip ?_
  refine thenN ?_
  refine wp_seq ?_
  refine wp_stmt_seq [.val (SF [(Is (.float .f64 x)), (Is (.float .f64 y))]), .val (PR (Zv A k1) (Zv (((D : Nat) : Int)) k2)), kT, kF, kF, .val (SF [(Is (.float .f64 x1)), (Is (.float .f64 y1))]), .val (PR (Zv B k3) (Zv (((E : Nat) : Int)) k4)), kT, kF, kF] [.inr 0, .inr 1, .inr 2, .inr 3] [.inl 9] follows S3 rfl (by kernel_rfl) ?_ ?_
  · repeat' refine And.intro ?_ ?_
    · trivial
    · exact lod 0 wA (loads_of strct_ival shp_iv)
    · exact lod 2 wA (loads_of strct_rat (shp_pr shp_zv shp_zv))
    · exact cc2 wA (qO 0 40 rfl) (qO 1 41 rfl) (fresh_is _) (fun w u0 u1 h0 h1 => Gives.cast ((h_rholds hx hy hpx hpy hD (Nat.le_trans b1 (by decide)) (Nat.le_trans b2 (by decide))) w u0 u1 h0 h1) (by rw [ha]))
    · exact b_not wA (oO 2 42)
    · exact mO 3 43
    · exact lod 1 (wI 4 44) (loads_of strct_ival shp_iv)
    · exact lod 3 (wI 4 44) (loads_of strct_rat (shp_pr shp_zv shp_zv))
    · exact cc2 (wI 4 44) (qO 5 45 rfl) (qO 6 46 rfl) (fresh_is _) (fun w u0 u1 h0 h1 => Gives.cast ((h_rholds hx1 hy1 hqx hqy hE (Nat.le_trans b3 (by decide)) (Nat.le_trans b4 (by decide))) w u0 u1 h0 h1) (by rw [hb]))
    · exact b_not (wI 4 44) (oO 7 47)
    · exact pF wA (oO 4 44) (oO 8 48)
  intro B4 a4 W4 (S4 : Sta w 141 [(4, (.box 24 (SF [(Is (.float .f64 x)), (Is (.float .f64 y))]))), (5, (.box 24 (SF [(Is (.float .f64 x1)), (Is (.float .f64 y1))]))), (6, (.box 29 (PR (Zv A k1) (Zv (((D : Nat) : Int)) k2)))), (7, (.box 29 (PR (Zv B k3) (Zv (((E : Nat) : Int)) k4))))] [(49, bF)] _ _ _)
  refine wp_cond_false (S4.bool 0 49 rfl) ?_
  refine wp_skip ?_
  refine thenN ?_
  refine wp_stmt_seq [.val (SF [(Is (.float .f64 x)), (Is (.float .f64 y))]), .val (SF [(Is (.float .f64 x1)), (Is (.float .f64 y1))]), .val ((TWO (IVN (loP (arP .add x x1)) (hiP (arP .add y y1))) (IS (.int .i64 0))) w.heap.size), .val ((TWO (IVN (loP (arP .add x x1)) (hiP (arP .add y y1))) (IS (.int .i64 0))) w.heap.size), .val (SF [(FL (loP (arP .add x x1))), (FL (hiP (arP .add y y1)))]), .val (iV 0), .new (.box 24 (Is (.agg #[.float .f64 0, .float .f64 0]))), .put (.inr 6) (.box 24 (SF [(FL (loP (arP .add x x1))), (FL (hiP (arP .add y y1)))])), .val (iV 0)] [.inr 0, .inr 1, .inr 2, .inr 3, .inl 6] [.inl 8] follows S4 rfl (by kernel_rfl) ?_ ?_
  · repeat' refine And.intro ?_ ?_
    · trivial
    · exact lod 0 wA (loads_of strct_ival shp_iv)
    · exact lod 1 wA (loads_of strct_ival shp_iv)
    · exact cc2 wA (qO 0 51 rfl) (qO 1 52 rfl) (fresh_two (fresh_iv _ _) (fresh_is _)) (ix2 (fun w => add_tt w x y x1 y1 hx hy hx1 hy1 h h'))
    · exact mO 2 53
    · exact e20 wA (oO 3 50)
    · exact e21 wA (oO 3 50)
    · exact owe_new rfl wA rfl rfl (fun ρ w => alloc_ival ρ _ w)
    · exact owe_put 6 rfl wA rfl (by kernel_rfl) rfl (oO 4 54) (stores_of strct_ival shp_i0 shp_iv) rfl
    · exact mO 5 55
  intro B5 a5 W5 (S5 : Sta w 141 [(4, (.box 24 (SF [(Is (.float .f64 x)), (Is (.float .f64 y))]))), (5, (.box 24 (SF [(Is (.float .f64 x1)), (Is (.float .f64 y1))]))), (6, (.box 29 (PR (Zv A k1) (Zv (((D : Nat) : Int)) k2)))), (7, (.box 29 (PR (Zv B k3) (Zv (((E : Nat) : Int)) k4)))), (9, (.box 24 (SF [(FL (loP (arP .add x x1))), (FL (hiP (arP .add y y1)))])))] [(10, iV 0)] _ _ _)
  refine wp_stmt_seq [.val (SF [(Is (.float .f64 x)), (Is (.float .f64 y))]), .val (SF [(Is (.float .f64 x1)), (Is (.float .f64 y1))]), .val ((TWO (IVN (loP (arP .sub x y1)) (hiP (arP .sub y x1))) (IS (.int .i64 0))) w.heap.size), .val ((TWO (IVN (loP (arP .sub x y1)) (hiP (arP .sub y x1))) (IS (.int .i64 0))) w.heap.size), .val (SF [(FL (loP (arP .sub x y1))), (FL (hiP (arP .sub y x1)))]), .val (iV 0), .new (.box 24 (Is (.agg #[.float .f64 0, .float .f64 0]))), .put (.inr 6) (.box 24 (SF [(FL (loP (arP .sub x y1))), (FL (hiP (arP .sub y x1)))])), .val (iV 0)] [.inr 0, .inr 1, .inr 2, .inr 3, .inr 4, .inl 6] [.inl 8, .inr 0] follows S5 rfl (by kernel_rfl) ?_ ?_
  · repeat' refine And.intro ?_ ?_
    · trivial
    · exact lod 0 wA (loads_of strct_ival shp_iv)
    · exact lod 1 wA (loads_of strct_ival shp_iv)
    · exact cc2 wA (qO 0 57 rfl) (qO 1 58 rfl) (fresh_two (fresh_iv _ _) (fresh_is _)) (ix2 (fun w => sub_tt w x y x1 y1 hx hy hx1 hy1 h h'))
    · exact mO 2 59
    · exact e20 wA (oO 3 56)
    · exact e21 wA (oO 3 56)
    · exact owe_new rfl wA rfl rfl (fun ρ w => alloc_ival ρ _ w)
    · exact owe_put 6 rfl wA rfl (by kernel_rfl) rfl (oO 4 60) (stores_of strct_ival shp_i0 shp_iv) rfl
    · exact mO 5 61
  intro B6 a6 W6 (S6 : Sta w 141 [(4, (.box 24 (SF [(Is (.float .f64 x)), (Is (.float .f64 y))]))), (5, (.box 24 (SF [(Is (.float .f64 x1)), (Is (.float .f64 y1))]))), (6, (.box 29 (PR (Zv A k1) (Zv (((D : Nat) : Int)) k2)))), (7, (.box 29 (PR (Zv B k3) (Zv (((E : Nat) : Int)) k4)))), (9, (.box 24 (SF [(FL (loP (arP .add x x1))), (FL (hiP (arP .add y y1)))]))), (11, (.box 24 (SF [(FL (loP (arP .sub x y1))), (FL (hiP (arP .sub y x1)))])))] [(12, iV 0), (10, iV 0)] _ _ _)
  refine wp_stmt_seq [.val (SF [(Is (.float .f64 x)), (Is (.float .f64 y))]), .val (SF [(Is (.float .f64 x1)), (Is (.float .f64 y1))]), .val ((TWO (IVN (loP (some (mnP (q4 p0 p1 p2 p3) 3))) (hiP (some (mxP (q4 p0 p1 p2 p3) 3)))) (IS (.int .i64 0))) w.heap.size), .val ((TWO (IVN (loP (some (mnP (q4 p0 p1 p2 p3) 3))) (hiP (some (mxP (q4 p0 p1 p2 p3) 3)))) (IS (.int .i64 0))) w.heap.size), .val (SF [(FL (loP (some (mnP (q4 p0 p1 p2 p3) 3)))), (FL (hiP (some (mxP (q4 p0 p1 p2 p3) 3))))]), .val (iV 0), .new (.box 24 (Is (.agg #[.float .f64 0, .float .f64 0]))), .put (.inr 6) (.box 24 (SF [(FL (loP (some (mnP (q4 p0 p1 p2 p3) 3)))), (FL (hiP (some (mxP (q4 p0 p1 p2 p3) 3))))])), .val (iV 0)] [.inr 0, .inr 1, .inr 2, .inr 3, .inr 4, .inr 5, .inl 6] [.inl 8, .inr 0, .inr 1] follows S6 rfl (by kernel_rfl) ?_ ?_
  · repeat' refine And.intro ?_ ?_
    · trivial
    · exact lod 0 wA (loads_of strct_ival shp_iv)
    · exact lod 1 wA (loads_of strct_ival shp_iv)
    · exact cc2 wA (qO 0 63 rfl) (qO 1 64 rfl) (fresh_two (fresh_iv _ _) (fresh_is _)) (ix2 (fun w => mul_tt w x y x1 y1 hx hy hx1 hy1 h h' p0 p1 p2 p3 h0 h1 h2 h3))
    · exact mO 2 65
    · exact e20 wA (oO 3 62)
    · exact e21 wA (oO 3 62)
    · exact owe_new rfl wA rfl rfl (fun ρ w => alloc_ival ρ _ w)
    · exact owe_put 6 rfl wA rfl (by kernel_rfl) rfl (oO 4 66) (stores_of strct_ival shp_i0 shp_iv) rfl
    · exact mO 5 67
  intro B7 a7 W7 (S7 : Sta w 141 [(4, (.box 24 (SF [(Is (.float .f64 x)), (Is (.float .f64 y))]))), (5, (.box 24 (SF [(Is (.float .f64 x1)), (Is (.float .f64 y1))]))), (6, (.box 29 (PR (Zv A k1) (Zv (((D : Nat) : Int)) k2)))), (7, (.box 29 (PR (Zv B k3) (Zv (((E : Nat) : Int)) k4)))), (9, (.box 24 (SF [(FL (loP (arP .add x x1))), (FL (hiP (arP .add y y1)))]))), (11, (.box 24 (SF [(FL (loP (arP .sub x y1))), (FL (hiP (arP .sub y x1)))]))), (13, (.box 24 (SF [(FL (loP (some (mnP (q4 p0 p1 p2 p3) 3)))), (FL (hiP (some (mxP (q4 p0 p1 p2 p3) 3))))])))] [(14, iV 0), (12, iV 0), (10, iV 0)] _ _ _)
  refine wp_stmt_seq [.val (SF [(Is (.float .f64 x)), (Is (.float .f64 y))]), .val ((TWO (IVN (sqL px py s0 s1) (sqH s0 s1)) (IS (.int .i64 0))) w.heap.size), .val ((TWO (IVN (sqL px py s0 s1) (sqH s0 s1)) (IS (.int .i64 0))) w.heap.size), .val (SF [(FL (sqL px py s0 s1)), (FL (sqH s0 s1))]), .val (iV 0), .new (.box 24 (Is (.agg #[.float .f64 0, .float .f64 0]))), .put (.inr 5) (.box 24 (SF [(FL (sqL px py s0 s1)), (FL (sqH s0 s1))])), .val (iV 0)] [.inr 0, .inr 1, .inr 2, .inr 3, .inr 4, .inr 5, .inr 6, .inl 5] [.inl 7, .inr 0, .inr 1, .inr 2] follows S7 rfl (by kernel_rfl) ?_ ?_
  · repeat' refine And.intro ?_ ?_
    · trivial
    · exact lod 0 wA (loads_of strct_ival shp_iv)
    · exact cc1 wA (qO 0 69 rfl) (fresh_two (fresh_iv _ _) (fresh_is _)) (ix1 (fun w => sqr_w w x y hx hy h px py s0 s1 hpx hpy k0 k1'))
    · exact mO 1 70
    · exact e20 wA (oO 2 68)
    · exact e21 wA (oO 2 68)
    · exact owe_new rfl wA rfl rfl (fun ρ w => alloc_ival ρ _ w)
    · exact owe_put 5 rfl wA rfl (by kernel_rfl) rfl (oO 3 71) (stores_of strct_ival shp_i0 shp_iv) rfl
    · exact mO 4 72
  intro B8 a8 W8 (S8 : Sta w 141 [(4, (.box 24 (SF [(Is (.float .f64 x)), (Is (.float .f64 y))]))), (5, (.box 24 (SF [(Is (.float .f64 x1)), (Is (.float .f64 y1))]))), (6, (.box 29 (PR (Zv A k1) (Zv (((D : Nat) : Int)) k2)))), (7, (.box 29 (PR (Zv B k3) (Zv (((E : Nat) : Int)) k4)))), (9, (.box 24 (SF [(FL (loP (arP .add x x1))), (FL (hiP (arP .add y y1)))]))), (11, (.box 24 (SF [(FL (loP (arP .sub x y1))), (FL (hiP (arP .sub y x1)))]))), (13, (.box 24 (SF [(FL (loP (some (mnP (q4 p0 p1 p2 p3) 3)))), (FL (hiP (some (mxP (q4 p0 p1 p2 p3) 3))))]))), (15, (.box 24 (SF [(FL (sqL px py s0 s1)), (FL (sqH s0 s1))])))] [(16, iV 0), (14, iV 0), (12, iV 0), (10, iV 0)] _ _ _)
  refine wp_stmt_seq [.val (SF [(Is (.float .f64 x)), (Is (.float .f64 y))]), .val (SF [(Is (.float .f64 x1)), (Is (.float .f64 y1))]), .val ((THREE (IS (.int .i64 (cmN px py qx qy))) (IS (.bool sB)) (IS (.int .i64 0))) w.heap.size), .val ((THREE (IS (.int .i64 (cmN px py qx qy))) (IS (.bool sB)) (IS (.int .i64 0))) w.heap.size), .val (iV (cmN px py qx qy)), .val (Is (.bool sB)), .val (iV 0), .val (iV (cmN px py qx qy)), .val (Is (.bool sB)), .val (iV 0)] [.inr 0, .inr 1, .inr 2, .inr 3, .inr 4, .inr 5, .inr 6, .inr 7] [.inl 7, .inl 8, .inl 9, .inr 0, .inr 1, .inr 2, .inr 3] follows S8 rfl (by kernel_rfl) ?_ ?_
  · repeat' refine And.intro ?_ ?_
    · trivial
    · exact lod 0 wA (loads_of strct_ival shp_iv)
    · exact lod 1 wA (loads_of strct_ival shp_iv)
    · exact cc2 wA (qO 0 74 rfl) (qO 1 75 rfl) (fresh_three (fresh_is _) (fresh_is _) (fresh_is _)) (fun w u0 u1 h0 h1 => Gives.cast ((ix2 (fun w => icmp_tt w x y x1 y1 hx hy hx1 hy1 h h' px py qx qy hpx hpy hqx hqy)) w u0 u1 h0 h1) (by rw [hS]))
    · exact mO 2 76
    · exact e30 wA (oO 3 73)
    · exact e31 wA (oO 3 73)
    · exact e32 wA (oO 3 73)
    · exact mO 4 77
    · exact mO 5 78
    · exact mO 6 79
  intro B9 a9 W9 (S9 : Sta w 141 [(4, (.box 24 (SF [(Is (.float .f64 x)), (Is (.float .f64 y))]))), (5, (.box 24 (SF [(Is (.float .f64 x1)), (Is (.float .f64 y1))]))), (6, (.box 29 (PR (Zv A k1) (Zv (((D : Nat) : Int)) k2)))), (7, (.box 29 (PR (Zv B k3) (Zv (((E : Nat) : Int)) k4)))), (9, (.box 24 (SF [(FL (loP (arP .add x x1))), (FL (hiP (arP .add y y1)))]))), (11, (.box 24 (SF [(FL (loP (arP .sub x y1))), (FL (hiP (arP .sub y x1)))]))), (13, (.box 24 (SF [(FL (loP (some (mnP (q4 p0 p1 p2 p3) 3)))), (FL (hiP (some (mxP (q4 p0 p1 p2 p3) 3))))]))), (15, (.box 24 (SF [(FL (sqL px py s0 s1)), (FL (sqH s0 s1))])))] [(17, iV (cmN px py qx qy)), (18, Is (.bool sB)), (19, iV 0), (16, iV 0), (14, iV 0), (12, iV 0), (10, iV 0)] _ _ _)
  refine wp_seq ?_
  refine wp_stmt_seq [.val (iV 0), kF, kF, .val (iV 0), kF, kF, kF, .val (iV 0), kF, kF, kF, .val (iV 0), kF, kF, kF, .val (iV 0), kF, kF] [.inr 0, .inr 1, .inr 2, .inr 3, .inr 4, .inr 5, .inr 6, .inr 7] [.inl 17, .inr 0, .inr 1] follows S9 rfl (by kernel_rfl) ?_ ?_
  · repeat' refine And.intro ?_ ?_
    · trivial
    · exact mS 6 10
    · exact b_neq_errno_f wA (oO 0 80) (opnd_const _) (h := rfl)
    · exact mO 1 81
    · exact mW (wI 2 82) (oS 5 12)
    · exact b_neq_errno_f (wI 2 82) (oO 3 83) (opnd_const _) (h := rfl)
    · exact pF wA (oO 2 82) (oO 4 84)
    · exact mO 5 85
    · exact mW (wI 6 86) (oS 4 14)
    · exact b_neq_errno_f (wI 6 86) (oO 7 87) (opnd_const _) (h := rfl)
    · exact pF wA (oO 6 86) (oO 8 88)
    · exact mO 9 89
    · exact mW (wI 10 90) (oS 3 16)
    · exact b_neq_errno_f (wI 10 90) (oO 11 91) (opnd_const _) (h := rfl)
    · exact pF wA (oO 10 90) (oO 12 92)
    · exact mO 13 93
    · exact mW (wI 14 94) (oS 2 19)
    · exact b_neq_errno_f (wI 14 94) (oO 15 95) (opnd_const _) (h := rfl)
    · exact pF wA (oO 14 94) (oO 16 96)
  intro B10 a10 W10 (S10 : Sta w 141 [(4, (.box 24 (SF [(Is (.float .f64 x)), (Is (.float .f64 y))]))), (5, (.box 24 (SF [(Is (.float .f64 x1)), (Is (.float .f64 y1))]))), (6, (.box 29 (PR (Zv A k1) (Zv (((D : Nat) : Int)) k2)))), (7, (.box 29 (PR (Zv B k3) (Zv (((E : Nat) : Int)) k4)))), (9, (.box 24 (SF [(FL (loP (arP .add x x1))), (FL (hiP (arP .add y y1)))]))), (11, (.box 24 (SF [(FL (loP (arP .sub x y1))), (FL (hiP (arP .sub y x1)))]))), (13, (.box 24 (SF [(FL (loP (some (mnP (q4 p0 p1 p2 p3) 3)))), (FL (hiP (some (mxP (q4 p0 p1 p2 p3) 3))))]))), (15, (.box 24 (SF [(FL (sqL px py s0 s1)), (FL (sqH s0 s1))])))] [(97, bF), (17, iV (cmN px py qx qy)), (18, Is (.bool sB))] _ _ _)
  refine wp_cond_false (S10.bool 0 97 rfl) ?_
  refine wp_skip ?_
  refine thenN ?_
  refine wp_seq ?_
  refine wp_stmt_seq [.val (SF [(FL (loP (arP .add x x1))), (FL (hiP (arP .add y y1)))]), .val (PR (Zv A k1) (Zv (((D : Nat) : Int)) k2)), .val (PR (Zv B k3) (Zv (((E : Nat) : Int)) k4)), .val ((RN N1 D1) w.heap.size), kT, kF, kF, .val (SF [(FL (loP (arP .sub x y1))), (FL (hiP (arP .sub y x1)))]), .val (PR (Zv A k1) (Zv (((D : Nat) : Int)) k2)), .val (PR (Zv B k3) (Zv (((E : Nat) : Int)) k4)), .val ((RN N2 D2) w.heap.size), kT, kF, kF] [.inr 0, .inr 1, .inr 2, .inr 3, .inr 4, .inr 5, .inr 6, .inr 7] [.inl 13, .inr 1, .inr 2] follows S10 rfl (by kernel_rfl) ?_ ?_
  · repeat' refine And.intro ?_ ?_
    · trivial
    · exact lod 4 wA (loads_of strct_ival shp_iv)
    · exact lod 2 wA (loads_of strct_rat (shp_pr shp_zv shp_zv))
    · exact lod 3 wA (loads_of strct_rat (shp_pr shp_zv shp_zv))
    · exact cc2 wA (qO 1 99 rfl) (qO 2 100 rfl) (fresh_rn _ _) c1
    · exact cc2 wA (qO 0 98 rfl) (qO 3 101 rfl) (fresh_is _) (fun w u v g1 g2 => h_rholdsF l1 u1 z1 (Nat.le_refl _) (Nat.le_refl _) t1 w u v g1 ((rn_rv n1 m1) _ _ g2))
    · exact b_not wA (oO 4 102)
    · exact mO 5 103
    · exact lod 5 (wI 6 104) (loads_of strct_ival shp_iv)
    · exact lod 2 (wI 6 104) (loads_of strct_rat (shp_pr shp_zv shp_zv))
    · exact lod 3 (wI 6 104) (loads_of strct_rat (shp_pr shp_zv shp_zv))
    · exact cc2 (wI 6 104) (qO 8 106 rfl) (qO 9 107 rfl) (fresh_rn _ _) c2
    · exact cc2 (wI 6 104) (qO 7 105 rfl) (qO 10 108 rfl) (fresh_is _) (fun w u v g1 g2 => h_rholdsF l2 u2 z2 (Nat.le_refl _) (Nat.le_refl _) t2 w u v g1 ((rn_rv n2 m2) _ _ g2))
    · exact b_not (wI 6 104) (oO 11 109)
    · exact pF wA (oO 6 104) (oO 12 110)
  intro B11 a11 W11 (S11 : Sta w 141 [(4, (.box 24 (SF [(Is (.float .f64 x)), (Is (.float .f64 y))]))), (5, (.box 24 (SF [(Is (.float .f64 x1)), (Is (.float .f64 y1))]))), (6, (.box 29 (PR (Zv A k1) (Zv (((D : Nat) : Int)) k2)))), (7, (.box 29 (PR (Zv B k3) (Zv (((E : Nat) : Int)) k4)))), (9, (.box 24 (SF [(FL (loP (arP .add x x1))), (FL (hiP (arP .add y y1)))]))), (11, (.box 24 (SF [(FL (loP (arP .sub x y1))), (FL (hiP (arP .sub y x1)))]))), (13, (.box 24 (SF [(FL (loP (some (mnP (q4 p0 p1 p2 p3) 3)))), (FL (hiP (some (mxP (q4 p0 p1 p2 p3) 3))))]))), (15, (.box 24 (SF [(FL (sqL px py s0 s1)), (FL (sqH s0 s1))])))] [(111, bF), (17, iV (cmN px py qx qy)), (18, Is (.bool sB))] _ _ _)
  refine wp_cond_false (S11.bool 0 111 rfl) ?_
  refine wp_skip ?_
  refine thenN ?_
  refine wp_seq ?_
  refine wp_stmt_seq [.val (SF [(FL (loP (some (mnP (q4 p0 p1 p2 p3) 3)))), (FL (hiP (some (mxP (q4 p0 p1 p2 p3) 3))))]), .val (PR (Zv A k1) (Zv (((D : Nat) : Int)) k2)), .val (PR (Zv B k3) (Zv (((E : Nat) : Int)) k4)), .val ((RN N3 D3) w.heap.size), kT, kF, kF, .val (SF [(FL (sqL px py s0 s1)), (FL (sqH s0 s1))]), .val (PR (Zv A k1) (Zv (((D : Nat) : Int)) k2)), .val (PR (Zv A k1) (Zv (((D : Nat) : Int)) k2)), .val ((RN N4 D4) w.heap.size), kT, kF, kF, kF, .val (Part a11 15 0), .val (FL (sqL px py s0 s1)), kT, kF, kF] [.inr 0, .inr 1, .inr 2, .inr 3, .inr 4, .inr 5, .inr 6, .inr 7] [.inl 19, .inr 1, .inr 2] follows S11 rfl (by kernel_rfl) ?_ ?_
  · repeat' refine And.intro ?_ ?_
    · trivial
    · exact lod 6 wA (loads_of strct_ival shp_iv)
    · exact lod 2 wA (loads_of strct_rat (shp_pr shp_zv shp_zv))
    · exact lod 3 wA (loads_of strct_rat (shp_pr shp_zv shp_zv))
    · exact cc2 wA (qO 1 113 rfl) (qO 2 114 rfl) (fresh_rn _ _) c3
    · exact cc2 wA (qO 0 112 rfl) (qO 3 115 rfl) (fresh_is _) (fun w u v g1 g2 => h_rholdsF l3 u3 z3 (Nat.le_refl _) (Nat.le_refl _) t3 w u v g1 ((rn_rv n3 m3) _ _ g2))
    · exact b_not wA (oO 4 116)
    · exact mO 5 117
    · exact lod 7 (wI 6 118) (loads_of strct_ival shp_iv)
    · exact lod 2 (wI 6 118) (loads_of strct_rat (shp_pr shp_zv shp_zv))
    · exact lod 2 (wI 6 118) (loads_of strct_rat (shp_pr shp_zv shp_zv))
    · exact cc2 (wI 6 118) (qO 8 120 rfl) (qO 9 121 rfl) (fresh_rn _ _) c4
    · exact cc2 (wI 6 118) (qO 7 119 rfl) (qO 10 122 rfl) (fresh_is _) (fun w u v g1 g2 => h_rholdsF l4 u4 z4 (Nat.le_refl _) (Nat.le_refl _) t4 w u v g1 ((rn_rv n4 m4) _ _ g2))
    · exact b_not (wI 6 118) (oO 11 123)
    · exact pF wA (oO 6 118) (oO 12 124)
    · exact mO 13 125
    · exact owe_part rfl (wI 14 126) rfl (k := 7) rfl (by kernel_rfl) rfl (fun ρ w b h => part_ival0 ρ _ _ w b 0 h)
    · exact owe_pload rfl (wI 14 126) rfl (oO 15 127) (k := 7) rfl (by kernel_rfl) rfl (fun ρ w b u h1 h2 h3 => ploadI rfl load1_f64 ρ _ _ w b u h1 h2 h3)
    · exact owe_fcmp rfl (wI 14 126) rfl (oO 16 128) ((opnd_const _).imp (fl_is (by decide))) (by rw [l4]; exact ge_t h40) rfl
    · exact b_not (wI 14 126) (oO 17 129)
    · exact pF wA (oO 14 126) (oO 18 130)
  intro B12 a12 W12 (S12 : Sta w 141 [(4, (.box 24 (SF [(Is (.float .f64 x)), (Is (.float .f64 y))]))), (5, (.box 24 (SF [(Is (.float .f64 x1)), (Is (.float .f64 y1))]))), (6, (.box 29 (PR (Zv A k1) (Zv (((D : Nat) : Int)) k2)))), (7, (.box 29 (PR (Zv B k3) (Zv (((E : Nat) : Int)) k4)))), (9, (.box 24 (SF [(FL (loP (arP .add x x1))), (FL (hiP (arP .add y y1)))]))), (11, (.box 24 (SF [(FL (loP (arP .sub x y1))), (FL (hiP (arP .sub y x1)))]))), (13, (.box 24 (SF [(FL (loP (some (mnP (q4 p0 p1 p2 p3) 3)))), (FL (hiP (some (mxP (q4 p0 p1 p2 p3) 3))))]))), (15, (.box 24 (SF [(FL (sqL px py s0 s1)), (FL (sqH s0 s1))])))] [(131, bF), (17, iV (cmN px py qx qy)), (18, Is (.bool sB))] _ _ _)
  refine wp_cond_false (S12.bool 0 131 rfl) ?_
  refine wp_skip ?_
  refine thenN ?_
  cases sB
  · skip
    replace S12 : Sta w 141 [(4, (.box 24 (SF [(Is (.float .f64 x)), (Is (.float .f64 y))]))), (5, (.box 24 (SF [(Is (.float .f64 x1)), (Is (.float .f64 y1))]))), (6, (.box 29 (PR (Zv A k1) (Zv (((D : Nat) : Int)) k2)))), (7, (.box 29 (PR (Zv B k3) (Zv (((E : Nat) : Int)) k4)))), (9, (.box 24 (SF [(FL (loP (arP .add x x1))), (FL (hiP (arP .add y y1)))]))), (11, (.box 24 (SF [(FL (loP (arP .sub x y1))), (FL (hiP (arP .sub y x1)))]))), (13, (.box 24 (SF [(FL (loP (some (mnP (q4 p0 p1 p2 p3) 3)))), (FL (hiP (some (mxP (q4 p0 p1 p2 p3) 3))))]))), (15, (.box 24 (SF [(FL (sqL px py s0 s1)), (FL (sqH s0 s1))])))] [(131, bF), (17, iV (cmN px py qx qy)), (18, bF)] B12 a12 W12 := S12
    refine wp_stmt_seq [kF, kT, kT, .off, .off, .off, .off, .off, kT, kT] [.inr 0, .inr 1, .inr 4, .inr 5, .inr 6, .inr 7] [.inl 9] follows S12 rfl (by kernel_rfl) ?_ ?_
    · repeat' refine And.intro ?_ ?_
      · trivial
      · exact mS 2 18
      · exact b_not wA (oO 0 132)
      · exact mO 1 133
      · exact oF 2 134
      · exact oF 2 134
      · exact oF 2 134
      · exact oF 2 134
      · exact oF 2 134
      · exact pT wA (oO 2 134) (opnd_const _)
      · exact mO 8 140
    intro B13 a13 W13 (S13 : Sta w 141 [(4, (.box 24 (SF [(Is (.float .f64 x)), (Is (.float .f64 y))]))), (5, (.box 24 (SF [(Is (.float .f64 x1)), (Is (.float .f64 y1))]))), (9, (.box 24 (SF [(FL (loP (arP .add x x1))), (FL (hiP (arP .add y y1)))]))), (11, (.box 24 (SF [(FL (loP (arP .sub x y1))), (FL (hiP (arP .sub y x1)))]))), (13, (.box 24 (SF [(FL (loP (some (mnP (q4 p0 p1 p2 p3) 3)))), (FL (hiP (some (mxP (q4 p0 p1 p2 p3) 3))))]))), (15, (.box 24 (SF [(FL (sqL px py s0 s1)), (FL (sqH s0 s1))])))] [(8, bT)] _ _ _)
    refine wp_ret ?_
    exact end_one S13 rfl (res_tmp S13 0 8 rfl)
  · skip
    replace S12 : Sta w 141 [(4, (.box 24 (SF [(Is (.float .f64 x)), (Is (.float .f64 y))]))), (5, (.box 24 (SF [(Is (.float .f64 x1)), (Is (.float .f64 y1))]))), (6, (.box 29 (PR (Zv A k1) (Zv (((D : Nat) : Int)) k2)))), (7, (.box 29 (PR (Zv B k3) (Zv (((E : Nat) : Int)) k4)))), (9, (.box 24 (SF [(FL (loP (arP .add x x1))), (FL (hiP (arP .add y y1)))]))), (11, (.box 24 (SF [(FL (loP (arP .sub x y1))), (FL (hiP (arP .sub y x1)))]))), (13, (.box 24 (SF [(FL (loP (some (mnP (q4 p0 p1 p2 p3) 3)))), (FL (hiP (some (mxP (q4 p0 p1 p2 p3) 3))))]))), (15, (.box 24 (SF [(FL (sqL px py s0 s1)), (FL (sqH s0 s1))])))] [(131, bF), (17, iV (cmN px py qx qy)), (18, bT)] B12 a12 W12 := S12
    refine wp_stmt_seq [kT, kF, kF, .val (iV (cmN px py qx qy)), .val (PR (Zv A k1) (Zv (((D : Nat) : Int)) k2)), .val (PR (Zv B k3) (Zv (((E : Nat) : Int)) k4)), .val (Is (.int .i64 (A * ((E : Nat) : Int) - B * ((D : Nat) : Int)).sign)), kT, kT, kT] [.inr 0, .inr 1, .inr 4, .inr 5, .inr 6, .inr 7] [.inl 9] follows S12 rfl (by kernel_rfl) ?_ ?_
    · repeat' refine And.intro ?_ ?_
      · trivial
      · exact mS 2 18
      · exact b_not wA (oO 0 132)
      · exact mO 1 133
      · exact mW (wI 2 134) (oS 1 17)
      · exact lod 2 (wI 2 134) (loads_of strct_rat (shp_pr shp_zv shp_zv))
      · exact lod 3 (wI 2 134) (loads_of strct_rat (shp_pr shp_zv shp_zv))
      · exact cc2 (wI 2 134) (qO 4 136 rfl) (qO 5 137 rfl) (fresh_is _) (g_rrcmp hD hE (Nat.le_trans b1 (by decide)) (Nat.le_trans b2 (by decide)) (Nat.le_trans b3 (by decide)) (Nat.le_trans b4 (by decide)))
      · exact b_eql_int_t (wI 2 134) (oO 3 135) (oO 6 138) (h := hc rfl)
      · exact pF wA (oO 2 134) (oO 7 139)
      · exact mO 8 140
    intro B13 a13 W13 (S13 : Sta w 141 [(4, (.box 24 (SF [(Is (.float .f64 x)), (Is (.float .f64 y))]))), (5, (.box 24 (SF [(Is (.float .f64 x1)), (Is (.float .f64 y1))]))), (9, (.box 24 (SF [(FL (loP (arP .add x x1))), (FL (hiP (arP .add y y1)))]))), (11, (.box 24 (SF [(FL (loP (arP .sub x y1))), (FL (hiP (arP .sub y x1)))]))), (13, (.box 24 (SF [(FL (loP (some (mnP (q4 p0 p1 p2 p3) 3)))), (FL (hiP (some (mxP (q4 p0 p1 p2 p3) 3))))]))), (15, (.box 24 (SF [(FL (sqL px py s0 s1)), (FL (sqH s0 s1))])))] [(8, bT)] _ _ _)
    refine wp_ret ?_
    exact end_one S13 rfl (res_tmp S13 0 8 rfl)
end Go.Proofs.YtgalppimdmjdcabGreat

/-
  IvalTrue answers true: its walks brought together.
-/
namespace Go.Proofs.YtgalppimdmjdcabGreat
open Go Go.RowKit Nt
set_option linter.unusedSimpArgs false
set_option linter.unusedVariables false
set_option maxRecDepth 20000

theorem mn_le (P : Nat → Int) : ∀ k i, i ≤ k → mnP P k ≤ P i
  | 0, i, h => by obtain rfl : i = 0 := by omega
                  exact Int.le_refl _
  | k + 1, i, h => by
    simp only [mnP]
    by_cases hi : i = k + 1
    · subst hi; split <;> omega
    · have := mn_le P k i (by omega); split <;> omega
theorem mx_ge (P : Nat → Int) : ∀ k i, i ≤ k → P i ≤ mxP P k
  | 0, i, h => by obtain rfl : i = 0 := by omega
                  exact Int.le_refl _
  | k + 1, i, h => by
    simp only [mxP]
    by_cases hi : i = k + 1
    · subst hi; split <;> omega
    · have := mx_ge P k i (by omega); split <;> omega
theorem mn_abs {P : Nat → Int} {N : Nat} : ∀ k, (∀ i, i ≤ k → (P i).natAbs ≤ N) → (mnP P k).natAbs ≤ N
  | 0, h => h 0 (Nat.le_refl _)
  | k + 1, h => by
    simp only [mnP]
    have := mn_abs k (fun i hi => h i (by omega))
    have := h (k + 1) (Nat.le_refl _)
    split <;> assumption
theorem mx_abs {P : Nat → Int} {N : Nat} : ∀ k, (∀ i, i ≤ k → (P i).natAbs ≤ N) → (mxP P k).natAbs ≤ N
  | 0, h => h 0 (Nat.le_refl _)
  | k + 1, h => by
    simp only [mxP]
    have := mx_abs k (fun i hi => h i (by omega))
    have := h (k + 1) (Nat.le_refl _)
    split <;> assumption
theorem q4_abs {p0 p1 p2 p3 : Int} {N : Nat} (h0 : p0.natAbs ≤ N) (h1 : p1.natAbs ≤ N) (h2 : p2.natAbs ≤ N) (h3 : p3.natAbs ≤ N) : ∀ i, i ≤ 3 → (q4 p0 p1 p2 p3 i).natAbs ≤ N := fun i hi => by
  match i, hi with
  | 0, _ => exact h0
  | 1, _ => exact h1
  | 2, _ => exact h2
  | 3, _ => exact h3
theorem q2_abs {p0 p1 : Int} {N : Nat} (h0 : p0.natAbs ≤ N) (h1 : p1.natAbs ≤ N) : ∀ i, i ≤ 1 → (q2 p0 p1 i).natAbs ≤ N := fun i hi => by
  match i, hi with
  | 0, _ => exact h0
  | 1, _ => exact h1
theorem dnQ_abs {p : Int} (h : p.natAbs ≤ 9218868437227405312) : (dnQ p).natAbs ≤ 9218868437227405312 := by unfold dnQ; split <;> omega
theorem upQ_abs {p : Int} (h : p.natAbs ≤ 9218868437227405312) : (upQ p).natAbs ≤ 9218868437227405312 := by unfold upQ; split <;> omega
/-- A square is not below nought. -/
theorem sq_nonneg (A : Int) : 0 ≤ A * A := by
  rcases Int.le_total 0 A with h | h
  · exact Int.mul_nonneg h h
  · exact Int.mul_nonneg_of_nonpos_of_nonpos h h
theorem lo_zero {V : Int} {D : Nat} (h : 0 ≤ V) : Lo 0 V D := Or.inr ⟨by decide, by rw [show vp 0 = 0 from rfl, Int.zero_mul]; exact Int.mul_nonneg h (Int.le_of_lt uFi)⟩
theorem sq_lo {px py A s0 s1 : Int} {D : Nat} (hD : D ≠ 0) (h1 : Lo px A D) (h2 : Hi py A D) (r1 : px.natAbs ≤ 9218868437227405312) (r2 : py.natAbs ≤ 9218868437227405312) (T0 : Tm px px s0) (T1 : Tm py py s1) : ∃ L, sqL px py s0 s1 = some L ∧ 0 ≤ L ∧ L.natAbs ≤ 9218868437227405312 ∧ Lo L (A * A) (D * D) := by
  have m := mn_abs 1 (q2_abs T0.abs T1.abs)
  have e : dnI (mnP (q2 s0 s1) 1) = dnQ (mnP (q2 s0 s1) 1) := rfl
  unfold sqL
  rw [e]
  by_cases hc : dnQ (mnP (q2 s0 s1) 1) < 0 ∨ (px ≤ 0 ∧ 0 ≤ py)
  · rw [if_pos hc]
    exact ⟨0, rfl, by decide, by decide, lo_zero (sq_nonneg A)⟩
  · rw [if_neg hc]
    refine ⟨_, rfl, by omega, dnQ_abs m, ?_⟩
    have k0 := mn_le (q2 s0 s1) 1 0 (by decide)
    have k1 := mn_le (q2 s0 s1) 1 1 (by decide)
    by_cases hp : 0 < px
    · refine lo_mono (dnQ_mono k0 (by omega)) ?_
      have f1 : Fin px := by unfold Lo at h1; unfold Fin; omega
      have g1 : vp px * (D : Int) ≤ A * (uF : Int) := by unfold Lo at h1; unfold Fin at f1; omega
      have hA := lo_sgn hD h1 (by omega)
      exact mul_lo T0 f1 f1 (Int.le_trans (Int.mul_le_mul_of_nonneg_left g1 (Int.mul_nonneg (vp_pos (by omega)) (Int.natCast_nonneg D))) (Int.mul_le_mul_of_nonneg_right g1 (Int.mul_nonneg hA (Int.le_of_lt uFi))))
    · refine lo_mono (dnQ_mono k1 (by omega)) ?_
      have hy : py < 0 := by omega
      have f1 : Fin py := by unfold Hi at h2; unfold Fin; omega
      have g1 : A * (uF : Int) ≤ vp py * (D : Int) := by unfold Hi at h2; unfold Fin at f1; omega
      have hA := hi_sgn hD h2 (by omega)
      have n1 : vp py * (D : Int) ≤ 0 := by
        have := Int.mul_le_mul_of_nonneg_right (vp_neg' (p := py) (by omega)) (Int.natCast_nonneg D)
        rwa [Int.zero_mul] at this
      have n2 : A * (uF : Int) ≤ 0 := by omega
      exact mul_lo T1 f1 f1 (Int.le_trans (Int.mul_le_mul_of_nonpos_left n1 g1) (Int.mul_le_mul_of_nonpos_right g1 n2))
theorem mul_hi {p q t A B : Int} {D E : Nat} (T : Tm p q t) (f1 : Fin p) (f2 : Fin q) (h : A * (uF : Int) * (B * (uF : Int)) ≤ vp p * (D : Int) * (vp q * (E : Int))) : Hi (upQ t) (A * B) (D * E) := by
  refine rd_hi (T.fin f1 f2) ?_
  rw [Int.natCast_mul]
  refine Int.le_trans (Int.le_of_eq ?_) (Int.le_trans h (Int.le_of_eq ?_))
  · grind
  · grind
theorem hi_inf {t V : Int} {D : Nat} (h : t = 9218868437227405312) : Hi (upQ t) V D := by rw [h]; exact Or.inl (by decide)
theorem sq_hi {px py A s0 s1 : Int} {D : Nat} (hD : D ≠ 0) (h1 : Lo px A D) (h2 : Hi py A D) (r1 : px.natAbs ≤ 9218868437227405312) (r2 : py.natAbs ≤ 9218868437227405312) (T0 : Tm px px s0) (T1 : Tm py py s1) : ∃ U, sqH s0 s1 = some U ∧ U.natAbs ≤ 9218868437227405312 ∧ Hi U (A * A) (D * D) := by
  have m := mx_abs 1 (q2_abs T0.abs T1.abs)
  refine ⟨upQ (mxP (q2 s0 s1) 1), rfl, upQ_abs m, ?_⟩
  have k0 := mx_ge (q2 s0 s1) 1 0 (by decide)
  have k1 := mx_ge (q2 s0 s1) 1 1 (by decide)
  by_cases hA : 0 ≤ A
  · refine hi_mono (upQ_mono k1 (by omega)) ?_
    by_cases f1 : Fin py
    · have g1 : A * (uF : Int) ≤ vp py * (D : Int) := by unfold Hi at h2; unfold Fin at f1; omega
      have n := Int.mul_nonneg hA (Int.le_of_lt uFi)
      exact mul_hi T1 f1 f1 (Int.le_trans (Int.mul_le_mul_of_nonneg_left g1 n) (Int.mul_le_mul_of_nonneg_right g1 (by omega)))
    · have : py = 9218868437227405312 := by unfold Hi at h2; unfold Fin at f1; omega
      refine hi_inf ?_
      show s1 = _
      rw [T1.inf (by omega) (by omega) (fun h => f1 h.1), if_neg (by rw [this]; decide)]
  · refine hi_mono (upQ_mono k0 (by omega)) ?_
    by_cases f1 : Fin px
    · have g1 : vp px * (D : Int) ≤ A * (uF : Int) := by unfold Lo at h1; unfold Fin at f1; omega
      have n : A * (uF : Int) ≤ 0 := by have := Int.mul_neg_of_neg_of_pos (show A < 0 by omega) uFi; omega
      exact mul_hi T0 f1 f1 (Int.le_trans (Int.mul_le_mul_of_nonpos_left n g1) (Int.mul_le_mul_of_nonpos_right g1 (by omega)))
    · have : px = -9218868437227405312 := by unfold Lo at h1; unfold Fin at f1; omega
      refine hi_inf ?_
      show s0 = _
      rw [T0.inf (by omega) (by omega) (fun h => f1 h.1), if_neg (by rw [this]; decide)]
/-- What is sure is so. -/
theorem cm_sure {px py qx qy A B : Int} {D E : Nat} (hD : D ≠ 0) (hE : E ≠ 0) (h1 : Lo px A D) (h2 : Hi py A D) (h3 : Lo qx B E) (h4 : Hi qy B E) (r1 : px.natAbs ≤ 9218868437227405312) (r2 : py.natAbs ≤ 9218868437227405312) (r3 : qx.natAbs ≤ 9218868437227405312) (r4 : qy.natAbs ≤ 9218868437227405312) (hs : cmS px py qx qy = true) : cmN px py qx qy = (A * ((E : Nat) : Int) - B * ((D : Nat) : Int)).sign := by
  have hu := uFi
  have pD : (0 : Int) < (D : Int) := by omega
  have pE : (0 : Int) < (E : Int) := by omega
  have lt : ∀ {p q A B : Int} {D E : Nat}, (0 : Int) < (D : Int) → (0 : Int) < (E : Int) → p < q → A * (uF : Int) ≤ vp p * (D : Int) → vp q * (E : Int) ≤ B * (uF : Int) → A * (E : Int) < B * (D : Int) := fun {p q A B D E} pD pE hpq g1 g2 => by
    have m1 := Int.mul_le_mul_of_nonneg_right g1 (Int.le_of_lt pE)
    have m2 := Int.mul_le_mul_of_nonneg_right g2 (Int.le_of_lt pD)
    have m3 := Int.mul_lt_mul_of_pos_right (Int.mul_lt_mul_of_pos_right (vp_mono hpq) pD) pE
    apply Classical.byContradiction
    intro hc
    have m4 := Int.mul_le_mul_of_nonneg_right (show B * (D : Int) ≤ A * (E : Int) by omega) (Int.le_of_lt hu)
    rw [show A * (uF : Int) * (E : Int) = A * (E : Int) * (uF : Int) by grind] at m1
    rw [show B * (uF : Int) * (D : Int) = B * (D : Int) * (uF : Int) by grind, show vp q * (E : Int) * (D : Int) = vp q * (D : Int) * (E : Int) by grind] at m2
    omega
  unfold cmS at hs
  unfold cmN
  by_cases c1 : py < qx
  · rw [if_pos c1]
    have := lt (A := A) (B := B) pD pE c1 (by unfold Hi at h2; unfold Lo at h3; omega) (by unfold Lo at h3; omega)
    rw [Int.sign_eq_neg_one_of_neg (by omega)]
  · rw [if_neg c1] at hs ⊢
    by_cases c2 : qy < px
    · rw [if_pos c2]
      have := lt (A := B) (B := A) pE pD c2 (by unfold Hi at h4; unfold Lo at h1; omega) (by unfold Lo at h1; omega)
      rw [Int.sign_eq_one_of_pos (by omega)]
    · rw [if_neg c2] at hs ⊢
      obtain ⟨e1, e2, e3, e4, e5⟩ := of_decide_eq_true hs
      subst e1 e2 e3
      have a1 : A * (uF : Int) = vp px * (D : Int) := by unfold Lo at h1; unfold Hi at h2; omega
      have a2 : B * (uF : Int) = vp px * (E : Int) := by unfold Lo at h3; unfold Hi at h4; omega
      have : (A * (E : Int) - B * (D : Int)) * (uF : Int) = 0 := by
        rw [Int.sub_mul, show A * (E : Int) * (uF : Int) = A * (uF : Int) * (E : Int) by grind, show B * (D : Int) * (uF : Int) = B * (uF : Int) * (D : Int) by grind, a1, a2]
        grind
      rcases Int.mul_eq_zero.1 this with h | h
      · rw [h]; rfl
      · omega
theorem ivaltrue_walk (w : World) (x y x1 y1 : Nat) (s : Bool) (p : Option Addr) (n c : Nat) (xs : List Nat) (t : Bool) (q : Option Addr) (m d : Nat) (ys : List Nat) (s' : Bool) (p' : Option Addr) (n' c' : Nat) (xs' : List Nat) (t' : Bool) (q' : Option Addr) (m' d' : Nat) (ys' : List Nat) (h2 : Sl w p n c xs) (h3 : Sl w q m d ys) (h2' : Sl w p' n' c' xs') (h3' : Sl w q' m' d' ys') (hx : x < 18446744073709551616) (hy : y < 18446744073709551616) (hx1 : x1 < 18446744073709551616) (hy1 : y1 < 18446744073709551616) (c1 : c ≤ 1048576) (c2 : d ≤ 1048576) (c3 : c' ≤ 1048576) (c4 : d' ≤ 1048576) : Calls Tryz.prog 3 #[.agg #[.float .f64 x, .float .f64 y], .agg #[.float .f64 x1, .float .f64 y1], .agg #[.bool s, .slice p n c, .bool t, .slice q m d], .agg #[.bool s', .slice p' n' c', .bool t', .slice q' m' d']] w fun e w' => e = .returned (.bool true) ∧ Below w.heap.size w w' := by
  refine Calls.mono (R := Gives (IS (.bool true)) w) ?_ (fun e w' ⟨v, he, hb, hv⟩ => ⟨by rw [he, show v = _ from hv], hb⟩)
  obtain ⟨l1, l2, l3, l4⟩ : n ≤ 1048576 ∧ m ≤ 1048576 ∧ n' ≤ 1048576 ∧ m' ≤ 1048576 := ⟨by have := h2.cap; omega, by have := h3.cap; omega, by have := h2'.cap; omega, by have := h3'.cap; omega⟩
  have hr : ∀ E, sg t (val ys) = E → Has (fun _ => False) w (Rv (sg s (val xs)) E n m) (.agg #[.bool s, .slice p n c, .bool t, .slice q m d]) := fun E hE => rv_has ⟨_, _, _, _, rfl, ⟨s, p, n, c, xs, rfl, h2, rfl, Nat.le_refl _⟩, ⟨t, q, m, d, ys, rfl, h3, hE, Nat.le_refl _⟩⟩
  have hr' : ∀ E, sg t' (val ys') = E → Has (fun _ => False) w (Rv (sg s' (val xs')) E n' m') (.agg #[.bool s', .slice p' n' c', .bool t', .slice q' m' d']) := fun E hE => rv_has ⟨_, _, _, _, rfl, ⟨s', p', n', c', xs', rfl, h2', rfl, Nat.le_refl _⟩, ⟨t', q', m', d', ys', rfl, h3', hE, Nat.le_refl _⟩⟩
  cases h : okI x y with
  | false => exact ivaltrue_f w x y x1 y1 hx hy hx1 hy1 h _ _ _ _ n m n' m' _ _ (hr _ rfl) (hr' _ rfl) (by omega) (by omega) (by omega) (by omega)
  | true =>
    cases h' : okI x1 y1 with
    | false => exact ivaltrue_tf w x y x1 y1 hx hy hx1 hy1 h h' _ _ _ _ n m n' m' _ _ (hr _ rfl) (hr' _ rfl) (by omega) (by omega) (by omega) (by omega)
    | true =>
      by_cases gx : sg t (val ys) ≤ 0
      · exact ivaltrue_xb w x y x1 y1 hx hy hx1 hy1 h h' _ _ _ _ n m n' m' _ _ (hr _ rfl) (hr' _ rfl) (by omega) (by omega) (by omega) (by omega) gx
      · by_cases gy : sg t' (val ys') ≤ 0
        · exact ivaltrue_yb w x y x1 y1 hx hy hx1 hy1 h h' _ _ _ _ n m n' m' _ _ (hr _ rfl) (hr' _ rfl) (by omega) (by omega) (by omega) (by omega) (by omega) gy
        · obtain ⟨px, py, hpx, hpy, _⟩ := ok_some h
          obtain ⟨qx, qy, hqx, hqy, _⟩ := ok_some h'
          obtain ⟨D, eD⟩ : ∃ D : Nat, sg t (val ys) = (D : Int) := ⟨(sg t (val ys)).toNat, by omega⟩
          obtain ⟨E, eE⟩ : ∃ E : Nat, sg t' (val ys') = (E : Int) := ⟨(sg t' (val ys')).toNat, by omega⟩
          have hD : D ≠ 0 := by omega
          have hE : E ≠ 0 := by omega
          have HR := hr _ eD
          have HR' := hr' _ eE
          have dA : (digs (sg s (val xs)).natAbs).length ≤ 1048576 := by rw [sg_abs]; exact Nat.le_trans h2.dl l1
          have dB : (digs (sg s' (val xs')).natAbs).length ≤ 1048576 := by rw [sg_abs]; exact Nat.le_trans h2'.dl l3
          have dD : (digs ((D : Nat) : Int).natAbs).length ≤ 1048576 := by rw [← eD, sg_abs]; exact Nat.le_trans h3.dl l2
          have dE : (digs ((E : Nat) : Int).natAbs).length ≤ 1048576 := by rw [← eE, sg_abs]; exact Nat.le_trans h3'.dl l4
          clear hr hr' gx gy eD eE h2 h3 h2' h3'
          generalize sg s (val xs) = A at *
          generalize sg s' (val xs') = B at *
          cases ha : hoB px py A D with
          | false => exact ivaltrue_ha w x y x1 y1 hx hy hx1 hy1 h h' px py qx qy hpx hpy hqx hqy A B D E n m n' m' _ _ HR HR' hD hE (by omega) (by omega) (by omega) (by omega) ha
          | true =>
            cases hb : hoB qx qy B E with
            | false => exact ivaltrue_hb w x y x1 y1 hx hy hx1 hy1 h h' px py qx qy hpx hpy hqx hqy A B D E n m n' m' _ _ HR HR' hD hE (by omega) (by omega) (by omega) (by omega) ha hb
            | true =>
              obtain ⟨A1, A2⟩ := (ho_iff (plc_le hpx) (plc_le hpy)).1 ha
              obtain ⟨B1, B2⟩ := (ho_iff (plc_le hqx) (plc_le hqy)).1 hb
              obtain ⟨p0, t0, _⟩ := tm_some hpx hqx
              obtain ⟨p1, t1, _⟩ := tm_some hpx hqy
              obtain ⟨p2, t2, _⟩ := tm_some hpy hqx
              obtain ⟨p3, t3, _⟩ := tm_some hpy hqy
              obtain ⟨s0, k0, _⟩ := tm_some hpx hpx
              obtain ⟨s1, k1, _⟩ := tm_some hpy hpy
              have hDE : D * E ≠ 0 := Nat.mul_ne_zero hD hE
              have hDD : D * D ≠ 0 := Nat.mul_ne_zero hD hD
              have dDE : (digs (D * E)).length ≤ 8388608 := by have := dl_mul dD dE; rw [← Int.natCast_mul, Int.natAbs_natCast] at this; omega
              have dDD : (digs (D * D)).length ≤ 8388608 := by have := dl_mul dD dD; rw [← Int.natCast_mul, Int.natAbs_natCast] at this; omega
              -- sums
              obtain ⟨L1, e1, r1, i1⟩ := lo_add hpx hqx A1 B1
              obtain ⟨U1, f1, q1, j1⟩ := hi_add hpy hqy A2 B2
              -- differences
              have hM : dR (-B) E ≠ 0 := dR_ne hE
              have N1 : Hi qy (-(nR (-B) E)) (dR (-B) E) := by rw [nR_neg, Int.neg_neg, dR_neg]; exact (hi_low hE).2 B2
              have N2 : Lo qx (-(nR (-B) E)) (dR (-B) E) := by rw [nR_neg, Int.neg_neg, dR_neg]; exact (lo_low hE).2 B1
              obtain ⟨L2, e2, r2, i2⟩ := lo_sub hy1 hpx hqy A1 N1
              obtain ⟨U2, f2, q2', j2⟩ := hi_sub hx1 hpy hqx A2 N2
              have hDM : D * dR (-B) E ≠ 0 := Nat.mul_ne_zero hD hM
              have dB' : (digs (nR (-B) E).natAbs).length ≤ 1048576 := nR_len (by rw [Int.natAbs_neg]; exact dB)
              have dE' : (digs ((dR (-B) E : Nat) : Int).natAbs).length ≤ 1048576 := by rw [Int.natAbs_natCast]; exact dR_len (by rw [Int.natAbs_natCast] at dE; exact dE)
              have dDM : (digs (D * dR (-B) E)).length ≤ 8388608 := by have := dl_mul dD dE'; rw [← Int.natCast_mul, Int.natAbs_natCast] at this; omega
              -- products
              have T0 := tm_of hpx hqx t0
              have T1 := tm_of hpx hqy t1
              have T2 := tm_of hpy hqx t2
              have T3 := tm_of hpy hqy t3
              have ma := mn_abs 3 (q4_abs T0.abs T1.abs T2.abs T3.abs)
              have xa := mx_abs 3 (q4_abs T0.abs T1.abs T2.abs T3.abs)
              have i3 : Lo (dnQ (mnP (q4 p0 p1 p2 p3) 3)) (A * B) (D * E) := by
                have g : ∀ i, i ≤ 3 → dnQ (mnP (q4 p0 p1 p2 p3) 3) ≤ dnQ (q4 p0 p1 p2 p3 i) := fun i hi => dnQ_mono (mn_le _ 3 i hi) (by omega)
                rcases prod_lo hD hE A1 A2 B1 B2 (plc_le hpx) (plc_le hpy) (plc_le hqx) (plc_le hqy) T0 T1 T2 T3 with h | h | h | h
                · exact lo_mono (g 0 (by decide)) h
                · exact lo_mono (g 1 (by decide)) h
                · exact lo_mono (g 2 (by decide)) h
                · exact lo_mono (g 3 (by decide)) h
              have j3 : Hi (upQ (mxP (q4 p0 p1 p2 p3) 3)) (A * B) (D * E) := by
                have g : ∀ i, i ≤ 3 → upQ (q4 p0 p1 p2 p3 i) ≤ upQ (mxP (q4 p0 p1 p2 p3) 3) := fun i hi => upQ_mono (mx_ge _ 3 i hi) (by omega)
                rcases prod_hi hD hE A1 A2 B1 B2 (plc_le hpx) (plc_le hpy) (plc_le hqx) (plc_le hqy) T0 T1 T2 T3 with h | h | h | h
                · exact hi_mono (g 0 (by decide)) h
                · exact hi_mono (g 1 (by decide)) h
                · exact hi_mono (g 2 (by decide)) h
                · exact hi_mono (g 3 (by decide)) h
              -- squares
              obtain ⟨L4, e4, z4, r4, i4⟩ := sq_lo hD A1 A2 (plc_le hpx) (plc_le hpy) (tm_of hpx hpx k0) (tm_of hpy hpy k1)
              obtain ⟨U4, f4, q4', j4⟩ := sq_hi hD A1 A2 (plc_le hpx) (plc_le hpy) (tm_of hpx hpx k0) (tm_of hpy hpy k1)
              have lowOk : ∀ {L U V : Int} {Y : Nat}, Y ≠ 0 → L.natAbs ≤ 9218868437227405312 → U.natAbs ≤ 9218868437227405312 → Lo L V Y → Hi U V Y → hoB L U (nR V Y) (dR V Y) = true := fun hY a b c d => (ho_iff a b).2 ⟨(lo_low hY).2 c, (hi_low hY).2 d⟩
              exact ivaltrue_ok w x y x1 y1 hx hy hx1 hy1 h h' px py qx qy hpx hpy hqx hqy A B D E n m n' m' _ _ HR HR' hD hE (by omega) (by omega) (by omega) (by omega) ha hb p0 p1 p2 p3 t0 t1 t2 t3 s0 s1 k0 k1
                _ _ L1 U1 (g_rradd hD hE (by omega) (by omega) (by omega) (by omega)) e1 f1 (dR_ne hDE) (nR_len (Nat.le_trans (dl_add (k := 2097152) (Nat.le_trans (dl_mul dA dE) (by decide)) (Nat.le_trans (dl_mul dB dD) (by decide))) (by decide))) (dR_len dDE) (lowOk hDE r1 q1 i1 j1)
                _ _ L2 U2 (g_rrsub hD hE (by omega) (by omega) (by omega) (by omega)) e2 f2 (dR_ne hDM) (nR_len (Nat.le_trans (dl_add (k := 2097152) (Nat.le_trans (dl_mul dA dE') (by decide)) (Nat.le_trans (dl_mul dB' dD) (by decide))) (by decide))) (dR_len dDM) (lowOk hDM r2 q2' i2 j2)
                _ _ _ _ (h_rrmul hD hE (by omega) (by omega) (by omega) (by omega)) rfl rfl (dR_ne hDE) (nR_len (Nat.le_trans (dl_mul dA dB) (by decide))) (dR_len dDE) (lowOk hDE (dnQ_abs ma) (upQ_abs xa) i3 j3)
                _ _ L4 U4 (h_rrmul hD hD (by omega) (by omega) (by omega) (by omega)) e4 f4 (dR_ne hDD) (nR_len (Nat.le_trans (dl_mul dA dA) (by decide))) (dR_len dDD) (lowOk hDD r4 q4' i4 j4)
                _ rfl (fun hs => cm_sure hD hE A1 A2 B1 B2 (plc_le hpx) (plc_le hpy) (plc_le hqx) (plc_le hqy) hs) z4
end Go.Proofs.YtgalppimdmjdcabGreat
