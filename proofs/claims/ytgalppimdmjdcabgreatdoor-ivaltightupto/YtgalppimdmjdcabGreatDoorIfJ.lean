import Derived.Test.YtgalppimdmjdcabGreatDoorIfE
import Derived.Test.YtgalppimdmjdcabGreatDoorIfK
import Derived.Test.YtgalppimdmjdcabGreatDoorJoins
import Derived.Test.YtgalppimdmjdcabGreatDoorIfC
/-
  Orders of intervals, and what they hold; IvalOrders.
-/
namespace Go.Proofs.YtgalppimdmjdcabGreatDoor
open Go Go.RowKit Nt
set_option linter.unusedSimpArgs false
set_option linter.unusedVariables false
set_option maxRecDepth 20000

theorem g_rrcmp {A N : Int} {D M k1 k2 k3 k4 : Nat} (hD : D ≠ 0) (hM : M ≠ 0) (b1 : k1 ≤ 8388608) (b2 : k2 ≤ 8388608) (b3 : k3 ≤ 8388608) (b4 : k4 ≤ 8388608) : ∀ w u v, Rv A (D : Int) k1 k2 u w → Rv N (M : Int) k3 k4 v w → Calls Tryz.prog 27 #[u, v] w (Gives (IS (.int .i64 (A * (M : Int) - N * (D : Int)).sign)) w) := by
  rintro w u v ⟨x0, x1, y0, y1, rfl, ⟨s, p, n, c, xs, ea, h, rfl, hn⟩, ⟨t, q, m, d, ys, eb, h', eD, hm⟩⟩ ⟨z0, z1, u0, u1, rfl, ⟨s', p', n', c', xs', ea', h2, rfl, hn'⟩, ⟨t', q', m', d', ys', eb', h2', eM, hm'⟩⟩
  simp at ea eb ea' eb'
  obtain ⟨rfl, rfl⟩ := ea
  obtain ⟨rfl, rfl⟩ := eb
  obtain ⟨rfl, rfl⟩ := ea'
  obtain ⟨rfl, rfl⟩ := eb'
  obtain ⟨rfl, rfl⟩ := zv_pos eD hD
  obtain ⟨rfl, rfl⟩ := zv_pos eM hM
  refine (rrcmp_c w s p n c xs q m d ys s' p' n' c' xs' q' m' d' ys' h h' h2 h2' hD hM (by omega) (by omega) (by omega) (by omega)).mono ?_
  rintro e w' ⟨rfl, hb⟩
  exact ⟨_, rfl, hb, rfl⟩
set_option maxHeartbeats 400000 in
theorem rhold_f (w : World) (x y : Nat) (hx : x < 18446744073709551616) (hy : y < 18446744073709551616) (px py : Int) (hpx : plc x = some px) (hpy : plc y = some py) (A : Int) (D k1 k2 : Nat) (r : Value) (hr : Has (fun _ => False) w (Rv A ((D : Nat) : Int) k1 k2) r) (hD : D ≠ 0) (b1 : k1 ≤ 8388608) (b2 : k2 ≤ 8388608) (f1 : Fin px) (g : 0 < agP px A D) :
    Calls Tryz.prog 9 #[(.agg #[.float .f64 x, .float .f64 y]), r] w (Gives (IS (.bool false)) w) := by
  refine calls_sta (sl := [(0, (SF [(Is (.float .f64 x)), (Is (.float .f64 y))])), (1, (PR (Zv A k1) (Zv (((D : Nat) : Int)) k2)))]) Tryz.func9 rfl Tryz.ntmps9 (by simp) (args_cons rfl (ix_has) (args_cons rfl (hr) args_nil)) ?_
  intro a0 S0
  refine wp_stmt_seq [.new (.box 34 (SF [(Is (.float .f64 x)), (Is (.float .f64 y))])), .new (.box 26 (PR (Zv A k1) (Zv (((D : Nat) : Int)) k2))), kF] [.inl 0, .inl 1] [] follows S0 rfl (by kernel_rfl) ?_ ?_
  · refine ⟨⟨⟨trivial, ?_⟩, ?_⟩, ?_⟩
    · exact owe_box rfl wA rfl (oS 0 0) rfl (fun ρ w h => box_ival shp_iv ρ _ _ w h)
    · exact owe_box rfl wA rfl (oS 1 1) rfl (fun ρ w h => box_rat (shp_pr shp_zv shp_zv) ρ _ _ w h)
    · exact mC
  intro B1 a1 W1 (S1 : Sta w 53 [(2, (.box 34 (SF [(Is (.float .f64 x)), (Is (.float .f64 y))]))), (3, (.box 26 (PR (Zv A k1) (Zv (((D : Nat) : Int)) k2))))] [] _ _ _)
  refine wp_stmt_seq [.val (Part a1 2 0), .val (Is (.float .f64 x)), .val ((TWO (RN (nR (vp px) uF) (dR (vp px) uF)) (IS (.bool true))) w.heap.size), .val ((TWO (RN (nR (vp px) uF) (dR (vp px) uF)) (IS (.bool true))) w.heap.size), .val ((RN (nR (vp px) uF) (dR (vp px) uF)) w.heap.size), kT, .new (.box 26 zR), .put (.inr 6) (.box 26 ((RN (nR (vp px) uF) (dR (vp px) uF)) w.heap.size)), kT] [.inr 0, .inr 1, .inl 6] [.inl 8] follows S1 rfl (by kernel_rfl) ?_ ?_
  · repeat' refine And.intro ?_ ?_
    · trivial
    · exact owe_part rfl wA rfl (k := 0) rfl (by kernel_rfl) rfl (fun ρ w b h => part_ival0 ρ _ _ w b 0 h)
    · exact owe_pload rfl wA rfl (oO 0 9) (k := 0) rfl (by kernel_rfl) rfl (fun ρ w b u h1 h2 h3 => ploadI rfl load1_f64 ρ _ _ w b u h1 h2 h3)
    · exact cc1 wA (qO 1 10 rfl) (fresh_two (fresh_rn _ _) (fresh_is _)) (pur_is (fun w => rexact_fin w x hx px hpx f1))
    · exact mO 2 11
    · exact e20 wA (oO 3 8)
    · exact e21 wA (oO 3 8)
    · exact owe_new rfl wA rfl rfl (fun ρ w => alloc_rat ρ _ w)
    · exact owe_put 6 rfl wA rfl (by kernel_rfl) rfl (oO 4 12) (stores_of strct_rat shp_r0 (shp_pr shp_zn shp_zn)) rfl
    · exact mO 5 13
  intro B2 a2 W2 (S2 : Sta w 53 [(2, (.box 34 (SF [(Is (.float .f64 x)), (Is (.float .f64 y))]))), (3, (.box 26 (PR (Zv A k1) (Zv (((D : Nat) : Int)) k2)))), (5, (.box 26 ((RN (nR (vp px) uF) (dR (vp px) uF)) w.heap.size)))] [(6, bT)] _ _ _)
  refine wp_seq ?_
  refine wp_stmt_seq [kT, kT, .val ((RN (nR (vp px) uF) (dR (vp px) uF)) w.heap.size), .val (PR (Zv A k1) (Zv (((D : Nat) : Int)) k2)), .val (iV (agP px A D)), kT, kT, kT, .off, .off, .val (Is (undef)), .off, .off, .off, .off, kT] [.inr 0, .inr 1] [.inl 15] follows S2 rfl (by kernel_rfl) ?_ ?_
  · repeat' refine And.intro ?_ ?_
    · trivial
    · exact mS 0 6
    · exact mO 0 14
    · exact lod 2 (wI 1 15) (loads_of strct_rat (shp_pr shp_zn shp_zn))
    · exact lod 1 (wI 1 15) (loads_of strct_rat (shp_pr shp_zv shp_zv))
    · exact cc2 (wI 1 15) (qO 2 16 rfl) (qO 3 17 rfl) (fresh_is _) (fun w u0 u1 h0 h1 => Gives.cast ((fun w u v h1 h2 => g_rrcmp (dR_ne uF_no) hD (by omega) (by omega) (by omega) (by omega) w u v ((rn_rv (exn_len f1) (exd_len px)) _ _ h1) ((pr_imp (fun _ _ h => h) (fun _ _ h => h)) _ _ h2)) w u0 u1 h0 h1) (by rw [ag_fin f1]))
    · exact b_gtr_int_t (wI 1 15) (oO 4 18) (opnd_const _) (h := g)
    · exact pT wA (oO 1 15) (oO 5 19)
    · exact mO 6 20
    · exact oF 7 21
    · exact oF 7 21
    · exact owe_offv 7 21 rfl rfl rfl (by kernel_rfl) rfl (by decide)
    · exact owe_offu 10 24 rfl rfl rfl (by kernel_rfl) rfl
    · exact owe_offu 10 24 rfl rfl rfl (by kernel_rfl) rfl
    · exact owe_offu 10 24 rfl rfl rfl (by kernel_rfl) rfl
    · exact oF 7 21
    · exact pT wA (oO 7 21) (opnd_const _)
  intro B3 a3 W3 (S3 : Sta w 53 [(2, (.box 34 (SF [(Is (.float .f64 x)), (Is (.float .f64 y))]))), (3, (.box 26 (PR (Zv A k1) (Zv (((D : Nat) : Int)) k2))))] [(29, bT)] _ _ _)
  refine wp_cond_true (S3.bool 0 29 rfl) ?_
  refine wp_stmt_seq [kF] [.inr 0] [.inl 0] follows S3 rfl (by kernel_rfl) ?_ ?_
  · refine ⟨trivial, ?_⟩
    · exact mC
  intro B4 a4 W4 (S4 : Sta w 53 [(2, (.box 34 (SF [(Is (.float .f64 x)), (Is (.float .f64 y))])))] [(4, bF)] _ _ _)
  refine wp_ret ?_
  refine thenR ?_
  exact end_one S4 rfl (res_tmp S4 0 4 rfl)
set_option maxHeartbeats 400000 in
theorem rhold_i (w : World) (x y : Nat) (hx : x < 18446744073709551616) (hy : y < 18446744073709551616) (px py : Int) (hpx : plc x = some px) (hpy : plc y = some py) (A : Int) (D k1 k2 : Nat) (r : Value) (hr : Has (fun _ => False) w (Rv A ((D : Nat) : Int) k1 k2) r) (hD : D ≠ 0) (b1 : k1 ≤ 8388608) (b2 : k2 ≤ 8388608) (f1 : ¬ Fin px) (g : 0 < px) :
    Calls Tryz.prog 9 #[(.agg #[.float .f64 x, .float .f64 y]), r] w (Gives (IS (.bool false)) w) := by
  refine calls_sta (sl := [(0, (SF [(Is (.float .f64 x)), (Is (.float .f64 y))])), (1, (PR (Zv A k1) (Zv (((D : Nat) : Int)) k2)))]) Tryz.func9 rfl Tryz.ntmps9 (by simp) (args_cons rfl (ix_has) (args_cons rfl (hr) args_nil)) ?_
  intro a0 S0
  refine wp_stmt_seq [.new (.box 34 (SF [(Is (.float .f64 x)), (Is (.float .f64 y))])), .new (.box 26 (PR (Zv A k1) (Zv (((D : Nat) : Int)) k2))), kF] [.inl 0, .inl 1] [] follows S0 rfl (by kernel_rfl) ?_ ?_
  · refine ⟨⟨⟨trivial, ?_⟩, ?_⟩, ?_⟩
    · exact owe_box rfl wA rfl (oS 0 0) rfl (fun ρ w h => box_ival shp_iv ρ _ _ w h)
    · exact owe_box rfl wA rfl (oS 1 1) rfl (fun ρ w h => box_rat (shp_pr shp_zv shp_zv) ρ _ _ w h)
    · exact mC
  intro B1 a1 W1 (S1 : Sta w 53 [(2, (.box 34 (SF [(Is (.float .f64 x)), (Is (.float .f64 y))]))), (3, (.box 26 (PR (Zv A k1) (Zv (((D : Nat) : Int)) k2))))] [] _ _ _)
  refine wp_stmt_seq [.val (Part a1 2 0), .val (Is (.float .f64 x)), .val ((TWO (RN 0 1) (IS (.bool false))) w.heap.size), .val ((TWO (RN 0 1) (IS (.bool false))) w.heap.size), .val ((RN 0 1) w.heap.size), kF, .new (.box 26 zR), .put (.inr 6) (.box 26 ((RN 0 1) w.heap.size)), kF] [.inr 0, .inr 1, .inl 6] [.inl 8] follows S1 rfl (by kernel_rfl) ?_ ?_
  · repeat' refine And.intro ?_ ?_
    · trivial
    · exact owe_part rfl wA rfl (k := 0) rfl (by kernel_rfl) rfl (fun ρ w b h => part_ival0 ρ _ _ w b 0 h)
    · exact owe_pload rfl wA rfl (oO 0 9) (k := 0) rfl (by kernel_rfl) rfl (fun ρ w b u h1 h2 h3 => ploadI rfl load1_f64 ρ _ _ w b u h1 h2 h3)
    · exact cc1 wA (qO 1 10 rfl) (fresh_two (fresh_rn _ _) (fresh_is _)) (pur_is (fun w => rexact_not w x hx (fun p2 h2 => by rw [hpx] at h2; obtain rfl := Option.some.inj h2; exact f1)))
    · exact mO 2 11
    · exact e20 wA (oO 3 8)
    · exact e21 wA (oO 3 8)
    · exact owe_new rfl wA rfl rfl (fun ρ w => alloc_rat ρ _ w)
    · exact owe_put 6 rfl wA rfl (by kernel_rfl) rfl (oO 4 12) (stores_of strct_rat shp_r0 (shp_pr shp_zn shp_zn)) rfl
    · exact mO 5 13
  intro B2 a2 W2 (S2 : Sta w 53 [(2, (.box 34 (SF [(Is (.float .f64 x)), (Is (.float .f64 y))]))), (3, (.box 26 (PR (Zv A k1) (Zv (((D : Nat) : Int)) k2)))), (5, (.box 26 ((RN 0 1) w.heap.size)))] [(6, bF)] _ _ _)
  refine wp_seq ?_
  refine wp_stmt_seq [kF, kF, .off, .off, .off, .off, kF, kF, kF, kT, kT, .val (Part a2 2 0), .val (Is (.float .f64 x)), kT, kT, kT] [.inr 0, .inr 1] [.inl 15] follows S2 rfl (by kernel_rfl) ?_ ?_
  · repeat' refine And.intro ?_ ?_
    · trivial
    · exact mS 0 6
    · exact mO 0 14
    · exact oF 1 15
    · exact oF 1 15
    · exact oF 1 15
    · exact oF 1 15
    · exact pF wA (oO 1 15) (opnd_const _)
    · exact mO 6 20
    · exact mW (wI 7 21) (oS 0 6)
    · exact b_not (wI 7 21) (oO 8 22)
    · exact mW (wI 7 21) (oO 9 23)
    · exact owe_part rfl (wI 10 24) rfl (k := 0) rfl (by kernel_rfl) rfl (fun ρ w b h => part_ival0 ρ _ _ w b 0 h)
    · exact owe_pload rfl (wI 10 24) rfl (oO 11 25) (k := 0) rfl (by kernel_rfl) rfl (fun ρ w b u h1 h2 h3 => ploadI rfl load1_f64 ρ _ _ w b u h1 h2 h3)
    · exact owe_fcmp rfl (wI 10 24) rfl ((oO 12 26).imp (fl_is hx)) ((opnd_const _).imp (fl_is (by decide))) (by rw [hpx]; exact gt_t g) rfl
    · exact pT (wI 7 21) (oO 10 24) (oO 13 27)
    · exact pF wA (oO 7 21) (oO 14 28)
  intro B3 a3 W3 (S3 : Sta w 53 [(2, (.box 34 (SF [(Is (.float .f64 x)), (Is (.float .f64 y))]))), (3, (.box 26 (PR (Zv A k1) (Zv (((D : Nat) : Int)) k2))))] [(29, bT)] _ _ _)
  refine wp_cond_true (S3.bool 0 29 rfl) ?_
  refine wp_stmt_seq [kF] [.inr 0] [.inl 0] follows S3 rfl (by kernel_rfl) ?_ ?_
  · refine ⟨trivial, ?_⟩
    · exact mC
  intro B4 a4 W4 (S4 : Sta w 53 [(2, (.box 34 (SF [(Is (.float .f64 x)), (Is (.float .f64 y))])))] [(4, bF)] _ _ _)
  refine wp_ret ?_
  refine thenR ?_
  exact end_one S4 rfl (res_tmp S4 0 4 rfl)
set_option maxHeartbeats 400000 in
theorem rhold_ff (w : World) (x y : Nat) (hx : x < 18446744073709551616) (hy : y < 18446744073709551616) (px py : Int) (hpx : plc x = some px) (hpy : plc y = some py) (A : Int) (D k1 k2 : Nat) (r : Value) (hr : Has (fun _ => False) w (Rv A ((D : Nat) : Int) k1 k2) r) (hD : D ≠ 0) (b1 : k1 ≤ 8388608) (b2 : k2 ≤ 8388608) (f1 : Fin px) (g : agP px A D ≤ 0) (f2 : Fin py) (g2 : agP py A D < 0) :
    Calls Tryz.prog 9 #[(.agg #[.float .f64 x, .float .f64 y]), r] w (Gives (IS (.bool false)) w) := by
  refine calls_sta (sl := [(0, (SF [(Is (.float .f64 x)), (Is (.float .f64 y))])), (1, (PR (Zv A k1) (Zv (((D : Nat) : Int)) k2)))]) Tryz.func9 rfl Tryz.ntmps9 (by simp) (args_cons rfl (ix_has) (args_cons rfl (hr) args_nil)) ?_
  intro a0 S0
  refine wp_stmt_seq [.new (.box 34 (SF [(Is (.float .f64 x)), (Is (.float .f64 y))])), .new (.box 26 (PR (Zv A k1) (Zv (((D : Nat) : Int)) k2))), kF] [.inl 0, .inl 1] [] follows S0 rfl (by kernel_rfl) ?_ ?_
  · refine ⟨⟨⟨trivial, ?_⟩, ?_⟩, ?_⟩
    · exact owe_box rfl wA rfl (oS 0 0) rfl (fun ρ w h => box_ival shp_iv ρ _ _ w h)
    · exact owe_box rfl wA rfl (oS 1 1) rfl (fun ρ w h => box_rat (shp_pr shp_zv shp_zv) ρ _ _ w h)
    · exact mC
  intro B1 a1 W1 (S1 : Sta w 53 [(2, (.box 34 (SF [(Is (.float .f64 x)), (Is (.float .f64 y))]))), (3, (.box 26 (PR (Zv A k1) (Zv (((D : Nat) : Int)) k2))))] [] _ _ _)
  refine wp_stmt_seq [.val (Part a1 2 0), .val (Is (.float .f64 x)), .val ((TWO (RN (nR (vp px) uF) (dR (vp px) uF)) (IS (.bool true))) w.heap.size), .val ((TWO (RN (nR (vp px) uF) (dR (vp px) uF)) (IS (.bool true))) w.heap.size), .val ((RN (nR (vp px) uF) (dR (vp px) uF)) w.heap.size), kT, .new (.box 26 zR), .put (.inr 6) (.box 26 ((RN (nR (vp px) uF) (dR (vp px) uF)) w.heap.size)), kT] [.inr 0, .inr 1, .inl 6] [.inl 8] follows S1 rfl (by kernel_rfl) ?_ ?_
  · repeat' refine And.intro ?_ ?_
    · trivial
    · exact owe_part rfl wA rfl (k := 0) rfl (by kernel_rfl) rfl (fun ρ w b h => part_ival0 ρ _ _ w b 0 h)
    · exact owe_pload rfl wA rfl (oO 0 9) (k := 0) rfl (by kernel_rfl) rfl (fun ρ w b u h1 h2 h3 => ploadI rfl load1_f64 ρ _ _ w b u h1 h2 h3)
    · exact cc1 wA (qO 1 10 rfl) (fresh_two (fresh_rn _ _) (fresh_is _)) (pur_is (fun w => rexact_fin w x hx px hpx f1))
    · exact mO 2 11
    · exact e20 wA (oO 3 8)
    · exact e21 wA (oO 3 8)
    · exact owe_new rfl wA rfl rfl (fun ρ w => alloc_rat ρ _ w)
    · exact owe_put 6 rfl wA rfl (by kernel_rfl) rfl (oO 4 12) (stores_of strct_rat shp_r0 (shp_pr shp_zn shp_zn)) rfl
    · exact mO 5 13
  intro B2 a2 W2 (S2 : Sta w 53 [(2, (.box 34 (SF [(Is (.float .f64 x)), (Is (.float .f64 y))]))), (3, (.box 26 (PR (Zv A k1) (Zv (((D : Nat) : Int)) k2)))), (5, (.box 26 ((RN (nR (vp px) uF) (dR (vp px) uF)) w.heap.size)))] [(6, bT)] _ _ _)
  refine wp_seq ?_
  refine wp_stmt_seq [kT, kT, .val ((RN (nR (vp px) uF) (dR (vp px) uF)) w.heap.size), .val (PR (Zv A k1) (Zv (((D : Nat) : Int)) k2)), .val (iV (agP px A D)), kF, kF, kF, kT, kF, kF, .off, .off, .off, kF, kF] [.inr 0, .inr 1] [.inl 15] follows S2 rfl (by kernel_rfl) ?_ ?_
  · repeat' refine And.intro ?_ ?_
    · trivial
    · exact mS 0 6
    · exact mO 0 14
    · exact lod 2 (wI 1 15) (loads_of strct_rat (shp_pr shp_zn shp_zn))
    · exact lod 1 (wI 1 15) (loads_of strct_rat (shp_pr shp_zv shp_zv))
    · exact cc2 (wI 1 15) (qO 2 16 rfl) (qO 3 17 rfl) (fresh_is _) (fun w u0 u1 h0 h1 => Gives.cast ((fun w u v h1 h2 => g_rrcmp (dR_ne uF_no) hD (by omega) (by omega) (by omega) (by omega) w u v ((rn_rv (exn_len f1) (exd_len px)) _ _ h1) ((pr_imp (fun _ _ h => h) (fun _ _ h => h)) _ _ h2)) w u0 u1 h0 h1) (by rw [ag_fin f1]))
    · exact b_gtr_int_f (wI 1 15) (oO 4 18) (opnd_const _) (h := g)
    · exact pT wA (oO 1 15) (oO 5 19)
    · exact mO 6 20
    · exact mW (wI 7 21) (oS 0 6)
    · exact b_not (wI 7 21) (oO 8 22)
    · exact mW (wI 7 21) (oO 9 23)
    · exact oF 10 24
    · exact oF 10 24
    · exact oF 10 24
    · exact pF (wI 7 21) (oO 10 24) (opnd_const _)
    · exact pF wA (oO 7 21) (oO 14 28)
  intro B3 a3 W3 (S3 : Sta w 53 [(2, (.box 34 (SF [(Is (.float .f64 x)), (Is (.float .f64 y))]))), (3, (.box 26 (PR (Zv A k1) (Zv (((D : Nat) : Int)) k2))))] [(29, bF)] _ _ _)
  refine wp_cond_false (S3.bool 0 29 rfl) ?_
  refine wp_skip ?_
  refine thenN ?_
  refine wp_stmt_seq [.val (Part a3 2 1), .val (Is (.float .f64 y)), .val ((TWO (RN (nR (vp py) uF) (dR (vp py) uF)) (IS (.bool true))) w.heap.size), .val ((TWO (RN (nR (vp py) uF) (dR (vp py) uF)) (IS (.bool true))) w.heap.size), .val ((RN (nR (vp py) uF) (dR (vp py) uF)) w.heap.size), kT, .new (.box 26 zR), .put (.inr 6) (.box 26 ((RN (nR (vp py) uF) (dR (vp py) uF)) w.heap.size)), kT] [.inr 0, .inr 1, .inl 6] [.inl 8] follows S3 rfl (by kernel_rfl) ?_ ?_
  · repeat' refine And.intro ?_ ?_
    · trivial
    · exact owe_part rfl wA rfl (k := 0) rfl (by kernel_rfl) rfl (fun ρ w b h => part_ival1 ρ _ _ w b 0 h)
    · exact owe_pload rfl wA rfl (oO 0 31) (k := 0) rfl (by kernel_rfl) rfl (fun ρ w b u h1 h2 h3 => ploadI rfl load1_f64 ρ _ _ w b u h1 h2 h3)
    · exact cc1 wA (qO 1 32 rfl) (fresh_two (fresh_rn _ _) (fresh_is _)) (pur_is (fun w => rexact_fin w y hy py hpy f2))
    · exact mO 2 33
    · exact e20 wA (oO 3 30)
    · exact e21 wA (oO 3 30)
    · exact owe_new rfl wA rfl rfl (fun ρ w => alloc_rat ρ _ w)
    · exact owe_put 6 rfl wA rfl (by kernel_rfl) rfl (oO 4 34) (stores_of strct_rat shp_r0 (shp_pr shp_zn shp_zn)) rfl
    · exact mO 5 35
  intro B4 a4 W4 (S4 : Sta w 53 [(2, (.box 34 (SF [(Is (.float .f64 x)), (Is (.float .f64 y))]))), (3, (.box 26 (PR (Zv A k1) (Zv (((D : Nat) : Int)) k2)))), (7, (.box 26 ((RN (nR (vp py) uF) (dR (vp py) uF)) w.heap.size)))] [(6, bT)] _ _ _)
  refine wp_stmt_seq [kT, kT, .val (PR (Zv A k1) (Zv (((D : Nat) : Int)) k2)), .val ((RN (nR (vp py) uF) (dR (vp py) uF)) w.heap.size), .val (iV (-agP py A D)), kT, kT, kT, .off, .off, .val (Is (undef)), .off, .off, .off, .off, kT, kF, kF] [.inr 0] [.inl 17] follows S4 rfl (by kernel_rfl) ?_ ?_
  · repeat' refine And.intro ?_ ?_
    · trivial
    · exact mS 0 6
    · exact mO 0 36
    · exact lod 1 (wI 1 37) (loads_of strct_rat (shp_pr shp_zv shp_zv))
    · exact lod 2 (wI 1 37) (loads_of strct_rat (shp_pr shp_zn shp_zn))
    · exact cc2 (wI 1 37) (qO 2 38 rfl) (qO 3 39 rfl) (fresh_is _) (fun w u0 u1 h0 h1 => Gives.cast ((fun w u v h1 h2 => g_rrcmp hD (dR_ne uF_no) (by omega) (by omega) (by omega) (by omega) w u v ((pr_imp (fun _ _ h => h) (fun _ _ h => h)) _ _ h1) ((rn_rv (exn_len f2) (exd_len py)) _ _ h2)) w u0 u1 h0 h1) (by rw [ag_fin' f2]))
    · exact b_gtr_int_t (wI 1 37) (oO 4 40) (opnd_const _)
    · exact pT wA (oO 1 37) (oO 5 41)
    · exact mO 6 42
    · exact oF 7 43
    · exact oF 7 43
    · exact owe_offv 7 43 rfl rfl rfl (by kernel_rfl) rfl (by decide)
    · exact owe_offu 10 46 rfl rfl rfl (by kernel_rfl) rfl
    · exact owe_offu 10 46 rfl rfl rfl (by kernel_rfl) rfl
    · exact owe_offu 10 46 rfl rfl rfl (by kernel_rfl) rfl
    · exact oF 7 43
    · exact pT wA (oO 7 43) (opnd_const _)
    · exact b_not wA (oO 15 51)
    · exact mO 16 52
  intro B5 a5 W5 (S5 : Sta w 53 [(2, (.box 34 (SF [(Is (.float .f64 x)), (Is (.float .f64 y))])))] [(4, bF)] _ _ _)
  refine wp_ret ?_
  exact end_one S5 rfl (res_tmp S5 0 4 rfl)
set_option maxHeartbeats 400000 in
theorem rhold_fg (w : World) (x y : Nat) (hx : x < 18446744073709551616) (hy : y < 18446744073709551616) (px py : Int) (hpx : plc x = some px) (hpy : plc y = some py) (A : Int) (D k1 k2 : Nat) (r : Value) (hr : Has (fun _ => False) w (Rv A ((D : Nat) : Int) k1 k2) r) (hD : D ≠ 0) (b1 : k1 ≤ 8388608) (b2 : k2 ≤ 8388608) (f1 : Fin px) (g : agP px A D ≤ 0) (f2 : Fin py) (g2 : 0 ≤ agP py A D) :
    Calls Tryz.prog 9 #[(.agg #[.float .f64 x, .float .f64 y]), r] w (Gives (IS (.bool true)) w) := by
  refine calls_sta (sl := [(0, (SF [(Is (.float .f64 x)), (Is (.float .f64 y))])), (1, (PR (Zv A k1) (Zv (((D : Nat) : Int)) k2)))]) Tryz.func9 rfl Tryz.ntmps9 (by simp) (args_cons rfl (ix_has) (args_cons rfl (hr) args_nil)) ?_
  intro a0 S0
  refine wp_stmt_seq [.new (.box 34 (SF [(Is (.float .f64 x)), (Is (.float .f64 y))])), .new (.box 26 (PR (Zv A k1) (Zv (((D : Nat) : Int)) k2))), kF] [.inl 0, .inl 1] [] follows S0 rfl (by kernel_rfl) ?_ ?_
  · refine ⟨⟨⟨trivial, ?_⟩, ?_⟩, ?_⟩
    · exact owe_box rfl wA rfl (oS 0 0) rfl (fun ρ w h => box_ival shp_iv ρ _ _ w h)
    · exact owe_box rfl wA rfl (oS 1 1) rfl (fun ρ w h => box_rat (shp_pr shp_zv shp_zv) ρ _ _ w h)
    · exact mC
  intro B1 a1 W1 (S1 : Sta w 53 [(2, (.box 34 (SF [(Is (.float .f64 x)), (Is (.float .f64 y))]))), (3, (.box 26 (PR (Zv A k1) (Zv (((D : Nat) : Int)) k2))))] [] _ _ _)
  refine wp_stmt_seq [.val (Part a1 2 0), .val (Is (.float .f64 x)), .val ((TWO (RN (nR (vp px) uF) (dR (vp px) uF)) (IS (.bool true))) w.heap.size), .val ((TWO (RN (nR (vp px) uF) (dR (vp px) uF)) (IS (.bool true))) w.heap.size), .val ((RN (nR (vp px) uF) (dR (vp px) uF)) w.heap.size), kT, .new (.box 26 zR), .put (.inr 6) (.box 26 ((RN (nR (vp px) uF) (dR (vp px) uF)) w.heap.size)), kT] [.inr 0, .inr 1, .inl 6] [.inl 8] follows S1 rfl (by kernel_rfl) ?_ ?_
  · repeat' refine And.intro ?_ ?_
    · trivial
    · exact owe_part rfl wA rfl (k := 0) rfl (by kernel_rfl) rfl (fun ρ w b h => part_ival0 ρ _ _ w b 0 h)
    · exact owe_pload rfl wA rfl (oO 0 9) (k := 0) rfl (by kernel_rfl) rfl (fun ρ w b u h1 h2 h3 => ploadI rfl load1_f64 ρ _ _ w b u h1 h2 h3)
    · exact cc1 wA (qO 1 10 rfl) (fresh_two (fresh_rn _ _) (fresh_is _)) (pur_is (fun w => rexact_fin w x hx px hpx f1))
    · exact mO 2 11
    · exact e20 wA (oO 3 8)
    · exact e21 wA (oO 3 8)
    · exact owe_new rfl wA rfl rfl (fun ρ w => alloc_rat ρ _ w)
    · exact owe_put 6 rfl wA rfl (by kernel_rfl) rfl (oO 4 12) (stores_of strct_rat shp_r0 (shp_pr shp_zn shp_zn)) rfl
    · exact mO 5 13
  intro B2 a2 W2 (S2 : Sta w 53 [(2, (.box 34 (SF [(Is (.float .f64 x)), (Is (.float .f64 y))]))), (3, (.box 26 (PR (Zv A k1) (Zv (((D : Nat) : Int)) k2)))), (5, (.box 26 ((RN (nR (vp px) uF) (dR (vp px) uF)) w.heap.size)))] [(6, bT)] _ _ _)
  refine wp_seq ?_
  refine wp_stmt_seq [kT, kT, .val ((RN (nR (vp px) uF) (dR (vp px) uF)) w.heap.size), .val (PR (Zv A k1) (Zv (((D : Nat) : Int)) k2)), .val (iV (agP px A D)), kF, kF, kF, kT, kF, kF, .off, .off, .off, kF, kF] [.inr 0, .inr 1] [.inl 15] follows S2 rfl (by kernel_rfl) ?_ ?_
  · repeat' refine And.intro ?_ ?_
    · trivial
    · exact mS 0 6
    · exact mO 0 14
    · exact lod 2 (wI 1 15) (loads_of strct_rat (shp_pr shp_zn shp_zn))
    · exact lod 1 (wI 1 15) (loads_of strct_rat (shp_pr shp_zv shp_zv))
    · exact cc2 (wI 1 15) (qO 2 16 rfl) (qO 3 17 rfl) (fresh_is _) (fun w u0 u1 h0 h1 => Gives.cast ((fun w u v h1 h2 => g_rrcmp (dR_ne uF_no) hD (by omega) (by omega) (by omega) (by omega) w u v ((rn_rv (exn_len f1) (exd_len px)) _ _ h1) ((pr_imp (fun _ _ h => h) (fun _ _ h => h)) _ _ h2)) w u0 u1 h0 h1) (by rw [ag_fin f1]))
    · exact b_gtr_int_f (wI 1 15) (oO 4 18) (opnd_const _) (h := g)
    · exact pT wA (oO 1 15) (oO 5 19)
    · exact mO 6 20
    · exact mW (wI 7 21) (oS 0 6)
    · exact b_not (wI 7 21) (oO 8 22)
    · exact mW (wI 7 21) (oO 9 23)
    · exact oF 10 24
    · exact oF 10 24
    · exact oF 10 24
    · exact pF (wI 7 21) (oO 10 24) (opnd_const _)
    · exact pF wA (oO 7 21) (oO 14 28)
  intro B3 a3 W3 (S3 : Sta w 53 [(2, (.box 34 (SF [(Is (.float .f64 x)), (Is (.float .f64 y))]))), (3, (.box 26 (PR (Zv A k1) (Zv (((D : Nat) : Int)) k2))))] [(29, bF)] _ _ _)
  refine wp_cond_false (S3.bool 0 29 rfl) ?_
  refine wp_skip ?_
  refine thenN ?_
  refine wp_stmt_seq [.val (Part a3 2 1), .val (Is (.float .f64 y)), .val ((TWO (RN (nR (vp py) uF) (dR (vp py) uF)) (IS (.bool true))) w.heap.size), .val ((TWO (RN (nR (vp py) uF) (dR (vp py) uF)) (IS (.bool true))) w.heap.size), .val ((RN (nR (vp py) uF) (dR (vp py) uF)) w.heap.size), kT, .new (.box 26 zR), .put (.inr 6) (.box 26 ((RN (nR (vp py) uF) (dR (vp py) uF)) w.heap.size)), kT] [.inr 0, .inr 1, .inl 6] [.inl 8] follows S3 rfl (by kernel_rfl) ?_ ?_
  · repeat' refine And.intro ?_ ?_
    · trivial
    · exact owe_part rfl wA rfl (k := 0) rfl (by kernel_rfl) rfl (fun ρ w b h => part_ival1 ρ _ _ w b 0 h)
    · exact owe_pload rfl wA rfl (oO 0 31) (k := 0) rfl (by kernel_rfl) rfl (fun ρ w b u h1 h2 h3 => ploadI rfl load1_f64 ρ _ _ w b u h1 h2 h3)
    · exact cc1 wA (qO 1 32 rfl) (fresh_two (fresh_rn _ _) (fresh_is _)) (pur_is (fun w => rexact_fin w y hy py hpy f2))
    · exact mO 2 33
    · exact e20 wA (oO 3 30)
    · exact e21 wA (oO 3 30)
    · exact owe_new rfl wA rfl rfl (fun ρ w => alloc_rat ρ _ w)
    · exact owe_put 6 rfl wA rfl (by kernel_rfl) rfl (oO 4 34) (stores_of strct_rat shp_r0 (shp_pr shp_zn shp_zn)) rfl
    · exact mO 5 35
  intro B4 a4 W4 (S4 : Sta w 53 [(2, (.box 34 (SF [(Is (.float .f64 x)), (Is (.float .f64 y))]))), (3, (.box 26 (PR (Zv A k1) (Zv (((D : Nat) : Int)) k2)))), (7, (.box 26 ((RN (nR (vp py) uF) (dR (vp py) uF)) w.heap.size)))] [(6, bT)] _ _ _)
  refine wp_stmt_seq [kT, kT, .val (PR (Zv A k1) (Zv (((D : Nat) : Int)) k2)), .val ((RN (nR (vp py) uF) (dR (vp py) uF)) w.heap.size), .val (iV (-agP py A D)), kF, kF, kF, kT, kF, kF, .off, .off, .off, kF, kF, kT, kT] [.inr 0] [.inl 17] follows S4 rfl (by kernel_rfl) ?_ ?_
  · repeat' refine And.intro ?_ ?_
    · trivial
    · exact mS 0 6
    · exact mO 0 36
    · exact lod 1 (wI 1 37) (loads_of strct_rat (shp_pr shp_zv shp_zv))
    · exact lod 2 (wI 1 37) (loads_of strct_rat (shp_pr shp_zn shp_zn))
    · exact cc2 (wI 1 37) (qO 2 38 rfl) (qO 3 39 rfl) (fresh_is _) (fun w u0 u1 h0 h1 => Gives.cast ((fun w u v h1 h2 => g_rrcmp hD (dR_ne uF_no) (by omega) (by omega) (by omega) (by omega) w u v ((pr_imp (fun _ _ h => h) (fun _ _ h => h)) _ _ h1) ((rn_rv (exn_len f2) (exd_len py)) _ _ h2)) w u0 u1 h0 h1) (by rw [ag_fin' f2]))
    · exact b_gtr_int_f (wI 1 37) (oO 4 40) (opnd_const _)
    · exact pT wA (oO 1 37) (oO 5 41)
    · exact mO 6 42
    · exact mW (wI 7 43) (oS 0 6)
    · exact b_not (wI 7 43) (oO 8 44)
    · exact mW (wI 7 43) (oO 9 45)
    · exact oF 10 46
    · exact oF 10 46
    · exact oF 10 46
    · exact pF (wI 7 43) (oO 10 46) (opnd_const _)
    · exact pF wA (oO 7 43) (oO 14 50)
    · exact b_not wA (oO 15 51)
    · exact mO 16 52
  intro B5 a5 W5 (S5 : Sta w 53 [(2, (.box 34 (SF [(Is (.float .f64 x)), (Is (.float .f64 y))])))] [(4, bT)] _ _ _)
  refine wp_ret ?_
  exact end_one S5 rfl (res_tmp S5 0 4 rfl)
set_option maxHeartbeats 400000 in
theorem rhold_fi (w : World) (x y : Nat) (hx : x < 18446744073709551616) (hy : y < 18446744073709551616) (px py : Int) (hpx : plc x = some px) (hpy : plc y = some py) (A : Int) (D k1 k2 : Nat) (r : Value) (hr : Has (fun _ => False) w (Rv A ((D : Nat) : Int) k1 k2) r) (hD : D ≠ 0) (b1 : k1 ≤ 8388608) (b2 : k2 ≤ 8388608) (f1 : Fin px) (g : agP px A D ≤ 0) (f2 : ¬ Fin py) (g2 : py < 0) :
    Calls Tryz.prog 9 #[(.agg #[.float .f64 x, .float .f64 y]), r] w (Gives (IS (.bool false)) w) := by
  refine calls_sta (sl := [(0, (SF [(Is (.float .f64 x)), (Is (.float .f64 y))])), (1, (PR (Zv A k1) (Zv (((D : Nat) : Int)) k2)))]) Tryz.func9 rfl Tryz.ntmps9 (by simp) (args_cons rfl (ix_has) (args_cons rfl (hr) args_nil)) ?_
  intro a0 S0
  refine wp_stmt_seq [.new (.box 34 (SF [(Is (.float .f64 x)), (Is (.float .f64 y))])), .new (.box 26 (PR (Zv A k1) (Zv (((D : Nat) : Int)) k2))), kF] [.inl 0, .inl 1] [] follows S0 rfl (by kernel_rfl) ?_ ?_
  · refine ⟨⟨⟨trivial, ?_⟩, ?_⟩, ?_⟩
    · exact owe_box rfl wA rfl (oS 0 0) rfl (fun ρ w h => box_ival shp_iv ρ _ _ w h)
    · exact owe_box rfl wA rfl (oS 1 1) rfl (fun ρ w h => box_rat (shp_pr shp_zv shp_zv) ρ _ _ w h)
    · exact mC
  intro B1 a1 W1 (S1 : Sta w 53 [(2, (.box 34 (SF [(Is (.float .f64 x)), (Is (.float .f64 y))]))), (3, (.box 26 (PR (Zv A k1) (Zv (((D : Nat) : Int)) k2))))] [] _ _ _)
  refine wp_stmt_seq [.val (Part a1 2 0), .val (Is (.float .f64 x)), .val ((TWO (RN (nR (vp px) uF) (dR (vp px) uF)) (IS (.bool true))) w.heap.size), .val ((TWO (RN (nR (vp px) uF) (dR (vp px) uF)) (IS (.bool true))) w.heap.size), .val ((RN (nR (vp px) uF) (dR (vp px) uF)) w.heap.size), kT, .new (.box 26 zR), .put (.inr 6) (.box 26 ((RN (nR (vp px) uF) (dR (vp px) uF)) w.heap.size)), kT] [.inr 0, .inr 1, .inl 6] [.inl 8] follows S1 rfl (by kernel_rfl) ?_ ?_
  · repeat' refine And.intro ?_ ?_
    · trivial
    · exact owe_part rfl wA rfl (k := 0) rfl (by kernel_rfl) rfl (fun ρ w b h => part_ival0 ρ _ _ w b 0 h)
    · exact owe_pload rfl wA rfl (oO 0 9) (k := 0) rfl (by kernel_rfl) rfl (fun ρ w b u h1 h2 h3 => ploadI rfl load1_f64 ρ _ _ w b u h1 h2 h3)
    · exact cc1 wA (qO 1 10 rfl) (fresh_two (fresh_rn _ _) (fresh_is _)) (pur_is (fun w => rexact_fin w x hx px hpx f1))
    · exact mO 2 11
    · exact e20 wA (oO 3 8)
    · exact e21 wA (oO 3 8)
    · exact owe_new rfl wA rfl rfl (fun ρ w => alloc_rat ρ _ w)
    · exact owe_put 6 rfl wA rfl (by kernel_rfl) rfl (oO 4 12) (stores_of strct_rat shp_r0 (shp_pr shp_zn shp_zn)) rfl
    · exact mO 5 13
  intro B2 a2 W2 (S2 : Sta w 53 [(2, (.box 34 (SF [(Is (.float .f64 x)), (Is (.float .f64 y))]))), (3, (.box 26 (PR (Zv A k1) (Zv (((D : Nat) : Int)) k2)))), (5, (.box 26 ((RN (nR (vp px) uF) (dR (vp px) uF)) w.heap.size)))] [(6, bT)] _ _ _)
  refine wp_seq ?_
  refine wp_stmt_seq [kT, kT, .val ((RN (nR (vp px) uF) (dR (vp px) uF)) w.heap.size), .val (PR (Zv A k1) (Zv (((D : Nat) : Int)) k2)), .val (iV (agP px A D)), kF, kF, kF, kT, kF, kF, .off, .off, .off, kF, kF] [.inr 0, .inr 1] [.inl 15] follows S2 rfl (by kernel_rfl) ?_ ?_
  · repeat' refine And.intro ?_ ?_
    · trivial
    · exact mS 0 6
    · exact mO 0 14
    · exact lod 2 (wI 1 15) (loads_of strct_rat (shp_pr shp_zn shp_zn))
    · exact lod 1 (wI 1 15) (loads_of strct_rat (shp_pr shp_zv shp_zv))
    · exact cc2 (wI 1 15) (qO 2 16 rfl) (qO 3 17 rfl) (fresh_is _) (fun w u0 u1 h0 h1 => Gives.cast ((fun w u v h1 h2 => g_rrcmp (dR_ne uF_no) hD (by omega) (by omega) (by omega) (by omega) w u v ((rn_rv (exn_len f1) (exd_len px)) _ _ h1) ((pr_imp (fun _ _ h => h) (fun _ _ h => h)) _ _ h2)) w u0 u1 h0 h1) (by rw [ag_fin f1]))
    · exact b_gtr_int_f (wI 1 15) (oO 4 18) (opnd_const _) (h := g)
    · exact pT wA (oO 1 15) (oO 5 19)
    · exact mO 6 20
    · exact mW (wI 7 21) (oS 0 6)
    · exact b_not (wI 7 21) (oO 8 22)
    · exact mW (wI 7 21) (oO 9 23)
    · exact oF 10 24
    · exact oF 10 24
    · exact oF 10 24
    · exact pF (wI 7 21) (oO 10 24) (opnd_const _)
    · exact pF wA (oO 7 21) (oO 14 28)
  intro B3 a3 W3 (S3 : Sta w 53 [(2, (.box 34 (SF [(Is (.float .f64 x)), (Is (.float .f64 y))]))), (3, (.box 26 (PR (Zv A k1) (Zv (((D : Nat) : Int)) k2))))] [(29, bF)] _ _ _)
  refine wp_cond_false (S3.bool 0 29 rfl) ?_
  refine wp_skip ?_
  refine thenN ?_
  refine wp_stmt_seq [.val (Part a3 2 1), .val (Is (.float .f64 y)), .val ((TWO (RN 0 1) (IS (.bool false))) w.heap.size), .val ((TWO (RN 0 1) (IS (.bool false))) w.heap.size), .val ((RN 0 1) w.heap.size), kF, .new (.box 26 zR), .put (.inr 6) (.box 26 ((RN 0 1) w.heap.size)), kF] [.inr 0, .inr 1, .inl 6] [.inl 8] follows S3 rfl (by kernel_rfl) ?_ ?_
  · repeat' refine And.intro ?_ ?_
    · trivial
    · exact owe_part rfl wA rfl (k := 0) rfl (by kernel_rfl) rfl (fun ρ w b h => part_ival1 ρ _ _ w b 0 h)
    · exact owe_pload rfl wA rfl (oO 0 31) (k := 0) rfl (by kernel_rfl) rfl (fun ρ w b u h1 h2 h3 => ploadI rfl load1_f64 ρ _ _ w b u h1 h2 h3)
    · exact cc1 wA (qO 1 32 rfl) (fresh_two (fresh_rn _ _) (fresh_is _)) (pur_is (fun w => rexact_not w y hy (fun p2 h2 => by rw [hpy] at h2; obtain rfl := Option.some.inj h2; exact f2)))
    · exact mO 2 33
    · exact e20 wA (oO 3 30)
    · exact e21 wA (oO 3 30)
    · exact owe_new rfl wA rfl rfl (fun ρ w => alloc_rat ρ _ w)
    · exact owe_put 6 rfl wA rfl (by kernel_rfl) rfl (oO 4 34) (stores_of strct_rat shp_r0 (shp_pr shp_zn shp_zn)) rfl
    · exact mO 5 35
  intro B4 a4 W4 (S4 : Sta w 53 [(2, (.box 34 (SF [(Is (.float .f64 x)), (Is (.float .f64 y))]))), (3, (.box 26 (PR (Zv A k1) (Zv (((D : Nat) : Int)) k2)))), (7, (.box 26 ((RN 0 1) w.heap.size)))] [(6, bF)] _ _ _)
  refine wp_stmt_seq [kF, kF, .off, .off, .off, .off, kF, kF, kF, kT, kT, .val (Part a4 2 1), .val (Is (.float .f64 y)), kT, kT, kT, kF, kF] [.inr 0] [.inl 17] follows S4 rfl (by kernel_rfl) ?_ ?_
  · repeat' refine And.intro ?_ ?_
    · trivial
    · exact mS 0 6
    · exact mO 0 36
    · exact oF 1 37
    · exact oF 1 37
    · exact oF 1 37
    · exact oF 1 37
    · exact pF wA (oO 1 37) (opnd_const _)
    · exact mO 6 42
    · exact mW (wI 7 43) (oS 0 6)
    · exact b_not (wI 7 43) (oO 8 44)
    · exact mW (wI 7 43) (oO 9 45)
    · exact owe_part rfl (wI 10 46) rfl (k := 0) rfl (by kernel_rfl) rfl (fun ρ w b h => part_ival1 ρ _ _ w b 0 h)
    · exact owe_pload rfl (wI 10 46) rfl (oO 11 47) (k := 0) rfl (by kernel_rfl) rfl (fun ρ w b u h1 h2 h3 => ploadI rfl load1_f64 ρ _ _ w b u h1 h2 h3)
    · exact owe_fcmp rfl (wI 10 46) rfl ((oO 12 48).imp (fl_is hy)) ((opnd_const _).imp (fl_is (by decide))) (by rw [hpy]; exact lt_t g2) rfl
    · exact pT (wI 7 43) (oO 10 46) (oO 13 49)
    · exact pF wA (oO 7 43) (oO 14 50)
    · exact b_not wA (oO 15 51)
    · exact mO 16 52
  intro B5 a5 W5 (S5 : Sta w 53 [(2, (.box 34 (SF [(Is (.float .f64 x)), (Is (.float .f64 y))])))] [(4, bF)] _ _ _)
  refine wp_ret ?_
  exact end_one S5 rfl (res_tmp S5 0 4 rfl)
set_option maxHeartbeats 400000 in
theorem rhold_fj (w : World) (x y : Nat) (hx : x < 18446744073709551616) (hy : y < 18446744073709551616) (px py : Int) (hpx : plc x = some px) (hpy : plc y = some py) (A : Int) (D k1 k2 : Nat) (r : Value) (hr : Has (fun _ => False) w (Rv A ((D : Nat) : Int) k1 k2) r) (hD : D ≠ 0) (b1 : k1 ≤ 8388608) (b2 : k2 ≤ 8388608) (f1 : Fin px) (g : agP px A D ≤ 0) (f2 : ¬ Fin py) (g2 : 0 ≤ py) :
    Calls Tryz.prog 9 #[(.agg #[.float .f64 x, .float .f64 y]), r] w (Gives (IS (.bool true)) w) := by
  refine calls_sta (sl := [(0, (SF [(Is (.float .f64 x)), (Is (.float .f64 y))])), (1, (PR (Zv A k1) (Zv (((D : Nat) : Int)) k2)))]) Tryz.func9 rfl Tryz.ntmps9 (by simp) (args_cons rfl (ix_has) (args_cons rfl (hr) args_nil)) ?_
  intro a0 S0
  refine wp_stmt_seq [.new (.box 34 (SF [(Is (.float .f64 x)), (Is (.float .f64 y))])), .new (.box 26 (PR (Zv A k1) (Zv (((D : Nat) : Int)) k2))), kF] [.inl 0, .inl 1] [] follows S0 rfl (by kernel_rfl) ?_ ?_
  · refine ⟨⟨⟨trivial, ?_⟩, ?_⟩, ?_⟩
    · exact owe_box rfl wA rfl (oS 0 0) rfl (fun ρ w h => box_ival shp_iv ρ _ _ w h)
    · exact owe_box rfl wA rfl (oS 1 1) rfl (fun ρ w h => box_rat (shp_pr shp_zv shp_zv) ρ _ _ w h)
    · exact mC
  intro B1 a1 W1 (S1 : Sta w 53 [(2, (.box 34 (SF [(Is (.float .f64 x)), (Is (.float .f64 y))]))), (3, (.box 26 (PR (Zv A k1) (Zv (((D : Nat) : Int)) k2))))] [] _ _ _)
  refine wp_stmt_seq [.val (Part a1 2 0), .val (Is (.float .f64 x)), .val ((TWO (RN (nR (vp px) uF) (dR (vp px) uF)) (IS (.bool true))) w.heap.size), .val ((TWO (RN (nR (vp px) uF) (dR (vp px) uF)) (IS (.bool true))) w.heap.size), .val ((RN (nR (vp px) uF) (dR (vp px) uF)) w.heap.size), kT, .new (.box 26 zR), .put (.inr 6) (.box 26 ((RN (nR (vp px) uF) (dR (vp px) uF)) w.heap.size)), kT] [.inr 0, .inr 1, .inl 6] [.inl 8] follows S1 rfl (by kernel_rfl) ?_ ?_
  · repeat' refine And.intro ?_ ?_
    · trivial
    · exact owe_part rfl wA rfl (k := 0) rfl (by kernel_rfl) rfl (fun ρ w b h => part_ival0 ρ _ _ w b 0 h)
    · exact owe_pload rfl wA rfl (oO 0 9) (k := 0) rfl (by kernel_rfl) rfl (fun ρ w b u h1 h2 h3 => ploadI rfl load1_f64 ρ _ _ w b u h1 h2 h3)
    · exact cc1 wA (qO 1 10 rfl) (fresh_two (fresh_rn _ _) (fresh_is _)) (pur_is (fun w => rexact_fin w x hx px hpx f1))
    · exact mO 2 11
    · exact e20 wA (oO 3 8)
    · exact e21 wA (oO 3 8)
    · exact owe_new rfl wA rfl rfl (fun ρ w => alloc_rat ρ _ w)
    · exact owe_put 6 rfl wA rfl (by kernel_rfl) rfl (oO 4 12) (stores_of strct_rat shp_r0 (shp_pr shp_zn shp_zn)) rfl
    · exact mO 5 13
  intro B2 a2 W2 (S2 : Sta w 53 [(2, (.box 34 (SF [(Is (.float .f64 x)), (Is (.float .f64 y))]))), (3, (.box 26 (PR (Zv A k1) (Zv (((D : Nat) : Int)) k2)))), (5, (.box 26 ((RN (nR (vp px) uF) (dR (vp px) uF)) w.heap.size)))] [(6, bT)] _ _ _)
  refine wp_seq ?_
  refine wp_stmt_seq [kT, kT, .val ((RN (nR (vp px) uF) (dR (vp px) uF)) w.heap.size), .val (PR (Zv A k1) (Zv (((D : Nat) : Int)) k2)), .val (iV (agP px A D)), kF, kF, kF, kT, kF, kF, .off, .off, .off, kF, kF] [.inr 0, .inr 1] [.inl 15] follows S2 rfl (by kernel_rfl) ?_ ?_
  · repeat' refine And.intro ?_ ?_
    · trivial
    · exact mS 0 6
    · exact mO 0 14
    · exact lod 2 (wI 1 15) (loads_of strct_rat (shp_pr shp_zn shp_zn))
    · exact lod 1 (wI 1 15) (loads_of strct_rat (shp_pr shp_zv shp_zv))
    · exact cc2 (wI 1 15) (qO 2 16 rfl) (qO 3 17 rfl) (fresh_is _) (fun w u0 u1 h0 h1 => Gives.cast ((fun w u v h1 h2 => g_rrcmp (dR_ne uF_no) hD (by omega) (by omega) (by omega) (by omega) w u v ((rn_rv (exn_len f1) (exd_len px)) _ _ h1) ((pr_imp (fun _ _ h => h) (fun _ _ h => h)) _ _ h2)) w u0 u1 h0 h1) (by rw [ag_fin f1]))
    · exact b_gtr_int_f (wI 1 15) (oO 4 18) (opnd_const _) (h := g)
    · exact pT wA (oO 1 15) (oO 5 19)
    · exact mO 6 20
    · exact mW (wI 7 21) (oS 0 6)
    · exact b_not (wI 7 21) (oO 8 22)
    · exact mW (wI 7 21) (oO 9 23)
    · exact oF 10 24
    · exact oF 10 24
    · exact oF 10 24
    · exact pF (wI 7 21) (oO 10 24) (opnd_const _)
    · exact pF wA (oO 7 21) (oO 14 28)
  intro B3 a3 W3 (S3 : Sta w 53 [(2, (.box 34 (SF [(Is (.float .f64 x)), (Is (.float .f64 y))]))), (3, (.box 26 (PR (Zv A k1) (Zv (((D : Nat) : Int)) k2))))] [(29, bF)] _ _ _)
  refine wp_cond_false (S3.bool 0 29 rfl) ?_
  refine wp_skip ?_
  refine thenN ?_
  refine wp_stmt_seq [.val (Part a3 2 1), .val (Is (.float .f64 y)), .val ((TWO (RN 0 1) (IS (.bool false))) w.heap.size), .val ((TWO (RN 0 1) (IS (.bool false))) w.heap.size), .val ((RN 0 1) w.heap.size), kF, .new (.box 26 zR), .put (.inr 6) (.box 26 ((RN 0 1) w.heap.size)), kF] [.inr 0, .inr 1, .inl 6] [.inl 8] follows S3 rfl (by kernel_rfl) ?_ ?_
  · repeat' refine And.intro ?_ ?_
    · trivial
    · exact owe_part rfl wA rfl (k := 0) rfl (by kernel_rfl) rfl (fun ρ w b h => part_ival1 ρ _ _ w b 0 h)
    · exact owe_pload rfl wA rfl (oO 0 31) (k := 0) rfl (by kernel_rfl) rfl (fun ρ w b u h1 h2 h3 => ploadI rfl load1_f64 ρ _ _ w b u h1 h2 h3)
    · exact cc1 wA (qO 1 32 rfl) (fresh_two (fresh_rn _ _) (fresh_is _)) (pur_is (fun w => rexact_not w y hy (fun p2 h2 => by rw [hpy] at h2; obtain rfl := Option.some.inj h2; exact f2)))
    · exact mO 2 33
    · exact e20 wA (oO 3 30)
    · exact e21 wA (oO 3 30)
    · exact owe_new rfl wA rfl rfl (fun ρ w => alloc_rat ρ _ w)
    · exact owe_put 6 rfl wA rfl (by kernel_rfl) rfl (oO 4 34) (stores_of strct_rat shp_r0 (shp_pr shp_zn shp_zn)) rfl
    · exact mO 5 35
  intro B4 a4 W4 (S4 : Sta w 53 [(2, (.box 34 (SF [(Is (.float .f64 x)), (Is (.float .f64 y))]))), (3, (.box 26 (PR (Zv A k1) (Zv (((D : Nat) : Int)) k2)))), (7, (.box 26 ((RN 0 1) w.heap.size)))] [(6, bF)] _ _ _)
  refine wp_stmt_seq [kF, kF, .off, .off, .off, .off, kF, kF, kF, kT, kT, .val (Part a4 2 1), .val (Is (.float .f64 y)), kF, kF, kF, kT, kT] [.inr 0] [.inl 17] follows S4 rfl (by kernel_rfl) ?_ ?_
  · repeat' refine And.intro ?_ ?_
    · trivial
    · exact mS 0 6
    · exact mO 0 36
    · exact oF 1 37
    · exact oF 1 37
    · exact oF 1 37
    · exact oF 1 37
    · exact pF wA (oO 1 37) (opnd_const _)
    · exact mO 6 42
    · exact mW (wI 7 43) (oS 0 6)
    · exact b_not (wI 7 43) (oO 8 44)
    · exact mW (wI 7 43) (oO 9 45)
    · exact owe_part rfl (wI 10 46) rfl (k := 0) rfl (by kernel_rfl) rfl (fun ρ w b h => part_ival1 ρ _ _ w b 0 h)
    · exact owe_pload rfl (wI 10 46) rfl (oO 11 47) (k := 0) rfl (by kernel_rfl) rfl (fun ρ w b u h1 h2 h3 => ploadI rfl load1_f64 ρ _ _ w b u h1 h2 h3)
    · exact owe_fcmp rfl (wI 10 46) rfl ((oO 12 48).imp (fl_is hy)) ((opnd_const _).imp (fl_is (by decide))) (by rw [hpy]; exact lt_f (by omega)) rfl
    · exact pT (wI 7 43) (oO 10 46) (oO 13 49)
    · exact pF wA (oO 7 43) (oO 14 50)
    · exact b_not wA (oO 15 51)
    · exact mO 16 52
  intro B5 a5 W5 (S5 : Sta w 53 [(2, (.box 34 (SF [(Is (.float .f64 x)), (Is (.float .f64 y))])))] [(4, bT)] _ _ _)
  refine wp_ret ?_
  exact end_one S5 rfl (res_tmp S5 0 4 rfl)
set_option maxHeartbeats 400000 in
theorem rhold_if (w : World) (x y : Nat) (hx : x < 18446744073709551616) (hy : y < 18446744073709551616) (px py : Int) (hpx : plc x = some px) (hpy : plc y = some py) (A : Int) (D k1 k2 : Nat) (r : Value) (hr : Has (fun _ => False) w (Rv A ((D : Nat) : Int) k1 k2) r) (hD : D ≠ 0) (b1 : k1 ≤ 8388608) (b2 : k2 ≤ 8388608) (f1 : ¬ Fin px) (g : px ≤ 0) (f2 : Fin py) (g2 : agP py A D < 0) :
    Calls Tryz.prog 9 #[(.agg #[.float .f64 x, .float .f64 y]), r] w (Gives (IS (.bool false)) w) := by
  refine calls_sta (sl := [(0, (SF [(Is (.float .f64 x)), (Is (.float .f64 y))])), (1, (PR (Zv A k1) (Zv (((D : Nat) : Int)) k2)))]) Tryz.func9 rfl Tryz.ntmps9 (by simp) (args_cons rfl (ix_has) (args_cons rfl (hr) args_nil)) ?_
  intro a0 S0
  refine wp_stmt_seq [.new (.box 34 (SF [(Is (.float .f64 x)), (Is (.float .f64 y))])), .new (.box 26 (PR (Zv A k1) (Zv (((D : Nat) : Int)) k2))), kF] [.inl 0, .inl 1] [] follows S0 rfl (by kernel_rfl) ?_ ?_
  · refine ⟨⟨⟨trivial, ?_⟩, ?_⟩, ?_⟩
    · exact owe_box rfl wA rfl (oS 0 0) rfl (fun ρ w h => box_ival shp_iv ρ _ _ w h)
    · exact owe_box rfl wA rfl (oS 1 1) rfl (fun ρ w h => box_rat (shp_pr shp_zv shp_zv) ρ _ _ w h)
    · exact mC
  intro B1 a1 W1 (S1 : Sta w 53 [(2, (.box 34 (SF [(Is (.float .f64 x)), (Is (.float .f64 y))]))), (3, (.box 26 (PR (Zv A k1) (Zv (((D : Nat) : Int)) k2))))] [] _ _ _)
  refine wp_stmt_seq [.val (Part a1 2 0), .val (Is (.float .f64 x)), .val ((TWO (RN 0 1) (IS (.bool false))) w.heap.size), .val ((TWO (RN 0 1) (IS (.bool false))) w.heap.size), .val ((RN 0 1) w.heap.size), kF, .new (.box 26 zR), .put (.inr 6) (.box 26 ((RN 0 1) w.heap.size)), kF] [.inr 0, .inr 1, .inl 6] [.inl 8] follows S1 rfl (by kernel_rfl) ?_ ?_
  · repeat' refine And.intro ?_ ?_
    · trivial
    · exact owe_part rfl wA rfl (k := 0) rfl (by kernel_rfl) rfl (fun ρ w b h => part_ival0 ρ _ _ w b 0 h)
    · exact owe_pload rfl wA rfl (oO 0 9) (k := 0) rfl (by kernel_rfl) rfl (fun ρ w b u h1 h2 h3 => ploadI rfl load1_f64 ρ _ _ w b u h1 h2 h3)
    · exact cc1 wA (qO 1 10 rfl) (fresh_two (fresh_rn _ _) (fresh_is _)) (pur_is (fun w => rexact_not w x hx (fun p2 h2 => by rw [hpx] at h2; obtain rfl := Option.some.inj h2; exact f1)))
    · exact mO 2 11
    · exact e20 wA (oO 3 8)
    · exact e21 wA (oO 3 8)
    · exact owe_new rfl wA rfl rfl (fun ρ w => alloc_rat ρ _ w)
    · exact owe_put 6 rfl wA rfl (by kernel_rfl) rfl (oO 4 12) (stores_of strct_rat shp_r0 (shp_pr shp_zn shp_zn)) rfl
    · exact mO 5 13
  intro B2 a2 W2 (S2 : Sta w 53 [(2, (.box 34 (SF [(Is (.float .f64 x)), (Is (.float .f64 y))]))), (3, (.box 26 (PR (Zv A k1) (Zv (((D : Nat) : Int)) k2)))), (5, (.box 26 ((RN 0 1) w.heap.size)))] [(6, bF)] _ _ _)
  refine wp_seq ?_
  refine wp_stmt_seq [kF, kF, .off, .off, .off, .off, kF, kF, kF, kT, kT, .val (Part a2 2 0), .val (Is (.float .f64 x)), kF, kF, kF] [.inr 0, .inr 1] [.inl 15] follows S2 rfl (by kernel_rfl) ?_ ?_
  · repeat' refine And.intro ?_ ?_
    · trivial
    · exact mS 0 6
    · exact mO 0 14
    · exact oF 1 15
    · exact oF 1 15
    · exact oF 1 15
    · exact oF 1 15
    · exact pF wA (oO 1 15) (opnd_const _)
    · exact mO 6 20
    · exact mW (wI 7 21) (oS 0 6)
    · exact b_not (wI 7 21) (oO 8 22)
    · exact mW (wI 7 21) (oO 9 23)
    · exact owe_part rfl (wI 10 24) rfl (k := 0) rfl (by kernel_rfl) rfl (fun ρ w b h => part_ival0 ρ _ _ w b 0 h)
    · exact owe_pload rfl (wI 10 24) rfl (oO 11 25) (k := 0) rfl (by kernel_rfl) rfl (fun ρ w b u h1 h2 h3 => ploadI rfl load1_f64 ρ _ _ w b u h1 h2 h3)
    · exact owe_fcmp rfl (wI 10 24) rfl ((oO 12 26).imp (fl_is hx)) ((opnd_const _).imp (fl_is (by decide))) (by rw [hpx]; exact gt_f (by omega)) rfl
    · exact pT (wI 7 21) (oO 10 24) (oO 13 27)
    · exact pF wA (oO 7 21) (oO 14 28)
  intro B3 a3 W3 (S3 : Sta w 53 [(2, (.box 34 (SF [(Is (.float .f64 x)), (Is (.float .f64 y))]))), (3, (.box 26 (PR (Zv A k1) (Zv (((D : Nat) : Int)) k2))))] [(29, bF)] _ _ _)
  refine wp_cond_false (S3.bool 0 29 rfl) ?_
  refine wp_skip ?_
  refine thenN ?_
  refine wp_stmt_seq [.val (Part a3 2 1), .val (Is (.float .f64 y)), .val ((TWO (RN (nR (vp py) uF) (dR (vp py) uF)) (IS (.bool true))) w.heap.size), .val ((TWO (RN (nR (vp py) uF) (dR (vp py) uF)) (IS (.bool true))) w.heap.size), .val ((RN (nR (vp py) uF) (dR (vp py) uF)) w.heap.size), kT, .new (.box 26 zR), .put (.inr 6) (.box 26 ((RN (nR (vp py) uF) (dR (vp py) uF)) w.heap.size)), kT] [.inr 0, .inr 1, .inl 6] [.inl 8] follows S3 rfl (by kernel_rfl) ?_ ?_
  · repeat' refine And.intro ?_ ?_
    · trivial
    · exact owe_part rfl wA rfl (k := 0) rfl (by kernel_rfl) rfl (fun ρ w b h => part_ival1 ρ _ _ w b 0 h)
    · exact owe_pload rfl wA rfl (oO 0 31) (k := 0) rfl (by kernel_rfl) rfl (fun ρ w b u h1 h2 h3 => ploadI rfl load1_f64 ρ _ _ w b u h1 h2 h3)
    · exact cc1 wA (qO 1 32 rfl) (fresh_two (fresh_rn _ _) (fresh_is _)) (pur_is (fun w => rexact_fin w y hy py hpy f2))
    · exact mO 2 33
    · exact e20 wA (oO 3 30)
    · exact e21 wA (oO 3 30)
    · exact owe_new rfl wA rfl rfl (fun ρ w => alloc_rat ρ _ w)
    · exact owe_put 6 rfl wA rfl (by kernel_rfl) rfl (oO 4 34) (stores_of strct_rat shp_r0 (shp_pr shp_zn shp_zn)) rfl
    · exact mO 5 35
  intro B4 a4 W4 (S4 : Sta w 53 [(2, (.box 34 (SF [(Is (.float .f64 x)), (Is (.float .f64 y))]))), (3, (.box 26 (PR (Zv A k1) (Zv (((D : Nat) : Int)) k2)))), (7, (.box 26 ((RN (nR (vp py) uF) (dR (vp py) uF)) w.heap.size)))] [(6, bT)] _ _ _)
  refine wp_stmt_seq [kT, kT, .val (PR (Zv A k1) (Zv (((D : Nat) : Int)) k2)), .val ((RN (nR (vp py) uF) (dR (vp py) uF)) w.heap.size), .val (iV (-agP py A D)), kT, kT, kT, .off, .off, .val (Is (undef)), .off, .off, .off, .off, kT, kF, kF] [.inr 0] [.inl 17] follows S4 rfl (by kernel_rfl) ?_ ?_
  · repeat' refine And.intro ?_ ?_
    · trivial
    · exact mS 0 6
    · exact mO 0 36
    · exact lod 1 (wI 1 37) (loads_of strct_rat (shp_pr shp_zv shp_zv))
    · exact lod 2 (wI 1 37) (loads_of strct_rat (shp_pr shp_zn shp_zn))
    · exact cc2 (wI 1 37) (qO 2 38 rfl) (qO 3 39 rfl) (fresh_is _) (fun w u0 u1 h0 h1 => Gives.cast ((fun w u v h1 h2 => g_rrcmp hD (dR_ne uF_no) (by omega) (by omega) (by omega) (by omega) w u v ((pr_imp (fun _ _ h => h) (fun _ _ h => h)) _ _ h1) ((rn_rv (exn_len f2) (exd_len py)) _ _ h2)) w u0 u1 h0 h1) (by rw [ag_fin' f2]))
    · exact b_gtr_int_t (wI 1 37) (oO 4 40) (opnd_const _)
    · exact pT wA (oO 1 37) (oO 5 41)
    · exact mO 6 42
    · exact oF 7 43
    · exact oF 7 43
    · exact owe_offv 7 43 rfl rfl rfl (by kernel_rfl) rfl (by decide)
    · exact owe_offu 10 46 rfl rfl rfl (by kernel_rfl) rfl
    · exact owe_offu 10 46 rfl rfl rfl (by kernel_rfl) rfl
    · exact owe_offu 10 46 rfl rfl rfl (by kernel_rfl) rfl
    · exact oF 7 43
    · exact pT wA (oO 7 43) (opnd_const _)
    · exact b_not wA (oO 15 51)
    · exact mO 16 52
  intro B5 a5 W5 (S5 : Sta w 53 [(2, (.box 34 (SF [(Is (.float .f64 x)), (Is (.float .f64 y))])))] [(4, bF)] _ _ _)
  refine wp_ret ?_
  exact end_one S5 rfl (res_tmp S5 0 4 rfl)
set_option maxHeartbeats 400000 in
theorem rhold_ig (w : World) (x y : Nat) (hx : x < 18446744073709551616) (hy : y < 18446744073709551616) (px py : Int) (hpx : plc x = some px) (hpy : plc y = some py) (A : Int) (D k1 k2 : Nat) (r : Value) (hr : Has (fun _ => False) w (Rv A ((D : Nat) : Int) k1 k2) r) (hD : D ≠ 0) (b1 : k1 ≤ 8388608) (b2 : k2 ≤ 8388608) (f1 : ¬ Fin px) (g : px ≤ 0) (f2 : Fin py) (g2 : 0 ≤ agP py A D) :
    Calls Tryz.prog 9 #[(.agg #[.float .f64 x, .float .f64 y]), r] w (Gives (IS (.bool true)) w) := by
  refine calls_sta (sl := [(0, (SF [(Is (.float .f64 x)), (Is (.float .f64 y))])), (1, (PR (Zv A k1) (Zv (((D : Nat) : Int)) k2)))]) Tryz.func9 rfl Tryz.ntmps9 (by simp) (args_cons rfl (ix_has) (args_cons rfl (hr) args_nil)) ?_
  intro a0 S0
  refine wp_stmt_seq [.new (.box 34 (SF [(Is (.float .f64 x)), (Is (.float .f64 y))])), .new (.box 26 (PR (Zv A k1) (Zv (((D : Nat) : Int)) k2))), kF] [.inl 0, .inl 1] [] follows S0 rfl (by kernel_rfl) ?_ ?_
  · refine ⟨⟨⟨trivial, ?_⟩, ?_⟩, ?_⟩
    · exact owe_box rfl wA rfl (oS 0 0) rfl (fun ρ w h => box_ival shp_iv ρ _ _ w h)
    · exact owe_box rfl wA rfl (oS 1 1) rfl (fun ρ w h => box_rat (shp_pr shp_zv shp_zv) ρ _ _ w h)
    · exact mC
  intro B1 a1 W1 (S1 : Sta w 53 [(2, (.box 34 (SF [(Is (.float .f64 x)), (Is (.float .f64 y))]))), (3, (.box 26 (PR (Zv A k1) (Zv (((D : Nat) : Int)) k2))))] [] _ _ _)
  refine wp_stmt_seq [.val (Part a1 2 0), .val (Is (.float .f64 x)), .val ((TWO (RN 0 1) (IS (.bool false))) w.heap.size), .val ((TWO (RN 0 1) (IS (.bool false))) w.heap.size), .val ((RN 0 1) w.heap.size), kF, .new (.box 26 zR), .put (.inr 6) (.box 26 ((RN 0 1) w.heap.size)), kF] [.inr 0, .inr 1, .inl 6] [.inl 8] follows S1 rfl (by kernel_rfl) ?_ ?_
  · repeat' refine And.intro ?_ ?_
    · trivial
    · exact owe_part rfl wA rfl (k := 0) rfl (by kernel_rfl) rfl (fun ρ w b h => part_ival0 ρ _ _ w b 0 h)
    · exact owe_pload rfl wA rfl (oO 0 9) (k := 0) rfl (by kernel_rfl) rfl (fun ρ w b u h1 h2 h3 => ploadI rfl load1_f64 ρ _ _ w b u h1 h2 h3)
    · exact cc1 wA (qO 1 10 rfl) (fresh_two (fresh_rn _ _) (fresh_is _)) (pur_is (fun w => rexact_not w x hx (fun p2 h2 => by rw [hpx] at h2; obtain rfl := Option.some.inj h2; exact f1)))
    · exact mO 2 11
    · exact e20 wA (oO 3 8)
    · exact e21 wA (oO 3 8)
    · exact owe_new rfl wA rfl rfl (fun ρ w => alloc_rat ρ _ w)
    · exact owe_put 6 rfl wA rfl (by kernel_rfl) rfl (oO 4 12) (stores_of strct_rat shp_r0 (shp_pr shp_zn shp_zn)) rfl
    · exact mO 5 13
  intro B2 a2 W2 (S2 : Sta w 53 [(2, (.box 34 (SF [(Is (.float .f64 x)), (Is (.float .f64 y))]))), (3, (.box 26 (PR (Zv A k1) (Zv (((D : Nat) : Int)) k2)))), (5, (.box 26 ((RN 0 1) w.heap.size)))] [(6, bF)] _ _ _)
  refine wp_seq ?_
  refine wp_stmt_seq [kF, kF, .off, .off, .off, .off, kF, kF, kF, kT, kT, .val (Part a2 2 0), .val (Is (.float .f64 x)), kF, kF, kF] [.inr 0, .inr 1] [.inl 15] follows S2 rfl (by kernel_rfl) ?_ ?_
  · repeat' refine And.intro ?_ ?_
    · trivial
    · exact mS 0 6
    · exact mO 0 14
    · exact oF 1 15
    · exact oF 1 15
    · exact oF 1 15
    · exact oF 1 15
    · exact pF wA (oO 1 15) (opnd_const _)
    · exact mO 6 20
    · exact mW (wI 7 21) (oS 0 6)
    · exact b_not (wI 7 21) (oO 8 22)
    · exact mW (wI 7 21) (oO 9 23)
    · exact owe_part rfl (wI 10 24) rfl (k := 0) rfl (by kernel_rfl) rfl (fun ρ w b h => part_ival0 ρ _ _ w b 0 h)
    · exact owe_pload rfl (wI 10 24) rfl (oO 11 25) (k := 0) rfl (by kernel_rfl) rfl (fun ρ w b u h1 h2 h3 => ploadI rfl load1_f64 ρ _ _ w b u h1 h2 h3)
    · exact owe_fcmp rfl (wI 10 24) rfl ((oO 12 26).imp (fl_is hx)) ((opnd_const _).imp (fl_is (by decide))) (by rw [hpx]; exact gt_f (by omega)) rfl
    · exact pT (wI 7 21) (oO 10 24) (oO 13 27)
    · exact pF wA (oO 7 21) (oO 14 28)
  intro B3 a3 W3 (S3 : Sta w 53 [(2, (.box 34 (SF [(Is (.float .f64 x)), (Is (.float .f64 y))]))), (3, (.box 26 (PR (Zv A k1) (Zv (((D : Nat) : Int)) k2))))] [(29, bF)] _ _ _)
  refine wp_cond_false (S3.bool 0 29 rfl) ?_
  refine wp_skip ?_
  refine thenN ?_
  refine wp_stmt_seq [.val (Part a3 2 1), .val (Is (.float .f64 y)), .val ((TWO (RN (nR (vp py) uF) (dR (vp py) uF)) (IS (.bool true))) w.heap.size), .val ((TWO (RN (nR (vp py) uF) (dR (vp py) uF)) (IS (.bool true))) w.heap.size), .val ((RN (nR (vp py) uF) (dR (vp py) uF)) w.heap.size), kT, .new (.box 26 zR), .put (.inr 6) (.box 26 ((RN (nR (vp py) uF) (dR (vp py) uF)) w.heap.size)), kT] [.inr 0, .inr 1, .inl 6] [.inl 8] follows S3 rfl (by kernel_rfl) ?_ ?_
  · repeat' refine And.intro ?_ ?_
    · trivial
    · exact owe_part rfl wA rfl (k := 0) rfl (by kernel_rfl) rfl (fun ρ w b h => part_ival1 ρ _ _ w b 0 h)
    · exact owe_pload rfl wA rfl (oO 0 31) (k := 0) rfl (by kernel_rfl) rfl (fun ρ w b u h1 h2 h3 => ploadI rfl load1_f64 ρ _ _ w b u h1 h2 h3)
    · exact cc1 wA (qO 1 32 rfl) (fresh_two (fresh_rn _ _) (fresh_is _)) (pur_is (fun w => rexact_fin w y hy py hpy f2))
    · exact mO 2 33
    · exact e20 wA (oO 3 30)
    · exact e21 wA (oO 3 30)
    · exact owe_new rfl wA rfl rfl (fun ρ w => alloc_rat ρ _ w)
    · exact owe_put 6 rfl wA rfl (by kernel_rfl) rfl (oO 4 34) (stores_of strct_rat shp_r0 (shp_pr shp_zn shp_zn)) rfl
    · exact mO 5 35
  intro B4 a4 W4 (S4 : Sta w 53 [(2, (.box 34 (SF [(Is (.float .f64 x)), (Is (.float .f64 y))]))), (3, (.box 26 (PR (Zv A k1) (Zv (((D : Nat) : Int)) k2)))), (7, (.box 26 ((RN (nR (vp py) uF) (dR (vp py) uF)) w.heap.size)))] [(6, bT)] _ _ _)
  refine wp_stmt_seq [kT, kT, .val (PR (Zv A k1) (Zv (((D : Nat) : Int)) k2)), .val ((RN (nR (vp py) uF) (dR (vp py) uF)) w.heap.size), .val (iV (-agP py A D)), kF, kF, kF, kT, kF, kF, .off, .off, .off, kF, kF, kT, kT] [.inr 0] [.inl 17] follows S4 rfl (by kernel_rfl) ?_ ?_
  · repeat' refine And.intro ?_ ?_
    · trivial
    · exact mS 0 6
    · exact mO 0 36
    · exact lod 1 (wI 1 37) (loads_of strct_rat (shp_pr shp_zv shp_zv))
    · exact lod 2 (wI 1 37) (loads_of strct_rat (shp_pr shp_zn shp_zn))
    · exact cc2 (wI 1 37) (qO 2 38 rfl) (qO 3 39 rfl) (fresh_is _) (fun w u0 u1 h0 h1 => Gives.cast ((fun w u v h1 h2 => g_rrcmp hD (dR_ne uF_no) (by omega) (by omega) (by omega) (by omega) w u v ((pr_imp (fun _ _ h => h) (fun _ _ h => h)) _ _ h1) ((rn_rv (exn_len f2) (exd_len py)) _ _ h2)) w u0 u1 h0 h1) (by rw [ag_fin' f2]))
    · exact b_gtr_int_f (wI 1 37) (oO 4 40) (opnd_const _)
    · exact pT wA (oO 1 37) (oO 5 41)
    · exact mO 6 42
    · exact mW (wI 7 43) (oS 0 6)
    · exact b_not (wI 7 43) (oO 8 44)
    · exact mW (wI 7 43) (oO 9 45)
    · exact oF 10 46
    · exact oF 10 46
    · exact oF 10 46
    · exact pF (wI 7 43) (oO 10 46) (opnd_const _)
    · exact pF wA (oO 7 43) (oO 14 50)
    · exact b_not wA (oO 15 51)
    · exact mO 16 52
  intro B5 a5 W5 (S5 : Sta w 53 [(2, (.box 34 (SF [(Is (.float .f64 x)), (Is (.float .f64 y))])))] [(4, bT)] _ _ _)
  refine wp_ret ?_
  exact end_one S5 rfl (res_tmp S5 0 4 rfl)
set_option maxHeartbeats 400000 in
theorem rhold_ii (w : World) (x y : Nat) (hx : x < 18446744073709551616) (hy : y < 18446744073709551616) (px py : Int) (hpx : plc x = some px) (hpy : plc y = some py) (A : Int) (D k1 k2 : Nat) (r : Value) (hr : Has (fun _ => False) w (Rv A ((D : Nat) : Int) k1 k2) r) (hD : D ≠ 0) (b1 : k1 ≤ 8388608) (b2 : k2 ≤ 8388608) (f1 : ¬ Fin px) (g : px ≤ 0) (f2 : ¬ Fin py) (g2 : py < 0) :
    Calls Tryz.prog 9 #[(.agg #[.float .f64 x, .float .f64 y]), r] w (Gives (IS (.bool false)) w) := by
  refine calls_sta (sl := [(0, (SF [(Is (.float .f64 x)), (Is (.float .f64 y))])), (1, (PR (Zv A k1) (Zv (((D : Nat) : Int)) k2)))]) Tryz.func9 rfl Tryz.ntmps9 (by simp) (args_cons rfl (ix_has) (args_cons rfl (hr) args_nil)) ?_
  intro a0 S0
  refine wp_stmt_seq [.new (.box 34 (SF [(Is (.float .f64 x)), (Is (.float .f64 y))])), .new (.box 26 (PR (Zv A k1) (Zv (((D : Nat) : Int)) k2))), kF] [.inl 0, .inl 1] [] follows S0 rfl (by kernel_rfl) ?_ ?_
  · refine ⟨⟨⟨trivial, ?_⟩, ?_⟩, ?_⟩
    · exact owe_box rfl wA rfl (oS 0 0) rfl (fun ρ w h => box_ival shp_iv ρ _ _ w h)
    · exact owe_box rfl wA rfl (oS 1 1) rfl (fun ρ w h => box_rat (shp_pr shp_zv shp_zv) ρ _ _ w h)
    · exact mC
  intro B1 a1 W1 (S1 : Sta w 53 [(2, (.box 34 (SF [(Is (.float .f64 x)), (Is (.float .f64 y))]))), (3, (.box 26 (PR (Zv A k1) (Zv (((D : Nat) : Int)) k2))))] [] _ _ _)
  refine wp_stmt_seq [.val (Part a1 2 0), .val (Is (.float .f64 x)), .val ((TWO (RN 0 1) (IS (.bool false))) w.heap.size), .val ((TWO (RN 0 1) (IS (.bool false))) w.heap.size), .val ((RN 0 1) w.heap.size), kF, .new (.box 26 zR), .put (.inr 6) (.box 26 ((RN 0 1) w.heap.size)), kF] [.inr 0, .inr 1, .inl 6] [.inl 8] follows S1 rfl (by kernel_rfl) ?_ ?_
  · repeat' refine And.intro ?_ ?_
    · trivial
    · exact owe_part rfl wA rfl (k := 0) rfl (by kernel_rfl) rfl (fun ρ w b h => part_ival0 ρ _ _ w b 0 h)
    · exact owe_pload rfl wA rfl (oO 0 9) (k := 0) rfl (by kernel_rfl) rfl (fun ρ w b u h1 h2 h3 => ploadI rfl load1_f64 ρ _ _ w b u h1 h2 h3)
    · exact cc1 wA (qO 1 10 rfl) (fresh_two (fresh_rn _ _) (fresh_is _)) (pur_is (fun w => rexact_not w x hx (fun p2 h2 => by rw [hpx] at h2; obtain rfl := Option.some.inj h2; exact f1)))
    · exact mO 2 11
    · exact e20 wA (oO 3 8)
    · exact e21 wA (oO 3 8)
    · exact owe_new rfl wA rfl rfl (fun ρ w => alloc_rat ρ _ w)
    · exact owe_put 6 rfl wA rfl (by kernel_rfl) rfl (oO 4 12) (stores_of strct_rat shp_r0 (shp_pr shp_zn shp_zn)) rfl
    · exact mO 5 13
  intro B2 a2 W2 (S2 : Sta w 53 [(2, (.box 34 (SF [(Is (.float .f64 x)), (Is (.float .f64 y))]))), (3, (.box 26 (PR (Zv A k1) (Zv (((D : Nat) : Int)) k2)))), (5, (.box 26 ((RN 0 1) w.heap.size)))] [(6, bF)] _ _ _)
  refine wp_seq ?_
  refine wp_stmt_seq [kF, kF, .off, .off, .off, .off, kF, kF, kF, kT, kT, .val (Part a2 2 0), .val (Is (.float .f64 x)), kF, kF, kF] [.inr 0, .inr 1] [.inl 15] follows S2 rfl (by kernel_rfl) ?_ ?_
  · repeat' refine And.intro ?_ ?_
    · trivial
    · exact mS 0 6
    · exact mO 0 14
    · exact oF 1 15
    · exact oF 1 15
    · exact oF 1 15
    · exact oF 1 15
    · exact pF wA (oO 1 15) (opnd_const _)
    · exact mO 6 20
    · exact mW (wI 7 21) (oS 0 6)
    · exact b_not (wI 7 21) (oO 8 22)
    · exact mW (wI 7 21) (oO 9 23)
    · exact owe_part rfl (wI 10 24) rfl (k := 0) rfl (by kernel_rfl) rfl (fun ρ w b h => part_ival0 ρ _ _ w b 0 h)
    · exact owe_pload rfl (wI 10 24) rfl (oO 11 25) (k := 0) rfl (by kernel_rfl) rfl (fun ρ w b u h1 h2 h3 => ploadI rfl load1_f64 ρ _ _ w b u h1 h2 h3)
    · exact owe_fcmp rfl (wI 10 24) rfl ((oO 12 26).imp (fl_is hx)) ((opnd_const _).imp (fl_is (by decide))) (by rw [hpx]; exact gt_f (by omega)) rfl
    · exact pT (wI 7 21) (oO 10 24) (oO 13 27)
    · exact pF wA (oO 7 21) (oO 14 28)
  intro B3 a3 W3 (S3 : Sta w 53 [(2, (.box 34 (SF [(Is (.float .f64 x)), (Is (.float .f64 y))]))), (3, (.box 26 (PR (Zv A k1) (Zv (((D : Nat) : Int)) k2))))] [(29, bF)] _ _ _)
  refine wp_cond_false (S3.bool 0 29 rfl) ?_
  refine wp_skip ?_
  refine thenN ?_
  refine wp_stmt_seq [.val (Part a3 2 1), .val (Is (.float .f64 y)), .val ((TWO (RN 0 1) (IS (.bool false))) w.heap.size), .val ((TWO (RN 0 1) (IS (.bool false))) w.heap.size), .val ((RN 0 1) w.heap.size), kF, .new (.box 26 zR), .put (.inr 6) (.box 26 ((RN 0 1) w.heap.size)), kF] [.inr 0, .inr 1, .inl 6] [.inl 8] follows S3 rfl (by kernel_rfl) ?_ ?_
  · repeat' refine And.intro ?_ ?_
    · trivial
    · exact owe_part rfl wA rfl (k := 0) rfl (by kernel_rfl) rfl (fun ρ w b h => part_ival1 ρ _ _ w b 0 h)
    · exact owe_pload rfl wA rfl (oO 0 31) (k := 0) rfl (by kernel_rfl) rfl (fun ρ w b u h1 h2 h3 => ploadI rfl load1_f64 ρ _ _ w b u h1 h2 h3)
    · exact cc1 wA (qO 1 32 rfl) (fresh_two (fresh_rn _ _) (fresh_is _)) (pur_is (fun w => rexact_not w y hy (fun p2 h2 => by rw [hpy] at h2; obtain rfl := Option.some.inj h2; exact f2)))
    · exact mO 2 33
    · exact e20 wA (oO 3 30)
    · exact e21 wA (oO 3 30)
    · exact owe_new rfl wA rfl rfl (fun ρ w => alloc_rat ρ _ w)
    · exact owe_put 6 rfl wA rfl (by kernel_rfl) rfl (oO 4 34) (stores_of strct_rat shp_r0 (shp_pr shp_zn shp_zn)) rfl
    · exact mO 5 35
  intro B4 a4 W4 (S4 : Sta w 53 [(2, (.box 34 (SF [(Is (.float .f64 x)), (Is (.float .f64 y))]))), (3, (.box 26 (PR (Zv A k1) (Zv (((D : Nat) : Int)) k2)))), (7, (.box 26 ((RN 0 1) w.heap.size)))] [(6, bF)] _ _ _)
  refine wp_stmt_seq [kF, kF, .off, .off, .off, .off, kF, kF, kF, kT, kT, .val (Part a4 2 1), .val (Is (.float .f64 y)), kT, kT, kT, kF, kF] [.inr 0] [.inl 17] follows S4 rfl (by kernel_rfl) ?_ ?_
  · repeat' refine And.intro ?_ ?_
    · trivial
    · exact mS 0 6
    · exact mO 0 36
    · exact oF 1 37
    · exact oF 1 37
    · exact oF 1 37
    · exact oF 1 37
    · exact pF wA (oO 1 37) (opnd_const _)
    · exact mO 6 42
    · exact mW (wI 7 43) (oS 0 6)
    · exact b_not (wI 7 43) (oO 8 44)
    · exact mW (wI 7 43) (oO 9 45)
    · exact owe_part rfl (wI 10 46) rfl (k := 0) rfl (by kernel_rfl) rfl (fun ρ w b h => part_ival1 ρ _ _ w b 0 h)
    · exact owe_pload rfl (wI 10 46) rfl (oO 11 47) (k := 0) rfl (by kernel_rfl) rfl (fun ρ w b u h1 h2 h3 => ploadI rfl load1_f64 ρ _ _ w b u h1 h2 h3)
    · exact owe_fcmp rfl (wI 10 46) rfl ((oO 12 48).imp (fl_is hy)) ((opnd_const _).imp (fl_is (by decide))) (by rw [hpy]; exact lt_t g2) rfl
    · exact pT (wI 7 43) (oO 10 46) (oO 13 49)
    · exact pF wA (oO 7 43) (oO 14 50)
    · exact b_not wA (oO 15 51)
    · exact mO 16 52
  intro B5 a5 W5 (S5 : Sta w 53 [(2, (.box 34 (SF [(Is (.float .f64 x)), (Is (.float .f64 y))])))] [(4, bF)] _ _ _)
  refine wp_ret ?_
  exact end_one S5 rfl (res_tmp S5 0 4 rfl)
set_option maxHeartbeats 400000 in
theorem rhold_ij (w : World) (x y : Nat) (hx : x < 18446744073709551616) (hy : y < 18446744073709551616) (px py : Int) (hpx : plc x = some px) (hpy : plc y = some py) (A : Int) (D k1 k2 : Nat) (r : Value) (hr : Has (fun _ => False) w (Rv A ((D : Nat) : Int) k1 k2) r) (hD : D ≠ 0) (b1 : k1 ≤ 8388608) (b2 : k2 ≤ 8388608) (f1 : ¬ Fin px) (g : px ≤ 0) (f2 : ¬ Fin py) (g2 : 0 ≤ py) :
    Calls Tryz.prog 9 #[(.agg #[.float .f64 x, .float .f64 y]), r] w (Gives (IS (.bool true)) w) := by
  refine calls_sta (sl := [(0, (SF [(Is (.float .f64 x)), (Is (.float .f64 y))])), (1, (PR (Zv A k1) (Zv (((D : Nat) : Int)) k2)))]) Tryz.func9 rfl Tryz.ntmps9 (by simp) (args_cons rfl (ix_has) (args_cons rfl (hr) args_nil)) ?_
  intro a0 S0
  refine wp_stmt_seq [.new (.box 34 (SF [(Is (.float .f64 x)), (Is (.float .f64 y))])), .new (.box 26 (PR (Zv A k1) (Zv (((D : Nat) : Int)) k2))), kF] [.inl 0, .inl 1] [] follows S0 rfl (by kernel_rfl) ?_ ?_
  · refine ⟨⟨⟨trivial, ?_⟩, ?_⟩, ?_⟩
    · exact owe_box rfl wA rfl (oS 0 0) rfl (fun ρ w h => box_ival shp_iv ρ _ _ w h)
    · exact owe_box rfl wA rfl (oS 1 1) rfl (fun ρ w h => box_rat (shp_pr shp_zv shp_zv) ρ _ _ w h)
    · exact mC
  intro B1 a1 W1 (S1 : Sta w 53 [(2, (.box 34 (SF [(Is (.float .f64 x)), (Is (.float .f64 y))]))), (3, (.box 26 (PR (Zv A k1) (Zv (((D : Nat) : Int)) k2))))] [] _ _ _)
  refine wp_stmt_seq [.val (Part a1 2 0), .val (Is (.float .f64 x)), .val ((TWO (RN 0 1) (IS (.bool false))) w.heap.size), .val ((TWO (RN 0 1) (IS (.bool false))) w.heap.size), .val ((RN 0 1) w.heap.size), kF, .new (.box 26 zR), .put (.inr 6) (.box 26 ((RN 0 1) w.heap.size)), kF] [.inr 0, .inr 1, .inl 6] [.inl 8] follows S1 rfl (by kernel_rfl) ?_ ?_
  · repeat' refine And.intro ?_ ?_
    · trivial
    · exact owe_part rfl wA rfl (k := 0) rfl (by kernel_rfl) rfl (fun ρ w b h => part_ival0 ρ _ _ w b 0 h)
    · exact owe_pload rfl wA rfl (oO 0 9) (k := 0) rfl (by kernel_rfl) rfl (fun ρ w b u h1 h2 h3 => ploadI rfl load1_f64 ρ _ _ w b u h1 h2 h3)
    · exact cc1 wA (qO 1 10 rfl) (fresh_two (fresh_rn _ _) (fresh_is _)) (pur_is (fun w => rexact_not w x hx (fun p2 h2 => by rw [hpx] at h2; obtain rfl := Option.some.inj h2; exact f1)))
    · exact mO 2 11
    · exact e20 wA (oO 3 8)
    · exact e21 wA (oO 3 8)
    · exact owe_new rfl wA rfl rfl (fun ρ w => alloc_rat ρ _ w)
    · exact owe_put 6 rfl wA rfl (by kernel_rfl) rfl (oO 4 12) (stores_of strct_rat shp_r0 (shp_pr shp_zn shp_zn)) rfl
    · exact mO 5 13
  intro B2 a2 W2 (S2 : Sta w 53 [(2, (.box 34 (SF [(Is (.float .f64 x)), (Is (.float .f64 y))]))), (3, (.box 26 (PR (Zv A k1) (Zv (((D : Nat) : Int)) k2)))), (5, (.box 26 ((RN 0 1) w.heap.size)))] [(6, bF)] _ _ _)
  refine wp_seq ?_
  refine wp_stmt_seq [kF, kF, .off, .off, .off, .off, kF, kF, kF, kT, kT, .val (Part a2 2 0), .val (Is (.float .f64 x)), kF, kF, kF] [.inr 0, .inr 1] [.inl 15] follows S2 rfl (by kernel_rfl) ?_ ?_
  · repeat' refine And.intro ?_ ?_
    · trivial
    · exact mS 0 6
    · exact mO 0 14
    · exact oF 1 15
    · exact oF 1 15
    · exact oF 1 15
    · exact oF 1 15
    · exact pF wA (oO 1 15) (opnd_const _)
    · exact mO 6 20
    · exact mW (wI 7 21) (oS 0 6)
    · exact b_not (wI 7 21) (oO 8 22)
    · exact mW (wI 7 21) (oO 9 23)
    · exact owe_part rfl (wI 10 24) rfl (k := 0) rfl (by kernel_rfl) rfl (fun ρ w b h => part_ival0 ρ _ _ w b 0 h)
    · exact owe_pload rfl (wI 10 24) rfl (oO 11 25) (k := 0) rfl (by kernel_rfl) rfl (fun ρ w b u h1 h2 h3 => ploadI rfl load1_f64 ρ _ _ w b u h1 h2 h3)
    · exact owe_fcmp rfl (wI 10 24) rfl ((oO 12 26).imp (fl_is hx)) ((opnd_const _).imp (fl_is (by decide))) (by rw [hpx]; exact gt_f (by omega)) rfl
    · exact pT (wI 7 21) (oO 10 24) (oO 13 27)
    · exact pF wA (oO 7 21) (oO 14 28)
  intro B3 a3 W3 (S3 : Sta w 53 [(2, (.box 34 (SF [(Is (.float .f64 x)), (Is (.float .f64 y))]))), (3, (.box 26 (PR (Zv A k1) (Zv (((D : Nat) : Int)) k2))))] [(29, bF)] _ _ _)
  refine wp_cond_false (S3.bool 0 29 rfl) ?_
  refine wp_skip ?_
  refine thenN ?_
  refine wp_stmt_seq [.val (Part a3 2 1), .val (Is (.float .f64 y)), .val ((TWO (RN 0 1) (IS (.bool false))) w.heap.size), .val ((TWO (RN 0 1) (IS (.bool false))) w.heap.size), .val ((RN 0 1) w.heap.size), kF, .new (.box 26 zR), .put (.inr 6) (.box 26 ((RN 0 1) w.heap.size)), kF] [.inr 0, .inr 1, .inl 6] [.inl 8] follows S3 rfl (by kernel_rfl) ?_ ?_
  · repeat' refine And.intro ?_ ?_
    · trivial
    · exact owe_part rfl wA rfl (k := 0) rfl (by kernel_rfl) rfl (fun ρ w b h => part_ival1 ρ _ _ w b 0 h)
    · exact owe_pload rfl wA rfl (oO 0 31) (k := 0) rfl (by kernel_rfl) rfl (fun ρ w b u h1 h2 h3 => ploadI rfl load1_f64 ρ _ _ w b u h1 h2 h3)
    · exact cc1 wA (qO 1 32 rfl) (fresh_two (fresh_rn _ _) (fresh_is _)) (pur_is (fun w => rexact_not w y hy (fun p2 h2 => by rw [hpy] at h2; obtain rfl := Option.some.inj h2; exact f2)))
    · exact mO 2 33
    · exact e20 wA (oO 3 30)
    · exact e21 wA (oO 3 30)
    · exact owe_new rfl wA rfl rfl (fun ρ w => alloc_rat ρ _ w)
    · exact owe_put 6 rfl wA rfl (by kernel_rfl) rfl (oO 4 34) (stores_of strct_rat shp_r0 (shp_pr shp_zn shp_zn)) rfl
    · exact mO 5 35
  intro B4 a4 W4 (S4 : Sta w 53 [(2, (.box 34 (SF [(Is (.float .f64 x)), (Is (.float .f64 y))]))), (3, (.box 26 (PR (Zv A k1) (Zv (((D : Nat) : Int)) k2)))), (7, (.box 26 ((RN 0 1) w.heap.size)))] [(6, bF)] _ _ _)
  refine wp_stmt_seq [kF, kF, .off, .off, .off, .off, kF, kF, kF, kT, kT, .val (Part a4 2 1), .val (Is (.float .f64 y)), kF, kF, kF, kT, kT] [.inr 0] [.inl 17] follows S4 rfl (by kernel_rfl) ?_ ?_
  · repeat' refine And.intro ?_ ?_
    · trivial
    · exact mS 0 6
    · exact mO 0 36
    · exact oF 1 37
    · exact oF 1 37
    · exact oF 1 37
    · exact oF 1 37
    · exact pF wA (oO 1 37) (opnd_const _)
    · exact mO 6 42
    · exact mW (wI 7 43) (oS 0 6)
    · exact b_not (wI 7 43) (oO 8 44)
    · exact mW (wI 7 43) (oO 9 45)
    · exact owe_part rfl (wI 10 46) rfl (k := 0) rfl (by kernel_rfl) rfl (fun ρ w b h => part_ival1 ρ _ _ w b 0 h)
    · exact owe_pload rfl (wI 10 46) rfl (oO 11 47) (k := 0) rfl (by kernel_rfl) rfl (fun ρ w b u h1 h2 h3 => ploadI rfl load1_f64 ρ _ _ w b u h1 h2 h3)
    · exact owe_fcmp rfl (wI 10 46) rfl ((oO 12 48).imp (fl_is hy)) ((opnd_const _).imp (fl_is (by decide))) (by rw [hpy]; exact lt_f (by omega)) rfl
    · exact pT (wI 7 43) (oO 10 46) (oO 13 49)
    · exact pF wA (oO 7 43) (oO 14 50)
    · exact b_not wA (oO 15 51)
    · exact mO 16 52
  intro B5 a5 W5 (S5 : Sta w 53 [(2, (.box 34 (SF [(Is (.float .f64 x)), (Is (.float .f64 y))])))] [(4, bT)] _ _ _)
  refine wp_ret ?_
  exact end_one S5 rfl (res_tmp S5 0 4 rfl)

theorem h_rholds {x y : Nat} (hx : x < 18446744073709551616) (hy : y < 18446744073709551616) {px py : Int} (hpx : plc x = some px) (hpy : plc y = some py) {A : Int} {D k1 k2 : Nat} (hD : D ≠ 0) (b1 : k1 ≤ 8388608) (b2 : k2 ≤ 8388608) : ∀ w u v, SF [Is (.float .f64 x), Is (.float .f64 y)] u w → Rv A ((D : Nat) : Int) k1 k2 v w → Calls Tryz.prog 9 #[u, v] w (Gives (IS (.bool (hoB px py A D))) w) := fun w u v e h1 => by
  rw [ix_eq e]
  have hr := rv_has h1
  unfold hoB
  have low : ∀ (P : Prop), (Fin px → agP px A D ≤ 0 → P) → (¬ Fin px → px ≤ 0 → P) → agP px A D ≤ 0 → P := fun P k1 k2 g => by
    by_cases f : Fin px
    · exact k1 f g
    · refine k2 f ?_
      apply Classical.byContradiction
      intro hc
      rw [← ag_pos f (by omega)] at g
      omega
  by_cases g : agP px A D ≤ 0
  · rw [if_pos g]
    by_cases f2 : Fin py
    · by_cases g2 : 0 ≤ agP py A D
      · rw [decide_eq_true g2]
        exact low _ (fun f1 g => rhold_fg w x y hx hy px py hpx hpy A D k1 k2 v hr hD b1 b2 f1 g f2 g2) (fun f1 g => rhold_ig w x y hx hy px py hpx hpy A D k1 k2 v hr hD b1 b2 f1 g f2 g2) g
      · rw [decide_eq_false g2]
        exact low _ (fun f1 g => rhold_ff w x y hx hy px py hpx hpy A D k1 k2 v hr hD b1 b2 f1 g f2 (by omega)) (fun f1 g => rhold_if w x y hx hy px py hpx hpy A D k1 k2 v hr hD b1 b2 f1 g f2 (by omega)) g
    · by_cases g2 : 0 ≤ py
      · rw [← ag_pos f2 g2, decide_eq_true (by decide)]
        exact low _ (fun f1 g => rhold_fj w x y hx hy px py hpx hpy A D k1 k2 v hr hD b1 b2 f1 g f2 g2) (fun f1 g => rhold_ij w x y hx hy px py hpx hpy A D k1 k2 v hr hD b1 b2 f1 g f2 g2) g
      · rw [← ag_neg f2 (by omega), decide_eq_false (by decide)]
        exact low _ (fun f1 g => rhold_fi w x y hx hy px py hpx hpy A D k1 k2 v hr hD b1 b2 f1 g f2 (by omega)) (fun f1 g => rhold_ii w x y hx hy px py hpx hpy A D k1 k2 v hr hD b1 b2 f1 g f2 (by omega)) g
  · rw [if_neg g]
    by_cases f1 : Fin px
    · exact rhold_f w x y hx hy px py hpx hpy A D k1 k2 v hr hD b1 b2 f1 (by omega)
    · refine rhold_i w x y hx hy px py hpx hpy A D k1 k2 v hr hD b1 b2 f1 ?_
      apply Classical.byContradiction
      intro hc
      by_cases h0 : px < 0
      · rw [← ag_neg f1 h0] at g; omega
      · exact f1 (by unfold Fin; omega)
theorem h_rval {A D : Int} {k1 k2 : Nat} (b1 : k1 ≤ 8388608) (b2 : k2 ≤ 8388608) {t : Bool} (ht : decide (0 < D.sign) = t) : ∀ w u, Rv A D k1 k2 u w → Calls Tryz.prog 8 #[u] w (Gives (IS (.bool t)) w) := by
  rw [← ht]; exact g_rvalid b1 b2
end Go.Proofs.YtgalppimdmjdcabGreatDoor

/-
  What intervals hold: sums, products, squares, orders, by places.
-/
namespace Go.Proofs.YtgalppimdmjdcabGreatDoor
open Go Go.RowKit Nt
set_option linter.unusedSimpArgs false
set_option linter.unusedVariables false
set_option maxRecDepth 20000

/-- The float at a place is not above V by D; not below it. -/
def Lo (p V : Int) (D : Nat) : Prop := p ≤ -9218868437227405312 ∨ (p < 9218868437227405312 ∧ vp p * (D : Int) ≤ V * (uF : Int))
def Hi (p V : Int) (D : Nat) : Prop := 9218868437227405312 ≤ p ∨ (-9218868437227405312 < p ∧ V * (uF : Int) ≤ vp p * (D : Int))
theorem sign_le {x : Int} : x.sign ≤ 0 ↔ x ≤ 0 := by
  rcases Int.lt_trichotomy x 0 with h | h | h
  · rw [Int.sign_eq_neg_one_of_neg h]; omega
  · subst h; simp
  · rw [Int.sign_eq_one_of_pos h]; omega
theorem sign_ge {x : Int} : 0 ≤ x.sign ↔ 0 ≤ x := by
  rcases Int.lt_trichotomy x 0 with h | h | h
  · rw [Int.sign_eq_neg_one_of_neg h]; omega
  · subst h; simp
  · rw [Int.sign_eq_one_of_pos h]; omega
theorem ag_lo {p V : Int} {D : Nat} (hp : p.natAbs ≤ 9218868437227405312) : agP p V D ≤ 0 ↔ Lo p V D := by
  unfold agP Lo
  by_cases h : -9218868437227405312 < p ∧ p < 9218868437227405312
  · rw [if_pos h, sign_le]; omega
  · rw [if_neg h]
    by_cases h' : p < 0
    · rw [if_pos h']; omega
    · rw [if_neg h']; omega
theorem ag_hi {p V : Int} {D : Nat} (hp : p.natAbs ≤ 9218868437227405312) : 0 ≤ agP p V D ↔ Hi p V D := by
  unfold agP Hi
  by_cases h : -9218868437227405312 < p ∧ p < 9218868437227405312
  · rw [if_pos h, sign_ge]; omega
  · rw [if_neg h]
    by_cases h' : p < 0
    · rw [if_pos h']; omega
    · rw [if_neg h']; omega
theorem ho_iff {px py V : Int} {D : Nat} (hp : px.natAbs ≤ 9218868437227405312) (hq : py.natAbs ≤ 9218868437227405312) : hoB px py V D = true ↔ Lo px V D ∧ Hi py V D := by
  rw [← ag_lo hp, ← ag_hi hq]
  unfold hoB
  by_cases h : agP px V D ≤ 0
  · rw [if_pos h, decide_eq_true_eq]; exact ⟨fun h' => ⟨h, h'⟩, fun h' => h'.2⟩
  · rw [if_neg h]; exact ⟨fun h' => (nomatch h'), fun h' => absurd h'.1 h⟩
theorem uFi : (0 : Int) < (uF : Int) := by have := uF_pos; omega
theorem lo_neg {p V : Int} {D : Nat} : Lo (-p) (-V) D ↔ Hi p V D := by
  unfold Lo Hi
  rw [vp_neg, Int.neg_mul, Int.neg_mul]
  omega
theorem hi_neg {p V : Int} {D : Nat} : Hi (-p) (-V) D ↔ Lo p V D := by
  unfold Lo Hi
  rw [vp_neg, Int.neg_mul, Int.neg_mul]
  omega
/-- The place of the float nearest to X units of 2^-2148. -/
structure Nrd (t X : Int) : Prop where
  abs : t.natAbs ≤ 9218868437227405312
  lo : -9218868437227405312 < t - 1 → vp (t - 1) * (uF : Int) ≤ X
  hi : t + 1 < 9218868437227405312 → X ≤ vp (t + 1) * (uF : Int)
theorem vp_nat (r : Nat) : vp (r : Int) = (mg r : Int) := by unfold vp; rw [if_neg (by omega)]; simp
theorem rd_neg {t X : Int} (h : Nrd t X) : Nrd (-t) (-X) := by
  refine ⟨by have := h.abs; omega, fun h1 => ?_, fun h1 => ?_⟩
  · have := h.hi (by omega)
    rw [show -t - 1 = -(t + 1) by omega, vp_neg, Int.neg_mul]; omega
  · have := h.lo (by omega)
    rw [show -t + 1 = -(t - 1) by omega, vp_neg, Int.neg_mul]; omega
/-! Products. -/
/-- The place of a product of ends. -/
structure Tm (p q t : Int) : Prop where
  zero : p = 0 ∨ q = 0 → t = 0
  fin : Fin p → Fin q → Nrd t (vp p * vp q)
  inf : p ≠ 0 → q ≠ 0 → ¬ (Fin p ∧ Fin q) → t = if p * q < 0 then -9218868437227405312 else 9218868437227405312
  abs : t.natAbs ≤ 9218868437227405312
theorem Tm.neg {p q t : Int} (h : Tm p q t) : Tm (-p) q (-t) := by
  refine ⟨fun h1 => by have := h.zero (by omega); omega, fun f1 f2 => ?_, fun h1 h2 h3 => ?_, by have := h.abs; omega⟩
  · have := rd_neg (h.fin (by unfold Fin at *; omega) f2)
    rwa [vp_neg, Int.neg_mul]
  · have := h.inf (by omega) h2 (fun hf => h3 ⟨by unfold Fin at *; omega, hf.2⟩)
    rw [this, Int.neg_mul]
    rcases Int.lt_trichotomy (p * q) 0 with h4 | h4 | h4
    · rw [if_pos h4, if_neg (by omega)]; rfl
    · rcases Int.mul_eq_zero.1 h4 with h5 | h5
      · omega
      · exact absurd h5 h2
    · rw [if_neg (by omega), if_pos (by omega)]
end Go.Proofs.YtgalppimdmjdcabGreatDoor

/-
  IvalTight's walk.
-/
namespace Go.Proofs.YtgalppimdmjdcabGreatDoor
open Go Go.RowKit Nt
set_option linter.unusedSimpArgs false
set_option linter.unusedVariables false
set_option maxRecDepth 20000

theorem nq_f {p q : Int} (h : p = q) : (ordP (some p) (some q) != some .eq) = false := by
  have := eq_t h
  simp only [bne, this, Bool.not_true]
theorem h_up {p : Option Int} : ∀ w u, FL p u w → Calls Tryz.prog 10 #[u] w (Gives (FLN (upP p)) w) := fl1 (fun w b hb hp => by rw [← hp]; exact (up_f b hb).gives w)
theorem h_rholdsT {p q : Option Int} {px py : Int} (hp : p = some px) (hq : q = some py) {A : Int} {D k1 k2 : Nat} (hD : D ≠ 0) (b1 : k1 ≤ 8388608) (b2 : k2 ≤ 8388608) (ht : hoB px py A D = true) : ∀ w u v, SF [FL p, FL q] u w → Rv A ((D : Nat) : Int) k1 k2 v w → Calls Tryz.prog 9 #[u, v] w (Gives (IS (.bool true)) w) := fun w u v h hr => by
  obtain ⟨x, y, rfl, hx, hx2, hy, hy2⟩ := sf_fl h
  have := h_rholds hx hy (hx2.trans hp) (hy2.trans hq) hD b1 b2 w _ v ix_mk hr
  rwa [ht] at this
set_option maxHeartbeats 2000000 in
theorem tight_0b (w : World) (b : Nat) (hb : b < 18446744073709551616) (hT : T32 w) (hn : ∀ p, plc b = some p → ¬ Fin p) (A D : Int) (k1 k2 : Nat) (r : Value) (hr : Has (fun _ => False) w (Rv A D k1 k2) r) (b1 : k1 ≤ 8388608) (b2 : k2 ≤ 8388608) (hD : D ≤ 0) :
    Calls Tryz.prog 3 #[r, (.int .u64 ((b : Nat) : Int))] w (Gives (IS (.bool true)) w) := by
  refine calls_sta (sl := [(0, (PR (Zv A k1) (Zv D k2))), (1, (Is (.int .u64 ((b : Nat) : Int))))]) Tryz.func3 rfl Tryz.ntmps3 (by simp) (args_cons rfl (hr) (args_cons rfl (is_has _) args_nil)) ?_
  intro a0 S0
  replace S0 : Sta w 70 [] [(0, (PR (Zv A k1) (Zv D k2))), (1, Is (.int .u64 ((b : Nat) : Int))), (0, TB)] (fun _ => False) a0 w := S0.more 0 (tb_has hT)
  refine wp_stmt_seq [.new (.box 26 (PR (Zv A k1) (Zv D k2))), kF] [.inl 0] [.inr 1, .inr 2] follows S0 rfl (by kernel_rfl) ?_ ?_
  · refine ⟨⟨trivial, ?_⟩, ?_⟩
    · exact owe_box rfl wA rfl (oS 0 0) rfl (fun ρ w h => box_rat (shp_pr shp_zv shp_zv) ρ _ _ w h)
    · exact mC
  intro B1 a1 W1 (S1 : Sta w 70 [(2, (.box 26 (PR (Zv A k1) (Zv D k2))))] [(1, Is (.int .u64 ((b : Nat) : Int))), (0, TB)] _ _ _)
  refine wp_seq ?_
  refine wp_stmt_seq [kT, kF] [.inr 0] [.inl 1, .inr 0, .inr 1] follows S1 rfl (by kernel_rfl) ?_ ?_
  · refine ⟨⟨trivial, ?_⟩, ?_⟩
    · exact owe_call0 rfl wA rfl  (fresh_is _) rfl (fun args w => by go_simp) awake_w
    · exact b_not wA (oO 0 12)
  intro B2 a2 W2 (S2 : Sta w 70 [(2, (.box 26 (PR (Zv A k1) (Zv D k2))))] [(13, bF), (1, Is (.int .u64 ((b : Nat) : Int))), (0, TB)] _ _ _)
  refine wp_cond_false (S2.bool 0 13 rfl) ?_
  refine wp_skip ?_
  refine thenN ?_
  refine wp_stmt_seq [.val (Is (.int .u64 ((b : Nat) : Int))), .val (Is (.float .f64 b)), .val (Is (.float .f64 b))] [.inr 0] [.inl 2, .inr 2] follows S2 rfl (by kernel_rfl) ?_ ?_
  · refine ⟨⟨⟨trivial, ?_⟩, ?_⟩, ?_⟩
    · exact mS 1 1
    · exact owe_frbits rfl wA rfl (oO 0 14) rfl
    · exact mO 1 15
  intro B3 a3 W3 (S3 : Sta w 70 [(2, (.box 26 (PR (Zv A k1) (Zv D k2))))] [(5, Is (.float .f64 b)), (0, TB)] _ _ _)
  refine wp_stmt_seq [.val (Is (.float .f64 b)), .val ((TWO (RN 0 1) (IS (.bool false))) w.heap.size), .val ((TWO (RN 0 1) (IS (.bool false))) w.heap.size), .val ((RN 0 1) w.heap.size), kF, .new (.box 26 zR), .put (.inr 5) (.box 26 ((RN 0 1) w.heap.size)), kF] [.inr 0, .inl 5] [.inl 7, .inr 0, .inr 1] follows S3 rfl (by kernel_rfl) ?_ ?_
  · repeat' refine And.intro ?_ ?_
    · trivial
    · exact mS 0 5
    · exact cc1 wA (qO 0 17 rfl) (fresh_two (fresh_rn _ _) (fresh_is _)) (pur_is (fun w => exact_not w b hb hn))
    · exact mO 1 18
    · exact e20 wA (oO 2 16)
    · exact e21 wA (oO 2 16)
    · exact owe_new rfl wA rfl rfl (fun ρ w => alloc_rat ρ _ w)
    · exact owe_put 5 rfl wA rfl (by kernel_rfl) rfl (oO 3 19) (stores_of strct_rat shp_r0 (shp_pr shp_zn shp_zn)) rfl
    · exact mO 4 20
  intro B4 a4 W4 (S4 : Sta w 70 [(2, (.box 26 (PR (Zv A k1) (Zv D k2)))), (6, (.box 26 ((RN 0 1) w.heap.size)))] [(7, bF), (5, Is (.float .f64 b)), (0, TB)] _ _ _)
  refine wp_seq ?_
  refine wp_stmt_seq [kF] [.inr 0, .inr 1] [.inl 0, .inr 1, .inr 2] follows S4 rfl (by kernel_rfl) ?_ ?_
  · refine ⟨trivial, ?_⟩
    · exact mS 0 7
  intro B5 a5 W5 (S5 : Sta w 70 [(2, (.box 26 (PR (Zv A k1) (Zv D k2)))), (6, (.box 26 ((RN 0 1) w.heap.size)))] [(21, bF), (5, Is (.float .f64 b)), (0, TB)] _ _ _)
  refine wp_cond_false (S5.bool 0 21 rfl) ?_
  refine wp_skip ?_
  refine thenN ?_
  refine wp_seq ?_
  refine wp_stmt_seq [.val (PR (Zv A k1) (Zv D k2)), kF, kT] [.inr 0] [.inl 2, .inr 2] follows S5 rfl (by kernel_rfl) ?_ ?_
  · refine ⟨⟨⟨trivial, ?_⟩, ?_⟩, ?_⟩
    · exact lod 0 wA (loads_of strct_rat (shp_pr shp_zv shp_zv))
    · exact cc1 wA (qO 0 41 rfl) (fresh_is _) (h_rval b1 b2 (decide_eq_false (Int.not_lt.2 (sgn_not hD))))
    · exact b_not wA (oO 1 42)
  intro B6 a6 W6 (S6 : Sta w 70 [(2, (.box 26 (PR (Zv A k1) (Zv D k2))))] [(43, bT), (0, TB)] _ _ _)
  refine wp_cond_true (S6.bool 0 43 rfl) ?_
  refine wp_stmt_seq [kT] [] [.inl 0, .inr 1] follows S6 rfl (by kernel_rfl) ?_ ?_
  · refine ⟨trivial, ?_⟩
    · exact mC
  intro B7 a7 W7 (S7 : Sta w 70 [] [(4, bT), (0, TB)] _ _ _)
  refine wp_ret ?_
  refine thenR ?_
  exact end_one S7 rfl (res_tmp S7 0 4 rfl)
set_option maxHeartbeats 2000000 in
theorem tight_0e (w : World) (b : Nat) (hb : b < 18446744073709551616) (hT : T32 w) (hn : ∀ p, plc b = some p → ¬ Fin p) (A : Int) (D k1 k2 : Nat) (r : Value) (hr : Has (fun _ => False) w (Rv A ((D : Nat) : Int) k1 k2) r) (hD : D ≠ 0) (b1 : k1 ≤ 8388608) (b2 : k2 ≤ 8388608) (x y : Int) (c1 : ∀ w u, T32 w → Rv A ((D : Nat) : Int) k1 k2 u w → Calls Tryz.prog 7 #[u] w (Gives (TWO (IVN (some x) (some y)) (IS (.int .i64 0))) w)) (ho : hoB x y A D = true) (hxy : x = y) :
    Calls Tryz.prog 3 #[r, (.int .u64 ((b : Nat) : Int))] w (Gives (IS (.bool true)) w) := by
  refine calls_sta (sl := [(0, (PR (Zv A k1) (Zv (((D : Nat) : Int)) k2))), (1, (Is (.int .u64 ((b : Nat) : Int))))]) Tryz.func3 rfl Tryz.ntmps3 (by simp) (args_cons rfl (hr) (args_cons rfl (is_has _) args_nil)) ?_
  intro a0 S0
  replace S0 : Sta w 70 [] [(0, (PR (Zv A k1) (Zv (((D : Nat) : Int)) k2))), (1, Is (.int .u64 ((b : Nat) : Int))), (0, TB)] (fun _ => False) a0 w := S0.more 0 (tb_has hT)
  refine wp_stmt_seq [.new (.box 26 (PR (Zv A k1) (Zv (((D : Nat) : Int)) k2))), kF] [.inl 0] [.inr 1, .inr 2] follows S0 rfl (by kernel_rfl) ?_ ?_
  · refine ⟨⟨trivial, ?_⟩, ?_⟩
    · exact owe_box rfl wA rfl (oS 0 0) rfl (fun ρ w h => box_rat (shp_pr shp_zv shp_zv) ρ _ _ w h)
    · exact mC
  intro B1 a1 W1 (S1 : Sta w 70 [(2, (.box 26 (PR (Zv A k1) (Zv (((D : Nat) : Int)) k2))))] [(1, Is (.int .u64 ((b : Nat) : Int))), (0, TB)] _ _ _)
  refine wp_seq ?_
  refine wp_stmt_seq [kT, kF] [.inr 0] [.inl 1, .inr 0, .inr 1] follows S1 rfl (by kernel_rfl) ?_ ?_
  · refine ⟨⟨trivial, ?_⟩, ?_⟩
    · exact owe_call0 rfl wA rfl  (fresh_is _) rfl (fun args w => by go_simp) awake_w
    · exact b_not wA (oO 0 12)
  intro B2 a2 W2 (S2 : Sta w 70 [(2, (.box 26 (PR (Zv A k1) (Zv (((D : Nat) : Int)) k2))))] [(13, bF), (1, Is (.int .u64 ((b : Nat) : Int))), (0, TB)] _ _ _)
  refine wp_cond_false (S2.bool 0 13 rfl) ?_
  refine wp_skip ?_
  refine thenN ?_
  refine wp_stmt_seq [.val (Is (.int .u64 ((b : Nat) : Int))), .val (Is (.float .f64 b)), .val (Is (.float .f64 b))] [.inr 0] [.inl 2, .inr 2] follows S2 rfl (by kernel_rfl) ?_ ?_
  · refine ⟨⟨⟨trivial, ?_⟩, ?_⟩, ?_⟩
    · exact mS 1 1
    · exact owe_frbits rfl wA rfl (oO 0 14) rfl
    · exact mO 1 15
  intro B3 a3 W3 (S3 : Sta w 70 [(2, (.box 26 (PR (Zv A k1) (Zv (((D : Nat) : Int)) k2))))] [(5, Is (.float .f64 b)), (0, TB)] _ _ _)
  refine wp_stmt_seq [.val (Is (.float .f64 b)), .val ((TWO (RN 0 1) (IS (.bool false))) w.heap.size), .val ((TWO (RN 0 1) (IS (.bool false))) w.heap.size), .val ((RN 0 1) w.heap.size), kF, .new (.box 26 zR), .put (.inr 5) (.box 26 ((RN 0 1) w.heap.size)), kF] [.inr 0, .inl 5] [.inl 7, .inr 0, .inr 1] follows S3 rfl (by kernel_rfl) ?_ ?_
  · repeat' refine And.intro ?_ ?_
    · trivial
    · exact mS 0 5
    · exact cc1 wA (qO 0 17 rfl) (fresh_two (fresh_rn _ _) (fresh_is _)) (pur_is (fun w => exact_not w b hb hn))
    · exact mO 1 18
    · exact e20 wA (oO 2 16)
    · exact e21 wA (oO 2 16)
    · exact owe_new rfl wA rfl rfl (fun ρ w => alloc_rat ρ _ w)
    · exact owe_put 5 rfl wA rfl (by kernel_rfl) rfl (oO 3 19) (stores_of strct_rat shp_r0 (shp_pr shp_zn shp_zn)) rfl
    · exact mO 4 20
  intro B4 a4 W4 (S4 : Sta w 70 [(2, (.box 26 (PR (Zv A k1) (Zv (((D : Nat) : Int)) k2)))), (6, (.box 26 ((RN 0 1) w.heap.size)))] [(7, bF), (5, Is (.float .f64 b)), (0, TB)] _ _ _)
  refine wp_seq ?_
  refine wp_stmt_seq [kF] [.inr 0, .inr 1] [.inl 0, .inr 1, .inr 2] follows S4 rfl (by kernel_rfl) ?_ ?_
  · refine ⟨trivial, ?_⟩
    · exact mS 0 7
  intro B5 a5 W5 (S5 : Sta w 70 [(2, (.box 26 (PR (Zv A k1) (Zv (((D : Nat) : Int)) k2)))), (6, (.box 26 ((RN 0 1) w.heap.size)))] [(21, bF), (5, Is (.float .f64 b)), (0, TB)] _ _ _)
  refine wp_cond_false (S5.bool 0 21 rfl) ?_
  refine wp_skip ?_
  refine thenN ?_
  refine wp_seq ?_
  refine wp_stmt_seq [.val (PR (Zv A k1) (Zv (((D : Nat) : Int)) k2)), kT, kF] [.inr 0] [.inl 2, .inr 2] follows S5 rfl (by kernel_rfl) ?_ ?_
  · refine ⟨⟨⟨trivial, ?_⟩, ?_⟩, ?_⟩
    · exact lod 0 wA (loads_of strct_rat (shp_pr shp_zv shp_zv))
    · exact cc1 wA (qO 0 41 rfl) (fresh_is _) (h_rval b1 b2 (decide_eq_true (sgn_pos hD)))
    · exact b_not wA (oO 1 42)
  intro B6 a6 W6 (S6 : Sta w 70 [(2, (.box 26 (PR (Zv A k1) (Zv (((D : Nat) : Int)) k2))))] [(43, bF), (0, TB)] _ _ _)
  refine wp_cond_false (S6.bool 0 43 rfl) ?_
  refine wp_skip ?_
  refine thenN ?_
  refine wp_stmt_seq [.val (PR (Zv A k1) (Zv (((D : Nat) : Int)) k2)), .val ((TWO (IVN (some x) (some y)) (IS (.int .i64 0))) w.heap.size), .val ((TWO (IVN (some x) (some y)) (IS (.int .i64 0))) w.heap.size), .val (SF [(FL (some x)), (FL (some y))]), .val (iV 0), .new (.box 34 (Is (.agg #[.float .f64 0, .float .f64 0]))), .put (.inr 5) (.box 34 (SF [(FL (some x)), (FL (some y))])), .val (iV 0)] [.inr 0, .inl 5] [.inl 7, .inr 1] follows S6 rfl (by kernel_rfl) ?_ ?_
  · repeat' refine And.intro ?_ ?_
    · trivial
    · exact lod 0 wA (loads_of strct_rat (shp_pr shp_zv shp_zv))
    · exact owe_call1T rfl wA rfl (oO 0 45) (oS 1 0) (fresh_two (fresh_iv _ _) (fresh_is _)) rfl (fun args w => by go_simp) c1
    · exact mO 1 46
    · exact e20 wA (oO 2 44)
    · exact e21 wA (oO 2 44)
    · exact owe_new rfl wA rfl rfl (fun ρ w => alloc_ival ρ _ w)
    · exact owe_put 5 rfl wA rfl (by kernel_rfl) rfl (oO 3 47) (stores_of strct_ival shp_i0 shp_iv) rfl
    · exact mO 4 48
  intro B7 a7 W7 (S7 : Sta w 70 [(2, (.box 26 (PR (Zv A k1) (Zv (((D : Nat) : Int)) k2)))), (10, (.box 34 (SF [(FL (some x)), (FL (some y))])))] [(11, iV 0), (0, TB)] _ _ _)
  refine wp_seq ?_
  refine wp_stmt_seq [.val (iV 0), kF, kF, .val (SF [(FL (some x)), (FL (some y))]), .val (PR (Zv A k1) (Zv (((D : Nat) : Int)) k2)), kT, kF, kF] [.inr 1] [.inl 7, .inr 1] follows S7 rfl (by kernel_rfl) ?_ ?_
  · repeat' refine And.intro ?_ ?_
    · trivial
    · exact mS 0 11
    · exact b_neq_errno_f wA (oO 0 49) (opnd_const _) (h := by decide)
    · exact mO 1 50
    · exact lod 1 (wI 2 51) (loads_of strct_ival shp_iv)
    · exact lod 0 (wI 2 51) (loads_of strct_rat (shp_pr shp_zv shp_zv))
    · exact cc2 (wI 2 51) (qO 3 52 rfl) (qO 4 53 rfl) (fresh_is _) (h_rholdsT rfl rfl hD b1 b2 ho)
    · exact b_not (wI 2 51) (oO 5 54)
    · exact pF wA (oO 2 51) (oO 6 55)
  intro B8 a8 W8 (S8 : Sta w 70 [(10, (.box 34 (SF [(FL (some x)), (FL (some y))])))] [(56, bF), (0, TB)] _ _ _)
  refine wp_cond_false (S8.bool 0 56 rfl) ?_
  refine wp_skip ?_
  refine thenN ?_
  refine wp_stmt_seq [.val (Part a8 10 0), .val (FL (some x)), .val (Part a8 10 1), .val (FL (some y)), kT, kT, .off, .off, .off, .off, .off, .off, kT, kT] [.inr 0] [.inl 13, .inr 1] follows S8 rfl (by kernel_rfl) ?_ ?_
  · repeat' refine And.intro ?_ ?_
    · trivial
    · exact owe_part rfl wA rfl (k := 0) rfl (by kernel_rfl) rfl (fun ρ w b h => part_ival0 ρ _ _ w b 0 h)
    · exact owe_pload rfl wA rfl (oO 0 57) (k := 0) rfl (by kernel_rfl) rfl (fun ρ w b u h1 h2 h3 => ploadI rfl load1_f64 ρ _ _ w b u h1 h2 h3)
    · exact owe_part rfl wA rfl (k := 0) rfl (by kernel_rfl) rfl (fun ρ w b h => part_ival1 ρ _ _ w b 0 h)
    · exact owe_pload rfl wA rfl (oO 2 59) (k := 0) rfl (by kernel_rfl) rfl (fun ρ w b u h1 h2 h3 => ploadI rfl load1_f64 ρ _ _ w b u h1 h2 h3)
    · exact owe_fcmp rfl wA rfl (oO 1 58) (oO 3 60) (eq_t hxy) rfl
    · exact mO 4 61
    · exact oF 5 62
    · exact oF 5 62
    · exact oF 5 62
    · exact oF 5 62
    · exact oF 5 62
    · exact oF 5 62
    · exact pT wA (oO 5 62) (opnd_const _)
    · exact mO 12 69
  intro B9 a9 W9 (S9 : Sta w 70 [(10, (.box 34 (SF [(FL (some x)), (FL (some y))])))] [(4, bT), (0, TB)] _ _ _)
  refine wp_ret ?_
  exact end_one S9 rfl (res_tmp S9 0 4 rfl)
set_option maxHeartbeats 2000000 in
theorem tight_0n (w : World) (b : Nat) (hb : b < 18446744073709551616) (hT : T32 w) (hn : ∀ p, plc b = some p → ¬ Fin p) (A : Int) (D k1 k2 : Nat) (r : Value) (hr : Has (fun _ => False) w (Rv A ((D : Nat) : Int) k1 k2) r) (hD : D ≠ 0) (b1 : k1 ≤ 8388608) (b2 : k2 ≤ 8388608) (x y : Int) (c1 : ∀ w u, T32 w → Rv A ((D : Nat) : Int) k1 k2 u w → Calls Tryz.prog 7 #[u] w (Gives (TWO (IVN (some x) (some y)) (IS (.int .i64 0))) w)) (ho : hoB x y A D = true) (hxy : ¬ x = y) (hup : upP (some x) = some y) :
    Calls Tryz.prog 3 #[r, (.int .u64 ((b : Nat) : Int))] w (Gives (IS (.bool true)) w) := by
  refine calls_sta (sl := [(0, (PR (Zv A k1) (Zv (((D : Nat) : Int)) k2))), (1, (Is (.int .u64 ((b : Nat) : Int))))]) Tryz.func3 rfl Tryz.ntmps3 (by simp) (args_cons rfl (hr) (args_cons rfl (is_has _) args_nil)) ?_
  intro a0 S0
  replace S0 : Sta w 70 [] [(0, (PR (Zv A k1) (Zv (((D : Nat) : Int)) k2))), (1, Is (.int .u64 ((b : Nat) : Int))), (0, TB)] (fun _ => False) a0 w := S0.more 0 (tb_has hT)
  refine wp_stmt_seq [.new (.box 26 (PR (Zv A k1) (Zv (((D : Nat) : Int)) k2))), kF] [.inl 0] [.inr 1, .inr 2] follows S0 rfl (by kernel_rfl) ?_ ?_
  · refine ⟨⟨trivial, ?_⟩, ?_⟩
    · exact owe_box rfl wA rfl (oS 0 0) rfl (fun ρ w h => box_rat (shp_pr shp_zv shp_zv) ρ _ _ w h)
    · exact mC
  intro B1 a1 W1 (S1 : Sta w 70 [(2, (.box 26 (PR (Zv A k1) (Zv (((D : Nat) : Int)) k2))))] [(1, Is (.int .u64 ((b : Nat) : Int))), (0, TB)] _ _ _)
  refine wp_seq ?_
  refine wp_stmt_seq [kT, kF] [.inr 0] [.inl 1, .inr 0, .inr 1] follows S1 rfl (by kernel_rfl) ?_ ?_
  · refine ⟨⟨trivial, ?_⟩, ?_⟩
    · exact owe_call0 rfl wA rfl  (fresh_is _) rfl (fun args w => by go_simp) awake_w
    · exact b_not wA (oO 0 12)
  intro B2 a2 W2 (S2 : Sta w 70 [(2, (.box 26 (PR (Zv A k1) (Zv (((D : Nat) : Int)) k2))))] [(13, bF), (1, Is (.int .u64 ((b : Nat) : Int))), (0, TB)] _ _ _)
  refine wp_cond_false (S2.bool 0 13 rfl) ?_
  refine wp_skip ?_
  refine thenN ?_
  refine wp_stmt_seq [.val (Is (.int .u64 ((b : Nat) : Int))), .val (Is (.float .f64 b)), .val (Is (.float .f64 b))] [.inr 0] [.inl 2, .inr 2] follows S2 rfl (by kernel_rfl) ?_ ?_
  · refine ⟨⟨⟨trivial, ?_⟩, ?_⟩, ?_⟩
    · exact mS 1 1
    · exact owe_frbits rfl wA rfl (oO 0 14) rfl
    · exact mO 1 15
  intro B3 a3 W3 (S3 : Sta w 70 [(2, (.box 26 (PR (Zv A k1) (Zv (((D : Nat) : Int)) k2))))] [(5, Is (.float .f64 b)), (0, TB)] _ _ _)
  refine wp_stmt_seq [.val (Is (.float .f64 b)), .val ((TWO (RN 0 1) (IS (.bool false))) w.heap.size), .val ((TWO (RN 0 1) (IS (.bool false))) w.heap.size), .val ((RN 0 1) w.heap.size), kF, .new (.box 26 zR), .put (.inr 5) (.box 26 ((RN 0 1) w.heap.size)), kF] [.inr 0, .inl 5] [.inl 7, .inr 0, .inr 1] follows S3 rfl (by kernel_rfl) ?_ ?_
  · repeat' refine And.intro ?_ ?_
    · trivial
    · exact mS 0 5
    · exact cc1 wA (qO 0 17 rfl) (fresh_two (fresh_rn _ _) (fresh_is _)) (pur_is (fun w => exact_not w b hb hn))
    · exact mO 1 18
    · exact e20 wA (oO 2 16)
    · exact e21 wA (oO 2 16)
    · exact owe_new rfl wA rfl rfl (fun ρ w => alloc_rat ρ _ w)
    · exact owe_put 5 rfl wA rfl (by kernel_rfl) rfl (oO 3 19) (stores_of strct_rat shp_r0 (shp_pr shp_zn shp_zn)) rfl
    · exact mO 4 20
  intro B4 a4 W4 (S4 : Sta w 70 [(2, (.box 26 (PR (Zv A k1) (Zv (((D : Nat) : Int)) k2)))), (6, (.box 26 ((RN 0 1) w.heap.size)))] [(7, bF), (5, Is (.float .f64 b)), (0, TB)] _ _ _)
  refine wp_seq ?_
  refine wp_stmt_seq [kF] [.inr 0, .inr 1] [.inl 0, .inr 1, .inr 2] follows S4 rfl (by kernel_rfl) ?_ ?_
  · refine ⟨trivial, ?_⟩
    · exact mS 0 7
  intro B5 a5 W5 (S5 : Sta w 70 [(2, (.box 26 (PR (Zv A k1) (Zv (((D : Nat) : Int)) k2)))), (6, (.box 26 ((RN 0 1) w.heap.size)))] [(21, bF), (5, Is (.float .f64 b)), (0, TB)] _ _ _)
  refine wp_cond_false (S5.bool 0 21 rfl) ?_
  refine wp_skip ?_
  refine thenN ?_
  refine wp_seq ?_
  refine wp_stmt_seq [.val (PR (Zv A k1) (Zv (((D : Nat) : Int)) k2)), kT, kF] [.inr 0] [.inl 2, .inr 2] follows S5 rfl (by kernel_rfl) ?_ ?_
  · refine ⟨⟨⟨trivial, ?_⟩, ?_⟩, ?_⟩
    · exact lod 0 wA (loads_of strct_rat (shp_pr shp_zv shp_zv))
    · exact cc1 wA (qO 0 41 rfl) (fresh_is _) (h_rval b1 b2 (decide_eq_true (sgn_pos hD)))
    · exact b_not wA (oO 1 42)
  intro B6 a6 W6 (S6 : Sta w 70 [(2, (.box 26 (PR (Zv A k1) (Zv (((D : Nat) : Int)) k2))))] [(43, bF), (0, TB)] _ _ _)
  refine wp_cond_false (S6.bool 0 43 rfl) ?_
  refine wp_skip ?_
  refine thenN ?_
  refine wp_stmt_seq [.val (PR (Zv A k1) (Zv (((D : Nat) : Int)) k2)), .val ((TWO (IVN (some x) (some y)) (IS (.int .i64 0))) w.heap.size), .val ((TWO (IVN (some x) (some y)) (IS (.int .i64 0))) w.heap.size), .val (SF [(FL (some x)), (FL (some y))]), .val (iV 0), .new (.box 34 (Is (.agg #[.float .f64 0, .float .f64 0]))), .put (.inr 5) (.box 34 (SF [(FL (some x)), (FL (some y))])), .val (iV 0)] [.inr 0, .inl 5] [.inl 7, .inr 1] follows S6 rfl (by kernel_rfl) ?_ ?_
  · repeat' refine And.intro ?_ ?_
    · trivial
    · exact lod 0 wA (loads_of strct_rat (shp_pr shp_zv shp_zv))
    · exact owe_call1T rfl wA rfl (oO 0 45) (oS 1 0) (fresh_two (fresh_iv _ _) (fresh_is _)) rfl (fun args w => by go_simp) c1
    · exact mO 1 46
    · exact e20 wA (oO 2 44)
    · exact e21 wA (oO 2 44)
    · exact owe_new rfl wA rfl rfl (fun ρ w => alloc_ival ρ _ w)
    · exact owe_put 5 rfl wA rfl (by kernel_rfl) rfl (oO 3 47) (stores_of strct_ival shp_i0 shp_iv) rfl
    · exact mO 4 48
  intro B7 a7 W7 (S7 : Sta w 70 [(2, (.box 26 (PR (Zv A k1) (Zv (((D : Nat) : Int)) k2)))), (10, (.box 34 (SF [(FL (some x)), (FL (some y))])))] [(11, iV 0), (0, TB)] _ _ _)
  refine wp_seq ?_
  refine wp_stmt_seq [.val (iV 0), kF, kF, .val (SF [(FL (some x)), (FL (some y))]), .val (PR (Zv A k1) (Zv (((D : Nat) : Int)) k2)), kT, kF, kF] [.inr 1] [.inl 7, .inr 1] follows S7 rfl (by kernel_rfl) ?_ ?_
  · repeat' refine And.intro ?_ ?_
    · trivial
    · exact mS 0 11
    · exact b_neq_errno_f wA (oO 0 49) (opnd_const _) (h := by decide)
    · exact mO 1 50
    · exact lod 1 (wI 2 51) (loads_of strct_ival shp_iv)
    · exact lod 0 (wI 2 51) (loads_of strct_rat (shp_pr shp_zv shp_zv))
    · exact cc2 (wI 2 51) (qO 3 52 rfl) (qO 4 53 rfl) (fresh_is _) (h_rholdsT rfl rfl hD b1 b2 ho)
    · exact b_not (wI 2 51) (oO 5 54)
    · exact pF wA (oO 2 51) (oO 6 55)
  intro B8 a8 W8 (S8 : Sta w 70 [(10, (.box 34 (SF [(FL (some x)), (FL (some y))])))] [(56, bF), (0, TB)] _ _ _)
  refine wp_cond_false (S8.bool 0 56 rfl) ?_
  refine wp_skip ?_
  refine thenN ?_
  refine wp_stmt_seq [.val (Part a8 10 0), .val (FL (some x)), .val (Part a8 10 1), .val (FL (some y)), kF, kF, .val (Part a8 10 1), .val (FL (some y)), .val (Part a8 10 0), .val (FL (some x)), .val (FL (upP (some x))), kT, kT, kT] [.inr 0] [.inl 13, .inr 1] follows S8 rfl (by kernel_rfl) ?_ ?_
  · repeat' refine And.intro ?_ ?_
    · trivial
    · exact owe_part rfl wA rfl (k := 0) rfl (by kernel_rfl) rfl (fun ρ w b h => part_ival0 ρ _ _ w b 0 h)
    · exact owe_pload rfl wA rfl (oO 0 57) (k := 0) rfl (by kernel_rfl) rfl (fun ρ w b u h1 h2 h3 => ploadI rfl load1_f64 ρ _ _ w b u h1 h2 h3)
    · exact owe_part rfl wA rfl (k := 0) rfl (by kernel_rfl) rfl (fun ρ w b h => part_ival1 ρ _ _ w b 0 h)
    · exact owe_pload rfl wA rfl (oO 2 59) (k := 0) rfl (by kernel_rfl) rfl (fun ρ w b u h1 h2 h3 => ploadI rfl load1_f64 ρ _ _ w b u h1 h2 h3)
    · exact owe_fcmp rfl wA rfl (oO 1 58) (oO 3 60) (eq_f hxy) rfl
    · exact mO 4 61
    · exact owe_part rfl (wI 5 62) rfl (k := 0) rfl (by kernel_rfl) rfl (fun ρ w b h => part_ival1 ρ _ _ w b 0 h)
    · exact owe_pload rfl (wI 5 62) rfl (oO 6 63) (k := 0) rfl (by kernel_rfl) rfl (fun ρ w b u h1 h2 h3 => ploadI rfl load1_f64 ρ _ _ w b u h1 h2 h3)
    · exact owe_part rfl (wI 5 62) rfl (k := 0) rfl (by kernel_rfl) rfl (fun ρ w b h => part_ival0 ρ _ _ w b 0 h)
    · exact owe_pload rfl (wI 5 62) rfl (oO 8 65) (k := 0) rfl (by kernel_rfl) rfl (fun ρ w b u h1 h2 h3 => ploadI rfl load1_f64 ρ _ _ w b u h1 h2 h3)
    · exact cc1 (wI 5 62) (qO 9 66 rfl) (fresh_fl _) h_up
    · exact owe_fcmp rfl (wI 5 62) rfl (oO 7 64) (oO 10 67) (by rw [hup]; exact eq_t rfl) rfl
    · exact pF wA (oO 5 62) (oO 11 68)
    · exact mO 12 69
  intro B9 a9 W9 (S9 : Sta w 70 [(10, (.box 34 (SF [(FL (some x)), (FL (some y))])))] [(4, bT), (0, TB)] _ _ _)
  refine wp_ret ?_
  exact end_one S9 rfl (res_tmp S9 0 4 rfl)
set_option maxHeartbeats 2000000 in
theorem tight_1b (w : World) (b : Nat) (hb : b < 18446744073709551616) (hT : T32 w) (p : Int) (hp : plc b = some p) (hq : Fin p) (c0 : ∀ w u, T32 w → Rv (nR (vp p) uF) ((dR (vp p) uF : Nat) : Int) 2200 2200 u w → Calls Tryz.prog 7 #[u] w (Gives (TWO (IVN (some p) (some p)) (IS (.int .i64 0))) w)) (A D : Int) (k1 k2 : Nat) (r : Value) (hr : Has (fun _ => False) w (Rv A D k1 k2) r) (b1 : k1 ≤ 8388608) (b2 : k2 ≤ 8388608) (hD : D ≤ 0) :
    Calls Tryz.prog 3 #[r, (.int .u64 ((b : Nat) : Int))] w (Gives (IS (.bool true)) w) := by
  refine calls_sta (sl := [(0, (PR (Zv A k1) (Zv D k2))), (1, (Is (.int .u64 ((b : Nat) : Int))))]) Tryz.func3 rfl Tryz.ntmps3 (by simp) (args_cons rfl (hr) (args_cons rfl (is_has _) args_nil)) ?_
  intro a0 S0
  replace S0 : Sta w 70 [] [(0, (PR (Zv A k1) (Zv D k2))), (1, Is (.int .u64 ((b : Nat) : Int))), (0, TB)] (fun _ => False) a0 w := S0.more 0 (tb_has hT)
  refine wp_stmt_seq [.new (.box 26 (PR (Zv A k1) (Zv D k2))), kF] [.inl 0] [.inr 1, .inr 2] follows S0 rfl (by kernel_rfl) ?_ ?_
  · refine ⟨⟨trivial, ?_⟩, ?_⟩
    · exact owe_box rfl wA rfl (oS 0 0) rfl (fun ρ w h => box_rat (shp_pr shp_zv shp_zv) ρ _ _ w h)
    · exact mC
  intro B1 a1 W1 (S1 : Sta w 70 [(2, (.box 26 (PR (Zv A k1) (Zv D k2))))] [(1, Is (.int .u64 ((b : Nat) : Int))), (0, TB)] _ _ _)
  refine wp_seq ?_
  refine wp_stmt_seq [kT, kF] [.inr 0] [.inl 1, .inr 0, .inr 1] follows S1 rfl (by kernel_rfl) ?_ ?_
  · refine ⟨⟨trivial, ?_⟩, ?_⟩
    · exact owe_call0 rfl wA rfl  (fresh_is _) rfl (fun args w => by go_simp) awake_w
    · exact b_not wA (oO 0 12)
  intro B2 a2 W2 (S2 : Sta w 70 [(2, (.box 26 (PR (Zv A k1) (Zv D k2))))] [(13, bF), (1, Is (.int .u64 ((b : Nat) : Int))), (0, TB)] _ _ _)
  refine wp_cond_false (S2.bool 0 13 rfl) ?_
  refine wp_skip ?_
  refine thenN ?_
  refine wp_stmt_seq [.val (Is (.int .u64 ((b : Nat) : Int))), .val (Is (.float .f64 b)), .val (Is (.float .f64 b))] [.inr 0] [.inl 2, .inr 2] follows S2 rfl (by kernel_rfl) ?_ ?_
  · refine ⟨⟨⟨trivial, ?_⟩, ?_⟩, ?_⟩
    · exact mS 1 1
    · exact owe_frbits rfl wA rfl (oO 0 14) rfl
    · exact mO 1 15
  intro B3 a3 W3 (S3 : Sta w 70 [(2, (.box 26 (PR (Zv A k1) (Zv D k2))))] [(5, Is (.float .f64 b)), (0, TB)] _ _ _)
  refine wp_stmt_seq [.val (Is (.float .f64 b)), .val ((TWO (RN (nR (vp p) uF) (dR (vp p) uF)) (IS (.bool true))) w.heap.size), .val ((TWO (RN (nR (vp p) uF) (dR (vp p) uF)) (IS (.bool true))) w.heap.size), .val ((RN (nR (vp p) uF) (dR (vp p) uF)) w.heap.size), kT, .new (.box 26 zR), .put (.inr 5) (.box 26 ((RN (nR (vp p) uF) (dR (vp p) uF)) w.heap.size)), kT] [.inr 0, .inl 5] [.inl 7, .inr 0, .inr 1] follows S3 rfl (by kernel_rfl) ?_ ?_
  · repeat' refine And.intro ?_ ?_
    · trivial
    · exact mS 0 5
    · exact cc1 wA (qO 0 17 rfl) (fresh_two (fresh_rn _ _) (fresh_is _)) (pur_is (fun w => exact_fin w b hb p hp hq))
    · exact mO 1 18
    · exact e20 wA (oO 2 16)
    · exact e21 wA (oO 2 16)
    · exact owe_new rfl wA rfl rfl (fun ρ w => alloc_rat ρ _ w)
    · exact owe_put 5 rfl wA rfl (by kernel_rfl) rfl (oO 3 19) (stores_of strct_rat shp_r0 (shp_pr shp_zn shp_zn)) rfl
    · exact mO 4 20
  intro B4 a4 W4 (S4 : Sta w 70 [(2, (.box 26 (PR (Zv A k1) (Zv D k2)))), (6, (.box 26 ((RN (nR (vp p) uF) (dR (vp p) uF)) w.heap.size)))] [(7, bT), (5, Is (.float .f64 b)), (0, TB)] _ _ _)
  refine wp_seq ?_
  refine wp_stmt_seq [kT] [.inr 0, .inr 1] [.inl 0, .inr 1, .inr 2] follows S4 rfl (by kernel_rfl) ?_ ?_
  · refine ⟨trivial, ?_⟩
    · exact mS 0 7
  intro B5 a5 W5 (S5 : Sta w 70 [(2, (.box 26 (PR (Zv A k1) (Zv D k2)))), (6, (.box 26 ((RN (nR (vp p) uF) (dR (vp p) uF)) w.heap.size)))] [(21, bT), (5, Is (.float .f64 b)), (0, TB)] _ _ _)
  refine wp_cond_true (S5.bool 0 21 rfl) ?_
  refine wp_stmt_seq [.val ((RN (nR (vp p) uF) (dR (vp p) uF)) w.heap.size), .val ((TWO (IVN (some p) (some p)) (IS (.int .i64 0))) w.heap.size), .val ((TWO (IVN (some p) (some p)) (IS (.int .i64 0))) w.heap.size), .val (SF [(FL (some p)), (FL (some p))]), .val (iV 0), .new (.box 34 (Is (.agg #[.float .f64 0, .float .f64 0]))), .put (.inr 5) (.box 34 (SF [(FL (some p)), (FL (some p))])), .val (iV 0)] [.inr 0, .inl 5] [.inl 7, .inr 1, .inr 2] follows S5 rfl (by kernel_rfl) ?_ ?_
  · repeat' refine And.intro ?_ ?_
    · trivial
    · exact lod 1 wA (loads_of strct_rat (shp_pr shp_zn shp_zn))
    · exact owe_call1T rfl wA rfl (oO 0 23) (oS 2 0) (fresh_two (fresh_iv _ _) (fresh_is _)) rfl (fun args w => by go_simp) (fun w u hT h1 => c0 w u hT ((rn_rv (exn_len hq) (exd_len p)) _ _ h1))
    · exact mO 1 24
    · exact e20 wA (oO 2 22)
    · exact e21 wA (oO 2 22)
    · exact owe_new rfl wA rfl rfl (fun ρ w => alloc_ival ρ _ w)
    · exact owe_put 5 rfl wA rfl (by kernel_rfl) rfl (oO 3 25) (stores_of strct_ival shp_i0 shp_iv) rfl
    · exact mO 4 26
  intro B6 a6 W6 (S6 : Sta w 70 [(2, (.box 26 (PR (Zv A k1) (Zv D k2)))), (8, (.box 34 (SF [(FL (some p)), (FL (some p))])))] [(9, iV 0), (5, Is (.float .f64 b)), (0, TB)] _ _ _)
  refine wp_stmt_seq [.val (iV 0), kF, kF, .val (Part a6 8 0), .val (FL (some p)), .val (Is (.float .f64 b)), kF, kF, kF, .val (Part a6 8 1), .val (FL (some p)), .val (Is (.float .f64 b)), kF, kF] [.inr 0, .inr 1] [.inl 13, .inr 2] follows S6 rfl (by kernel_rfl) ?_ ?_
  · repeat' refine And.intro ?_ ?_
    · trivial
    · exact mS 0 9
    · exact b_neq_errno_f wA (oO 0 27) (opnd_const _) (h := by decide)
    · exact mO 1 28
    · exact owe_part rfl (wI 2 29) rfl (k := 1) rfl (by kernel_rfl) rfl (fun ρ w b h => part_ival0 ρ _ _ w b 0 h)
    · exact owe_pload rfl (wI 2 29) rfl (oO 3 30) (k := 1) rfl (by kernel_rfl) rfl (fun ρ w b u h1 h2 h3 => ploadI rfl load1_f64 ρ _ _ w b u h1 h2 h3)
    · exact mW (wI 2 29) (oS 1 5)
    · exact owe_fcmp rfl (wI 2 29) rfl (oO 4 31) ((oO 5 32).imp (fl_is hb)) (by rw [hp]; exact nq_f rfl) rfl
    · exact pF wA (oO 2 29) (oO 6 33)
    · exact mO 7 34
    · exact owe_part rfl (wI 8 35) rfl (k := 1) rfl (by kernel_rfl) rfl (fun ρ w b h => part_ival1 ρ _ _ w b 0 h)
    · exact owe_pload rfl (wI 8 35) rfl (oO 9 36) (k := 1) rfl (by kernel_rfl) rfl (fun ρ w b u h1 h2 h3 => ploadI rfl load1_f64 ρ _ _ w b u h1 h2 h3)
    · exact mW (wI 8 35) (oS 1 5)
    · exact owe_fcmp rfl (wI 8 35) rfl (oO 10 37) ((oO 11 38).imp (fl_is hb)) (by rw [hp]; exact nq_f rfl) rfl
    · exact pF wA (oO 8 35) (oO 12 39)
  intro B7 a7 W7 (S7 : Sta w 70 [(2, (.box 26 (PR (Zv A k1) (Zv D k2)))), (8, (.box 34 (SF [(FL (some p)), (FL (some p))])))] [(40, bF), (0, TB)] _ _ _)
  refine wp_cond_false (S7.bool 0 40 rfl) ?_
  refine wp_skip ?_
  refine thenN ?_
  refine wp_seq ?_
  refine wp_stmt_seq [.val (PR (Zv A k1) (Zv D k2)), kF, kT] [.inr 0, .inr 1] [.inl 2, .inr 1] follows S7 rfl (by kernel_rfl) ?_ ?_
  · refine ⟨⟨⟨trivial, ?_⟩, ?_⟩, ?_⟩
    · exact lod 0 wA (loads_of strct_rat (shp_pr shp_zv shp_zv))
    · exact cc1 wA (qO 0 41 rfl) (fresh_is _) (h_rval b1 b2 (decide_eq_false (Int.not_lt.2 (sgn_not hD))))
    · exact b_not wA (oO 1 42)
  intro B8 a8 W8 (S8 : Sta w 70 [(2, (.box 26 (PR (Zv A k1) (Zv D k2)))), (8, (.box 34 (SF [(FL (some p)), (FL (some p))])))] [(43, bT), (0, TB)] _ _ _)
  refine wp_cond_true (S8.bool 0 43 rfl) ?_
  refine wp_stmt_seq [kT] [.inr 1] [.inl 0, .inr 1] follows S8 rfl (by kernel_rfl) ?_ ?_
  · refine ⟨trivial, ?_⟩
    · exact mC
  intro B9 a9 W9 (S9 : Sta w 70 [(8, (.box 34 (SF [(FL (some p)), (FL (some p))])))] [(4, bT), (0, TB)] _ _ _)
  refine wp_ret ?_
  refine thenR ?_
  exact end_one S9 rfl (res_tmp S9 0 4 rfl)
set_option maxHeartbeats 2000000 in
theorem tight_1e (w : World) (b : Nat) (hb : b < 18446744073709551616) (hT : T32 w) (p : Int) (hp : plc b = some p) (hq : Fin p) (c0 : ∀ w u, T32 w → Rv (nR (vp p) uF) ((dR (vp p) uF : Nat) : Int) 2200 2200 u w → Calls Tryz.prog 7 #[u] w (Gives (TWO (IVN (some p) (some p)) (IS (.int .i64 0))) w)) (A : Int) (D k1 k2 : Nat) (r : Value) (hr : Has (fun _ => False) w (Rv A ((D : Nat) : Int) k1 k2) r) (hD : D ≠ 0) (b1 : k1 ≤ 8388608) (b2 : k2 ≤ 8388608) (x y : Int) (c1 : ∀ w u, T32 w → Rv A ((D : Nat) : Int) k1 k2 u w → Calls Tryz.prog 7 #[u] w (Gives (TWO (IVN (some x) (some y)) (IS (.int .i64 0))) w)) (ho : hoB x y A D = true) (hxy : x = y) :
    Calls Tryz.prog 3 #[r, (.int .u64 ((b : Nat) : Int))] w (Gives (IS (.bool true)) w) := by
  refine calls_sta (sl := [(0, (PR (Zv A k1) (Zv (((D : Nat) : Int)) k2))), (1, (Is (.int .u64 ((b : Nat) : Int))))]) Tryz.func3 rfl Tryz.ntmps3 (by simp) (args_cons rfl (hr) (args_cons rfl (is_has _) args_nil)) ?_
  intro a0 S0
  replace S0 : Sta w 70 [] [(0, (PR (Zv A k1) (Zv (((D : Nat) : Int)) k2))), (1, Is (.int .u64 ((b : Nat) : Int))), (0, TB)] (fun _ => False) a0 w := S0.more 0 (tb_has hT)
  refine wp_stmt_seq [.new (.box 26 (PR (Zv A k1) (Zv (((D : Nat) : Int)) k2))), kF] [.inl 0] [.inr 1, .inr 2] follows S0 rfl (by kernel_rfl) ?_ ?_
  · refine ⟨⟨trivial, ?_⟩, ?_⟩
    · exact owe_box rfl wA rfl (oS 0 0) rfl (fun ρ w h => box_rat (shp_pr shp_zv shp_zv) ρ _ _ w h)
    · exact mC
  intro B1 a1 W1 (S1 : Sta w 70 [(2, (.box 26 (PR (Zv A k1) (Zv (((D : Nat) : Int)) k2))))] [(1, Is (.int .u64 ((b : Nat) : Int))), (0, TB)] _ _ _)
  refine wp_seq ?_
  refine wp_stmt_seq [kT, kF] [.inr 0] [.inl 1, .inr 0, .inr 1] follows S1 rfl (by kernel_rfl) ?_ ?_
  · refine ⟨⟨trivial, ?_⟩, ?_⟩
    · exact owe_call0 rfl wA rfl  (fresh_is _) rfl (fun args w => by go_simp) awake_w
    · exact b_not wA (oO 0 12)
  intro B2 a2 W2 (S2 : Sta w 70 [(2, (.box 26 (PR (Zv A k1) (Zv (((D : Nat) : Int)) k2))))] [(13, bF), (1, Is (.int .u64 ((b : Nat) : Int))), (0, TB)] _ _ _)
  refine wp_cond_false (S2.bool 0 13 rfl) ?_
  refine wp_skip ?_
  refine thenN ?_
  refine wp_stmt_seq [.val (Is (.int .u64 ((b : Nat) : Int))), .val (Is (.float .f64 b)), .val (Is (.float .f64 b))] [.inr 0] [.inl 2, .inr 2] follows S2 rfl (by kernel_rfl) ?_ ?_
  · refine ⟨⟨⟨trivial, ?_⟩, ?_⟩, ?_⟩
    · exact mS 1 1
    · exact owe_frbits rfl wA rfl (oO 0 14) rfl
    · exact mO 1 15
  intro B3 a3 W3 (S3 : Sta w 70 [(2, (.box 26 (PR (Zv A k1) (Zv (((D : Nat) : Int)) k2))))] [(5, Is (.float .f64 b)), (0, TB)] _ _ _)
  refine wp_stmt_seq [.val (Is (.float .f64 b)), .val ((TWO (RN (nR (vp p) uF) (dR (vp p) uF)) (IS (.bool true))) w.heap.size), .val ((TWO (RN (nR (vp p) uF) (dR (vp p) uF)) (IS (.bool true))) w.heap.size), .val ((RN (nR (vp p) uF) (dR (vp p) uF)) w.heap.size), kT, .new (.box 26 zR), .put (.inr 5) (.box 26 ((RN (nR (vp p) uF) (dR (vp p) uF)) w.heap.size)), kT] [.inr 0, .inl 5] [.inl 7, .inr 0, .inr 1] follows S3 rfl (by kernel_rfl) ?_ ?_
  · repeat' refine And.intro ?_ ?_
    · trivial
    · exact mS 0 5
    · exact cc1 wA (qO 0 17 rfl) (fresh_two (fresh_rn _ _) (fresh_is _)) (pur_is (fun w => exact_fin w b hb p hp hq))
    · exact mO 1 18
    · exact e20 wA (oO 2 16)
    · exact e21 wA (oO 2 16)
    · exact owe_new rfl wA rfl rfl (fun ρ w => alloc_rat ρ _ w)
    · exact owe_put 5 rfl wA rfl (by kernel_rfl) rfl (oO 3 19) (stores_of strct_rat shp_r0 (shp_pr shp_zn shp_zn)) rfl
    · exact mO 4 20
  intro B4 a4 W4 (S4 : Sta w 70 [(2, (.box 26 (PR (Zv A k1) (Zv (((D : Nat) : Int)) k2)))), (6, (.box 26 ((RN (nR (vp p) uF) (dR (vp p) uF)) w.heap.size)))] [(7, bT), (5, Is (.float .f64 b)), (0, TB)] _ _ _)
  refine wp_seq ?_
  refine wp_stmt_seq [kT] [.inr 0, .inr 1] [.inl 0, .inr 1, .inr 2] follows S4 rfl (by kernel_rfl) ?_ ?_
  · refine ⟨trivial, ?_⟩
    · exact mS 0 7
  intro B5 a5 W5 (S5 : Sta w 70 [(2, (.box 26 (PR (Zv A k1) (Zv (((D : Nat) : Int)) k2)))), (6, (.box 26 ((RN (nR (vp p) uF) (dR (vp p) uF)) w.heap.size)))] [(21, bT), (5, Is (.float .f64 b)), (0, TB)] _ _ _)
  refine wp_cond_true (S5.bool 0 21 rfl) ?_
  refine wp_stmt_seq [.val ((RN (nR (vp p) uF) (dR (vp p) uF)) w.heap.size), .val ((TWO (IVN (some p) (some p)) (IS (.int .i64 0))) w.heap.size), .val ((TWO (IVN (some p) (some p)) (IS (.int .i64 0))) w.heap.size), .val (SF [(FL (some p)), (FL (some p))]), .val (iV 0), .new (.box 34 (Is (.agg #[.float .f64 0, .float .f64 0]))), .put (.inr 5) (.box 34 (SF [(FL (some p)), (FL (some p))])), .val (iV 0)] [.inr 0, .inl 5] [.inl 7, .inr 1, .inr 2] follows S5 rfl (by kernel_rfl) ?_ ?_
  · repeat' refine And.intro ?_ ?_
    · trivial
    · exact lod 1 wA (loads_of strct_rat (shp_pr shp_zn shp_zn))
    · exact owe_call1T rfl wA rfl (oO 0 23) (oS 2 0) (fresh_two (fresh_iv _ _) (fresh_is _)) rfl (fun args w => by go_simp) (fun w u hT h1 => c0 w u hT ((rn_rv (exn_len hq) (exd_len p)) _ _ h1))
    · exact mO 1 24
    · exact e20 wA (oO 2 22)
    · exact e21 wA (oO 2 22)
    · exact owe_new rfl wA rfl rfl (fun ρ w => alloc_ival ρ _ w)
    · exact owe_put 5 rfl wA rfl (by kernel_rfl) rfl (oO 3 25) (stores_of strct_ival shp_i0 shp_iv) rfl
    · exact mO 4 26
  intro B6 a6 W6 (S6 : Sta w 70 [(2, (.box 26 (PR (Zv A k1) (Zv (((D : Nat) : Int)) k2)))), (8, (.box 34 (SF [(FL (some p)), (FL (some p))])))] [(9, iV 0), (5, Is (.float .f64 b)), (0, TB)] _ _ _)
  refine wp_stmt_seq [.val (iV 0), kF, kF, .val (Part a6 8 0), .val (FL (some p)), .val (Is (.float .f64 b)), kF, kF, kF, .val (Part a6 8 1), .val (FL (some p)), .val (Is (.float .f64 b)), kF, kF] [.inr 0, .inr 1] [.inl 13, .inr 2] follows S6 rfl (by kernel_rfl) ?_ ?_
  · repeat' refine And.intro ?_ ?_
    · trivial
    · exact mS 0 9
    · exact b_neq_errno_f wA (oO 0 27) (opnd_const _) (h := by decide)
    · exact mO 1 28
    · exact owe_part rfl (wI 2 29) rfl (k := 1) rfl (by kernel_rfl) rfl (fun ρ w b h => part_ival0 ρ _ _ w b 0 h)
    · exact owe_pload rfl (wI 2 29) rfl (oO 3 30) (k := 1) rfl (by kernel_rfl) rfl (fun ρ w b u h1 h2 h3 => ploadI rfl load1_f64 ρ _ _ w b u h1 h2 h3)
    · exact mW (wI 2 29) (oS 1 5)
    · exact owe_fcmp rfl (wI 2 29) rfl (oO 4 31) ((oO 5 32).imp (fl_is hb)) (by rw [hp]; exact nq_f rfl) rfl
    · exact pF wA (oO 2 29) (oO 6 33)
    · exact mO 7 34
    · exact owe_part rfl (wI 8 35) rfl (k := 1) rfl (by kernel_rfl) rfl (fun ρ w b h => part_ival1 ρ _ _ w b 0 h)
    · exact owe_pload rfl (wI 8 35) rfl (oO 9 36) (k := 1) rfl (by kernel_rfl) rfl (fun ρ w b u h1 h2 h3 => ploadI rfl load1_f64 ρ _ _ w b u h1 h2 h3)
    · exact mW (wI 8 35) (oS 1 5)
    · exact owe_fcmp rfl (wI 8 35) rfl (oO 10 37) ((oO 11 38).imp (fl_is hb)) (by rw [hp]; exact nq_f rfl) rfl
    · exact pF wA (oO 8 35) (oO 12 39)
  intro B7 a7 W7 (S7 : Sta w 70 [(2, (.box 26 (PR (Zv A k1) (Zv (((D : Nat) : Int)) k2)))), (8, (.box 34 (SF [(FL (some p)), (FL (some p))])))] [(40, bF), (0, TB)] _ _ _)
  refine wp_cond_false (S7.bool 0 40 rfl) ?_
  refine wp_skip ?_
  refine thenN ?_
  refine wp_seq ?_
  refine wp_stmt_seq [.val (PR (Zv A k1) (Zv (((D : Nat) : Int)) k2)), kT, kF] [.inr 0, .inr 1] [.inl 2, .inr 1] follows S7 rfl (by kernel_rfl) ?_ ?_
  · refine ⟨⟨⟨trivial, ?_⟩, ?_⟩, ?_⟩
    · exact lod 0 wA (loads_of strct_rat (shp_pr shp_zv shp_zv))
    · exact cc1 wA (qO 0 41 rfl) (fresh_is _) (h_rval b1 b2 (decide_eq_true (sgn_pos hD)))
    · exact b_not wA (oO 1 42)
  intro B8 a8 W8 (S8 : Sta w 70 [(2, (.box 26 (PR (Zv A k1) (Zv (((D : Nat) : Int)) k2)))), (8, (.box 34 (SF [(FL (some p)), (FL (some p))])))] [(43, bF), (0, TB)] _ _ _)
  refine wp_cond_false (S8.bool 0 43 rfl) ?_
  refine wp_skip ?_
  refine thenN ?_
  refine wp_stmt_seq [.val (PR (Zv A k1) (Zv (((D : Nat) : Int)) k2)), .val ((TWO (IVN (some x) (some y)) (IS (.int .i64 0))) w.heap.size), .val ((TWO (IVN (some x) (some y)) (IS (.int .i64 0))) w.heap.size), .val (SF [(FL (some x)), (FL (some y))]), .val (iV 0), .new (.box 34 (Is (.agg #[.float .f64 0, .float .f64 0]))), .put (.inr 5) (.box 34 (SF [(FL (some x)), (FL (some y))])), .val (iV 0)] [.inr 0, .inr 1, .inl 5] [.inl 7, .inr 1] follows S8 rfl (by kernel_rfl) ?_ ?_
  · repeat' refine And.intro ?_ ?_
    · trivial
    · exact lod 0 wA (loads_of strct_rat (shp_pr shp_zv shp_zv))
    · exact owe_call1T rfl wA rfl (oO 0 45) (oS 1 0) (fresh_two (fresh_iv _ _) (fresh_is _)) rfl (fun args w => by go_simp) c1
    · exact mO 1 46
    · exact e20 wA (oO 2 44)
    · exact e21 wA (oO 2 44)
    · exact owe_new rfl wA rfl rfl (fun ρ w => alloc_ival ρ _ w)
    · exact owe_put 5 rfl wA rfl (by kernel_rfl) rfl (oO 3 47) (stores_of strct_ival shp_i0 shp_iv) rfl
    · exact mO 4 48
  intro B9 a9 W9 (S9 : Sta w 70 [(2, (.box 26 (PR (Zv A k1) (Zv (((D : Nat) : Int)) k2)))), (8, (.box 34 (SF [(FL (some p)), (FL (some p))]))), (10, (.box 34 (SF [(FL (some x)), (FL (some y))])))] [(11, iV 0), (0, TB)] _ _ _)
  refine wp_seq ?_
  refine wp_stmt_seq [.val (iV 0), kF, kF, .val (SF [(FL (some x)), (FL (some y))]), .val (PR (Zv A k1) (Zv (((D : Nat) : Int)) k2)), kT, kF, kF] [.inr 1, .inr 2] [.inl 7, .inr 1] follows S9 rfl (by kernel_rfl) ?_ ?_
  · repeat' refine And.intro ?_ ?_
    · trivial
    · exact mS 0 11
    · exact b_neq_errno_f wA (oO 0 49) (opnd_const _) (h := by decide)
    · exact mO 1 50
    · exact lod 2 (wI 2 51) (loads_of strct_ival shp_iv)
    · exact lod 0 (wI 2 51) (loads_of strct_rat (shp_pr shp_zv shp_zv))
    · exact cc2 (wI 2 51) (qO 3 52 rfl) (qO 4 53 rfl) (fresh_is _) (h_rholdsT rfl rfl hD b1 b2 ho)
    · exact b_not (wI 2 51) (oO 5 54)
    · exact pF wA (oO 2 51) (oO 6 55)
  intro B10 a10 W10 (S10 : Sta w 70 [(8, (.box 34 (SF [(FL (some p)), (FL (some p))]))), (10, (.box 34 (SF [(FL (some x)), (FL (some y))])))] [(56, bF), (0, TB)] _ _ _)
  refine wp_cond_false (S10.bool 0 56 rfl) ?_
  refine wp_skip ?_
  refine thenN ?_
  refine wp_stmt_seq [.val (Part a10 10 0), .val (FL (some x)), .val (Part a10 10 1), .val (FL (some y)), kT, kT, .off, .off, .off, .off, .off, .off, kT, kT] [.inr 0, .inr 1] [.inl 13, .inr 1] follows S10 rfl (by kernel_rfl) ?_ ?_
  · repeat' refine And.intro ?_ ?_
    · trivial
    · exact owe_part rfl wA rfl (k := 1) rfl (by kernel_rfl) rfl (fun ρ w b h => part_ival0 ρ _ _ w b 0 h)
    · exact owe_pload rfl wA rfl (oO 0 57) (k := 1) rfl (by kernel_rfl) rfl (fun ρ w b u h1 h2 h3 => ploadI rfl load1_f64 ρ _ _ w b u h1 h2 h3)
    · exact owe_part rfl wA rfl (k := 1) rfl (by kernel_rfl) rfl (fun ρ w b h => part_ival1 ρ _ _ w b 0 h)
    · exact owe_pload rfl wA rfl (oO 2 59) (k := 1) rfl (by kernel_rfl) rfl (fun ρ w b u h1 h2 h3 => ploadI rfl load1_f64 ρ _ _ w b u h1 h2 h3)
    · exact owe_fcmp rfl wA rfl (oO 1 58) (oO 3 60) (eq_t hxy) rfl
    · exact mO 4 61
    · exact oF 5 62
    · exact oF 5 62
    · exact oF 5 62
    · exact oF 5 62
    · exact oF 5 62
    · exact oF 5 62
    · exact pT wA (oO 5 62) (opnd_const _)
    · exact mO 12 69
  intro B11 a11 W11 (S11 : Sta w 70 [(8, (.box 34 (SF [(FL (some p)), (FL (some p))]))), (10, (.box 34 (SF [(FL (some x)), (FL (some y))])))] [(4, bT), (0, TB)] _ _ _)
  refine wp_ret ?_
  exact end_one S11 rfl (res_tmp S11 0 4 rfl)
set_option maxHeartbeats 2000000 in
theorem tight_1n (w : World) (b : Nat) (hb : b < 18446744073709551616) (hT : T32 w) (p : Int) (hp : plc b = some p) (hq : Fin p) (c0 : ∀ w u, T32 w → Rv (nR (vp p) uF) ((dR (vp p) uF : Nat) : Int) 2200 2200 u w → Calls Tryz.prog 7 #[u] w (Gives (TWO (IVN (some p) (some p)) (IS (.int .i64 0))) w)) (A : Int) (D k1 k2 : Nat) (r : Value) (hr : Has (fun _ => False) w (Rv A ((D : Nat) : Int) k1 k2) r) (hD : D ≠ 0) (b1 : k1 ≤ 8388608) (b2 : k2 ≤ 8388608) (x y : Int) (c1 : ∀ w u, T32 w → Rv A ((D : Nat) : Int) k1 k2 u w → Calls Tryz.prog 7 #[u] w (Gives (TWO (IVN (some x) (some y)) (IS (.int .i64 0))) w)) (ho : hoB x y A D = true) (hxy : ¬ x = y) (hup : upP (some x) = some y) :
    Calls Tryz.prog 3 #[r, (.int .u64 ((b : Nat) : Int))] w (Gives (IS (.bool true)) w) := by
  refine calls_sta (sl := [(0, (PR (Zv A k1) (Zv (((D : Nat) : Int)) k2))), (1, (Is (.int .u64 ((b : Nat) : Int))))]) Tryz.func3 rfl Tryz.ntmps3 (by simp) (args_cons rfl (hr) (args_cons rfl (is_has _) args_nil)) ?_
  intro a0 S0
  replace S0 : Sta w 70 [] [(0, (PR (Zv A k1) (Zv (((D : Nat) : Int)) k2))), (1, Is (.int .u64 ((b : Nat) : Int))), (0, TB)] (fun _ => False) a0 w := S0.more 0 (tb_has hT)
  refine wp_stmt_seq [.new (.box 26 (PR (Zv A k1) (Zv (((D : Nat) : Int)) k2))), kF] [.inl 0] [.inr 1, .inr 2] follows S0 rfl (by kernel_rfl) ?_ ?_
  · refine ⟨⟨trivial, ?_⟩, ?_⟩
    · exact owe_box rfl wA rfl (oS 0 0) rfl (fun ρ w h => box_rat (shp_pr shp_zv shp_zv) ρ _ _ w h)
    · exact mC
  intro B1 a1 W1 (S1 : Sta w 70 [(2, (.box 26 (PR (Zv A k1) (Zv (((D : Nat) : Int)) k2))))] [(1, Is (.int .u64 ((b : Nat) : Int))), (0, TB)] _ _ _)
  refine wp_seq ?_
  refine wp_stmt_seq [kT, kF] [.inr 0] [.inl 1, .inr 0, .inr 1] follows S1 rfl (by kernel_rfl) ?_ ?_
  · refine ⟨⟨trivial, ?_⟩, ?_⟩
    · exact owe_call0 rfl wA rfl  (fresh_is _) rfl (fun args w => by go_simp) awake_w
    · exact b_not wA (oO 0 12)
  intro B2 a2 W2 (S2 : Sta w 70 [(2, (.box 26 (PR (Zv A k1) (Zv (((D : Nat) : Int)) k2))))] [(13, bF), (1, Is (.int .u64 ((b : Nat) : Int))), (0, TB)] _ _ _)
  refine wp_cond_false (S2.bool 0 13 rfl) ?_
  refine wp_skip ?_
  refine thenN ?_
  refine wp_stmt_seq [.val (Is (.int .u64 ((b : Nat) : Int))), .val (Is (.float .f64 b)), .val (Is (.float .f64 b))] [.inr 0] [.inl 2, .inr 2] follows S2 rfl (by kernel_rfl) ?_ ?_
  · refine ⟨⟨⟨trivial, ?_⟩, ?_⟩, ?_⟩
    · exact mS 1 1
    · exact owe_frbits rfl wA rfl (oO 0 14) rfl
    · exact mO 1 15
  intro B3 a3 W3 (S3 : Sta w 70 [(2, (.box 26 (PR (Zv A k1) (Zv (((D : Nat) : Int)) k2))))] [(5, Is (.float .f64 b)), (0, TB)] _ _ _)
  refine wp_stmt_seq [.val (Is (.float .f64 b)), .val ((TWO (RN (nR (vp p) uF) (dR (vp p) uF)) (IS (.bool true))) w.heap.size), .val ((TWO (RN (nR (vp p) uF) (dR (vp p) uF)) (IS (.bool true))) w.heap.size), .val ((RN (nR (vp p) uF) (dR (vp p) uF)) w.heap.size), kT, .new (.box 26 zR), .put (.inr 5) (.box 26 ((RN (nR (vp p) uF) (dR (vp p) uF)) w.heap.size)), kT] [.inr 0, .inl 5] [.inl 7, .inr 0, .inr 1] follows S3 rfl (by kernel_rfl) ?_ ?_
  · repeat' refine And.intro ?_ ?_
    · trivial
    · exact mS 0 5
    · exact cc1 wA (qO 0 17 rfl) (fresh_two (fresh_rn _ _) (fresh_is _)) (pur_is (fun w => exact_fin w b hb p hp hq))
    · exact mO 1 18
    · exact e20 wA (oO 2 16)
    · exact e21 wA (oO 2 16)
    · exact owe_new rfl wA rfl rfl (fun ρ w => alloc_rat ρ _ w)
    · exact owe_put 5 rfl wA rfl (by kernel_rfl) rfl (oO 3 19) (stores_of strct_rat shp_r0 (shp_pr shp_zn shp_zn)) rfl
    · exact mO 4 20
  intro B4 a4 W4 (S4 : Sta w 70 [(2, (.box 26 (PR (Zv A k1) (Zv (((D : Nat) : Int)) k2)))), (6, (.box 26 ((RN (nR (vp p) uF) (dR (vp p) uF)) w.heap.size)))] [(7, bT), (5, Is (.float .f64 b)), (0, TB)] _ _ _)
  refine wp_seq ?_
  refine wp_stmt_seq [kT] [.inr 0, .inr 1] [.inl 0, .inr 1, .inr 2] follows S4 rfl (by kernel_rfl) ?_ ?_
  · refine ⟨trivial, ?_⟩
    · exact mS 0 7
  intro B5 a5 W5 (S5 : Sta w 70 [(2, (.box 26 (PR (Zv A k1) (Zv (((D : Nat) : Int)) k2)))), (6, (.box 26 ((RN (nR (vp p) uF) (dR (vp p) uF)) w.heap.size)))] [(21, bT), (5, Is (.float .f64 b)), (0, TB)] _ _ _)
  refine wp_cond_true (S5.bool 0 21 rfl) ?_
  refine wp_stmt_seq [.val ((RN (nR (vp p) uF) (dR (vp p) uF)) w.heap.size), .val ((TWO (IVN (some p) (some p)) (IS (.int .i64 0))) w.heap.size), .val ((TWO (IVN (some p) (some p)) (IS (.int .i64 0))) w.heap.size), .val (SF [(FL (some p)), (FL (some p))]), .val (iV 0), .new (.box 34 (Is (.agg #[.float .f64 0, .float .f64 0]))), .put (.inr 5) (.box 34 (SF [(FL (some p)), (FL (some p))])), .val (iV 0)] [.inr 0, .inl 5] [.inl 7, .inr 1, .inr 2] follows S5 rfl (by kernel_rfl) ?_ ?_
  · repeat' refine And.intro ?_ ?_
    · trivial
    · exact lod 1 wA (loads_of strct_rat (shp_pr shp_zn shp_zn))
    · exact owe_call1T rfl wA rfl (oO 0 23) (oS 2 0) (fresh_two (fresh_iv _ _) (fresh_is _)) rfl (fun args w => by go_simp) (fun w u hT h1 => c0 w u hT ((rn_rv (exn_len hq) (exd_len p)) _ _ h1))
    · exact mO 1 24
    · exact e20 wA (oO 2 22)
    · exact e21 wA (oO 2 22)
    · exact owe_new rfl wA rfl rfl (fun ρ w => alloc_ival ρ _ w)
    · exact owe_put 5 rfl wA rfl (by kernel_rfl) rfl (oO 3 25) (stores_of strct_ival shp_i0 shp_iv) rfl
    · exact mO 4 26
  intro B6 a6 W6 (S6 : Sta w 70 [(2, (.box 26 (PR (Zv A k1) (Zv (((D : Nat) : Int)) k2)))), (8, (.box 34 (SF [(FL (some p)), (FL (some p))])))] [(9, iV 0), (5, Is (.float .f64 b)), (0, TB)] _ _ _)
  refine wp_stmt_seq [.val (iV 0), kF, kF, .val (Part a6 8 0), .val (FL (some p)), .val (Is (.float .f64 b)), kF, kF, kF, .val (Part a6 8 1), .val (FL (some p)), .val (Is (.float .f64 b)), kF, kF] [.inr 0, .inr 1] [.inl 13, .inr 2] follows S6 rfl (by kernel_rfl) ?_ ?_
  · repeat' refine And.intro ?_ ?_
    · trivial
    · exact mS 0 9
    · exact b_neq_errno_f wA (oO 0 27) (opnd_const _) (h := by decide)
    · exact mO 1 28
    · exact owe_part rfl (wI 2 29) rfl (k := 1) rfl (by kernel_rfl) rfl (fun ρ w b h => part_ival0 ρ _ _ w b 0 h)
    · exact owe_pload rfl (wI 2 29) rfl (oO 3 30) (k := 1) rfl (by kernel_rfl) rfl (fun ρ w b u h1 h2 h3 => ploadI rfl load1_f64 ρ _ _ w b u h1 h2 h3)
    · exact mW (wI 2 29) (oS 1 5)
    · exact owe_fcmp rfl (wI 2 29) rfl (oO 4 31) ((oO 5 32).imp (fl_is hb)) (by rw [hp]; exact nq_f rfl) rfl
    · exact pF wA (oO 2 29) (oO 6 33)
    · exact mO 7 34
    · exact owe_part rfl (wI 8 35) rfl (k := 1) rfl (by kernel_rfl) rfl (fun ρ w b h => part_ival1 ρ _ _ w b 0 h)
    · exact owe_pload rfl (wI 8 35) rfl (oO 9 36) (k := 1) rfl (by kernel_rfl) rfl (fun ρ w b u h1 h2 h3 => ploadI rfl load1_f64 ρ _ _ w b u h1 h2 h3)
    · exact mW (wI 8 35) (oS 1 5)
    · exact owe_fcmp rfl (wI 8 35) rfl (oO 10 37) ((oO 11 38).imp (fl_is hb)) (by rw [hp]; exact nq_f rfl) rfl
    · exact pF wA (oO 8 35) (oO 12 39)
  intro B7 a7 W7 (S7 : Sta w 70 [(2, (.box 26 (PR (Zv A k1) (Zv (((D : Nat) : Int)) k2)))), (8, (.box 34 (SF [(FL (some p)), (FL (some p))])))] [(40, bF), (0, TB)] _ _ _)
  refine wp_cond_false (S7.bool 0 40 rfl) ?_
  refine wp_skip ?_
  refine thenN ?_
  refine wp_seq ?_
  refine wp_stmt_seq [.val (PR (Zv A k1) (Zv (((D : Nat) : Int)) k2)), kT, kF] [.inr 0, .inr 1] [.inl 2, .inr 1] follows S7 rfl (by kernel_rfl) ?_ ?_
  · refine ⟨⟨⟨trivial, ?_⟩, ?_⟩, ?_⟩
    · exact lod 0 wA (loads_of strct_rat (shp_pr shp_zv shp_zv))
    · exact cc1 wA (qO 0 41 rfl) (fresh_is _) (h_rval b1 b2 (decide_eq_true (sgn_pos hD)))
    · exact b_not wA (oO 1 42)
  intro B8 a8 W8 (S8 : Sta w 70 [(2, (.box 26 (PR (Zv A k1) (Zv (((D : Nat) : Int)) k2)))), (8, (.box 34 (SF [(FL (some p)), (FL (some p))])))] [(43, bF), (0, TB)] _ _ _)
  refine wp_cond_false (S8.bool 0 43 rfl) ?_
  refine wp_skip ?_
  refine thenN ?_
  refine wp_stmt_seq [.val (PR (Zv A k1) (Zv (((D : Nat) : Int)) k2)), .val ((TWO (IVN (some x) (some y)) (IS (.int .i64 0))) w.heap.size), .val ((TWO (IVN (some x) (some y)) (IS (.int .i64 0))) w.heap.size), .val (SF [(FL (some x)), (FL (some y))]), .val (iV 0), .new (.box 34 (Is (.agg #[.float .f64 0, .float .f64 0]))), .put (.inr 5) (.box 34 (SF [(FL (some x)), (FL (some y))])), .val (iV 0)] [.inr 0, .inr 1, .inl 5] [.inl 7, .inr 1] follows S8 rfl (by kernel_rfl) ?_ ?_
  · repeat' refine And.intro ?_ ?_
    · trivial
    · exact lod 0 wA (loads_of strct_rat (shp_pr shp_zv shp_zv))
    · exact owe_call1T rfl wA rfl (oO 0 45) (oS 1 0) (fresh_two (fresh_iv _ _) (fresh_is _)) rfl (fun args w => by go_simp) c1
    · exact mO 1 46
    · exact e20 wA (oO 2 44)
    · exact e21 wA (oO 2 44)
    · exact owe_new rfl wA rfl rfl (fun ρ w => alloc_ival ρ _ w)
    · exact owe_put 5 rfl wA rfl (by kernel_rfl) rfl (oO 3 47) (stores_of strct_ival shp_i0 shp_iv) rfl
    · exact mO 4 48
  intro B9 a9 W9 (S9 : Sta w 70 [(2, (.box 26 (PR (Zv A k1) (Zv (((D : Nat) : Int)) k2)))), (8, (.box 34 (SF [(FL (some p)), (FL (some p))]))), (10, (.box 34 (SF [(FL (some x)), (FL (some y))])))] [(11, iV 0), (0, TB)] _ _ _)
  refine wp_seq ?_
  refine wp_stmt_seq [.val (iV 0), kF, kF, .val (SF [(FL (some x)), (FL (some y))]), .val (PR (Zv A k1) (Zv (((D : Nat) : Int)) k2)), kT, kF, kF] [.inr 1, .inr 2] [.inl 7, .inr 1] follows S9 rfl (by kernel_rfl) ?_ ?_
  · repeat' refine And.intro ?_ ?_
    · trivial
    · exact mS 0 11
    · exact b_neq_errno_f wA (oO 0 49) (opnd_const _) (h := by decide)
    · exact mO 1 50
    · exact lod 2 (wI 2 51) (loads_of strct_ival shp_iv)
    · exact lod 0 (wI 2 51) (loads_of strct_rat (shp_pr shp_zv shp_zv))
    · exact cc2 (wI 2 51) (qO 3 52 rfl) (qO 4 53 rfl) (fresh_is _) (h_rholdsT rfl rfl hD b1 b2 ho)
    · exact b_not (wI 2 51) (oO 5 54)
    · exact pF wA (oO 2 51) (oO 6 55)
  intro B10 a10 W10 (S10 : Sta w 70 [(8, (.box 34 (SF [(FL (some p)), (FL (some p))]))), (10, (.box 34 (SF [(FL (some x)), (FL (some y))])))] [(56, bF), (0, TB)] _ _ _)
  refine wp_cond_false (S10.bool 0 56 rfl) ?_
  refine wp_skip ?_
  refine thenN ?_
  refine wp_stmt_seq [.val (Part a10 10 0), .val (FL (some x)), .val (Part a10 10 1), .val (FL (some y)), kF, kF, .val (Part a10 10 1), .val (FL (some y)), .val (Part a10 10 0), .val (FL (some x)), .val (FL (upP (some x))), kT, kT, kT] [.inr 0, .inr 1] [.inl 13, .inr 1] follows S10 rfl (by kernel_rfl) ?_ ?_
  · repeat' refine And.intro ?_ ?_
    · trivial
    · exact owe_part rfl wA rfl (k := 1) rfl (by kernel_rfl) rfl (fun ρ w b h => part_ival0 ρ _ _ w b 0 h)
    · exact owe_pload rfl wA rfl (oO 0 57) (k := 1) rfl (by kernel_rfl) rfl (fun ρ w b u h1 h2 h3 => ploadI rfl load1_f64 ρ _ _ w b u h1 h2 h3)
    · exact owe_part rfl wA rfl (k := 1) rfl (by kernel_rfl) rfl (fun ρ w b h => part_ival1 ρ _ _ w b 0 h)
    · exact owe_pload rfl wA rfl (oO 2 59) (k := 1) rfl (by kernel_rfl) rfl (fun ρ w b u h1 h2 h3 => ploadI rfl load1_f64 ρ _ _ w b u h1 h2 h3)
    · exact owe_fcmp rfl wA rfl (oO 1 58) (oO 3 60) (eq_f hxy) rfl
    · exact mO 4 61
    · exact owe_part rfl (wI 5 62) rfl (k := 1) rfl (by kernel_rfl) rfl (fun ρ w b h => part_ival1 ρ _ _ w b 0 h)
    · exact owe_pload rfl (wI 5 62) rfl (oO 6 63) (k := 1) rfl (by kernel_rfl) rfl (fun ρ w b u h1 h2 h3 => ploadI rfl load1_f64 ρ _ _ w b u h1 h2 h3)
    · exact owe_part rfl (wI 5 62) rfl (k := 1) rfl (by kernel_rfl) rfl (fun ρ w b h => part_ival0 ρ _ _ w b 0 h)
    · exact owe_pload rfl (wI 5 62) rfl (oO 8 65) (k := 1) rfl (by kernel_rfl) rfl (fun ρ w b u h1 h2 h3 => ploadI rfl load1_f64 ρ _ _ w b u h1 h2 h3)
    · exact cc1 (wI 5 62) (qO 9 66 rfl) (fresh_fl _) h_up
    · exact owe_fcmp rfl (wI 5 62) rfl (oO 7 64) (oO 10 67) (by rw [hup]; exact eq_t rfl) rfl
    · exact pF wA (oO 5 62) (oO 11 68)
    · exact mO 12 69
  intro B11 a11 W11 (S11 : Sta w 70 [(8, (.box 34 (SF [(FL (some p)), (FL (some p))]))), (10, (.box 34 (SF [(FL (some x)), (FL (some y))])))] [(4, bT), (0, TB)] _ _ _)
  refine wp_ret ?_
  exact end_one S11 rfl (res_tmp S11 0 4 rfl)

/-- What is told of a float itself. -/
theorem isfl_self {p : Int} (hq : Fin p) : IsFl (nR (vp p) uF).natAbs (dR (vp p) uF) p.natAbs true := by
  have h1 := congrArg Int.natAbs (nR_mul (vp p) uF)
  rw [Int.natAbs_mul, Int.natAbs_mul, Int.natAbs_natCast, Int.natAbs_natCast, vp_abs] at h1
  have hd := dR_ne (X := vp p) uF_no
  refine ⟨by unfold Fin at hq; omega, by rw [h1]; exact Nat.le_refl _, fun _ => ?_, (decide_eq_true h1.symm).symm⟩
  rw [h1]
  exact Nat.mul_lt_mul_of_pos_right (mg_step _) (by omega)
theorem nR_zero {p : Int} (h : p = 0) : nR (vp p) uF = 0 := by
  have := nR_mul (vp p) uF
  rw [h, show vp 0 = 0 from rfl, Int.zero_mul] at this
  rw [h, show vp 0 = 0 from rfl]
  rcases Int.mul_eq_zero.1 this with h | h
  · exact h
  · have := uF_pos; omega
theorem nR_sgn {p : Int} (h : p ≠ 0) : nR (vp p) uF ≠ 0 ∧ ng (nR (vp p) uF) = decide (p < 0) := by
  have hm := nR_mul (vp p) uF
  have hd := dR_ne (X := vp p) uF_no
  have hdp : (0 : Int) < ((dR (vp p) uF : Nat) : Int) := by omega
  have hu : (0 : Int) < (uF : Int) := uFi
  unfold ng
  rcases Int.lt_or_gt_of_ne h with h1 | h1
  · have hv := vp_neg_iff.2 h1
    have h2 := Int.mul_neg_of_neg_of_pos hv hdp
    have : nR (vp p) uF < 0 := by
      apply Classical.byContradiction
      intro hc
      have := Int.mul_nonneg (Int.not_lt.1 hc) (Int.le_of_lt hu)
      omega
    exact ⟨by omega, by rw [decide_eq_true this, decide_eq_true h1]⟩
  · have hv : 0 < vp p := by have := vp_mono h1; rwa [show vp 0 = 0 from rfl] at this
    have h2 := Int.mul_pos hv hdp
    have : 0 < nR (vp p) uF := by
      apply Classical.byContradiction
      intro hc
      have := Int.mul_nonneg (show 0 ≤ -(nR (vp p) uF) by omega) (Int.le_of_lt hu)
      rw [Int.neg_mul] at this
      omega
    exact ⟨by omega, by rw [decide_eq_false (by omega), decide_eq_false (by omega)]⟩
theorem of_self {p : Int} (hq : Fin p) : ∀ w u, T32 w → Rv (nR (vp p) uF) ((dR (vp p) uF : Nat) : Int) 2200 2200 u w → Calls Tryz.prog 7 #[u] w (Gives (TWO (IVN (some p) (some p)) (IS (.int .i64 0))) w) := by
  by_cases h : p = 0
  · have := h_ofrat0 (k1 := 2200) (k2 := 2200) (nR_zero h) (dR_ne (X := vp p) uF_no) (by decide) (by decide)
    rw [show (p : Int) = 0 from h] at this ⊢
    exact this
  · obtain ⟨h1, h2⟩ := nR_sgn h
    have := h_ofrat (k1 := 2200) (k2 := 2200) h1 (dR_ne (X := vp p) uF_no) (by decide) (by decide) (isfl_self hq)
    rw [h2] at this
    by_cases hs : p < 0
    · rw [decide_eq_true hs, (iv_n1 _).1, (iv_n1 _).2, show -((p.natAbs : Nat) : Int) = p by omega] at this
      exact this
    · rw [decide_eq_false hs, (iv_p1 _).1, (iv_p1 _).2, show ((p.natAbs : Nat) : Int) = p by omega] at this
      exact this
/-- The ends hold the number, and are neighbours. -/
theorem iv_holds {A : Int} {D r : Nat} {a : Bool} (hA : A ≠ 0) (hD : D ≠ 0) (h : IsFl A.natAbs D r a) : hoB (ivL (ng A) r a) (ivH (ng A) r a) A D = true := by
  have hle := h.le
  have lo : Lo ((r : Nat) : Int) ((A.natAbs : Nat) : Int) D := Or.inr ⟨by omega, by rw [vp_nat, ← Int.natCast_mul, ← Int.natCast_mul]; have := h.lo; omega⟩
  have hi : Hi ((if a then r else r + 1 : Nat) : Int) ((A.natAbs : Nat) : Int) D := by
    cases a with
    | true =>
      refine Or.inr ⟨by simp; omega, ?_⟩
      have := of_decide_eq_true h.eq.symm
      simp only [if_true]
      rw [vp_nat, ← Int.natCast_mul, ← Int.natCast_mul]
      omega
    | false =>
      by_cases hm : r < 9218868437227405311
      · refine Or.inr ⟨by simp; omega, ?_⟩
        have := h.hi hm
        simp only [Bool.false_eq_true, if_false]
        rw [vp_nat, ← Int.natCast_mul, ← Int.natCast_mul]
        omega
      · exact Or.inl (by simp; omega)
  have hb : (if a then r else r + 1 : Nat) ≤ 9218868437227405312 := by split <;> omega
  unfold ng
  by_cases hs : A < 0
  · rw [decide_eq_true hs]
    have e : A = -((A.natAbs : Nat) : Int) := by omega
    have e1 : ivL true r a = -((if a then r else r + 1 : Nat) : Int) := rfl
    have e2 : ivH true r a = -((r : Nat) : Int) := rfl
    rw [e1, e2, ho_iff (by omega) (by omega), e]
    exact ⟨lo_neg.2 hi, hi_neg.2 lo⟩
  · rw [decide_eq_false hs]
    have e : A = ((A.natAbs : Nat) : Int) := by omega
    have e1 : ivH false r a = ((if a then r else r + 1 : Nat) : Int) := rfl
    have e2 : ivL false r a = ((r : Nat) : Int) := rfl
    rw [e1, e2, ho_iff (by omega) (by omega), e]
    exact ⟨lo, hi⟩
theorem iv_next {s : Bool} {r : Nat} {a : Bool} (h : r ≤ 9218868437227405311) : ivL s r a = ivH s r a ∨ (¬ ivL s r a = ivH s r a ∧ upP (some (ivL s r a)) = some (ivH s r a)) := by
  cases a <;> cases s
  · right
    rw [(iv_p0 r).1, (iv_p0 r).2]
    exact ⟨by omega, up_r h⟩
  · right
    rw [(iv_n0 r).1, (iv_n0 r).2]
    refine ⟨by omega, ?_⟩
    simp only [upP]
    rw [if_neg (by omega)]
    exact congrArg some (by omega)
  · left; rw [(iv_p1 r).1, (iv_p1 r).2]
  · left; rw [(iv_n1 r).1, (iv_n1 r).2]
theorem hold_0 {D : Nat} : hoB 0 0 0 D = true := (ho_iff (by decide) (by decide)).2 ⟨Or.inr ⟨by decide, by rw [show vp 0 = 0 from rfl, Int.zero_mul, Int.zero_mul]; exact Int.le_refl _⟩, Or.inr ⟨by decide, by rw [show vp 0 = 0 from rfl, Int.zero_mul, Int.zero_mul]; exact Int.le_refl _⟩⟩
theorem ivaltight_walk (w : World) (s : Bool) (p : Option Addr) (n c : Nat) (xs : List Nat) (t : Bool) (q : Option Addr) (m d : Nat) (ys : List Nat) (z : Int) (h : Sl w p n c xs) (h' : Sl w q m d ys) (hc : c ≤ 1048576) (hd : d ≤ 1048576) (hz : 0 ≤ z ∧ z ≤ 18446744073709551615) (hT : T32 w) : Calls Tryz.prog 3 #[.agg #[.bool s, .slice p n c, .bool t, .slice q m d], .int .u64 z] w fun e w' => e = .returned (.bool true) ∧ Below w.heap.size w w' := by
  refine Calls.mono (R := Gives (IS (.bool true)) w) ?_ (fun e w' ⟨v, he, hb, hv⟩ => ⟨by rw [he, show v = _ from hv], hb⟩)
  obtain ⟨b, rfl⟩ : ∃ b : Nat, z = (b : Int) := ⟨z.toNat, by omega⟩
  have hb : b < 18446744073709551616 := by omega
  obtain ⟨hn, hm⟩ : n ≤ 1048576 ∧ m ≤ 1048576 := ⟨by have := h.cap; omega, by have := h'.cap; omega⟩
  have hr : ∀ E, sg t (val ys) = E → Has (fun _ => False) w (Rv (sg s (val xs)) E n m) (.agg #[.bool s, .slice p n c, .bool t, .slice q m d]) := fun E hE => rv_has ⟨_, _, _, _, rfl, ⟨s, p, n, c, xs, rfl, h, rfl, Nat.le_refl _⟩, ⟨t, q, m, d, ys, rfl, h', hE, Nat.le_refl _⟩⟩
  by_cases hD : sg t (val ys) ≤ 0
  · by_cases hf : ∃ p, plc b = some p ∧ Fin p
    · obtain ⟨p1, hp, hq⟩ := hf
      exact tight_1b w b hb hT p1 hp hq (of_self hq) _ _ n m _ (hr _ rfl) (by omega) (by omega) hD
    · exact tight_0b w b hb hT (fun p hp hq => hf ⟨p, hp, hq⟩) _ _ n m _ (hr _ rfl) (by omega) (by omega) hD
  · obtain ⟨D, hE⟩ : ∃ D : Nat, sg t (val ys) = (D : Int) := ⟨(sg t (val ys)).toNat, by omega⟩
    have hD0 : D ≠ 0 := by omega
    obtain ⟨x, y, c1, ho, hn2⟩ : ∃ x y : Int, (∀ w u, T32 w → Rv (sg s (val xs)) ((D : Nat) : Int) n m u w → Calls Tryz.prog 7 #[u] w (Gives (TWO (IVN (some x) (some y)) (IS (.int .i64 0))) w)) ∧ hoB x y (sg s (val xs)) D = true ∧ (x = y ∨ (¬ x = y ∧ upP (some x) = some y)) := by
      by_cases hA : sg s (val xs) = 0
      · exact ⟨0, 0, h_ofrat0 hA hD0 hn hm, by rw [hA]; exact hold_0, Or.inl rfl⟩
      · obtain ⟨r, a, hfl⟩ := isfl_ex (N := (sg s (val xs)).natAbs) (M := D) (by omega) hD0
        exact ⟨_, _, h_ofrat hA hD0 hn hm hfl, iv_holds hA hD0 hfl, iv_next hfl.le⟩
    by_cases hf : ∃ p, plc b = some p ∧ Fin p
    · obtain ⟨p1, hp, hq⟩ := hf
      rcases hn2 with h1 | ⟨h1, h2⟩
      · exact tight_1e w b hb hT p1 hp hq (of_self hq) _ D n m _ (hr _ hE) hD0 (by omega) (by omega) x y c1 ho h1
      · exact tight_1n w b hb hT p1 hp hq (of_self hq) _ D n m _ (hr _ hE) hD0 (by omega) (by omega) x y c1 ho h1 h2
    · rcases hn2 with h1 | ⟨h1, h2⟩
      · exact tight_0e w b hb hT (fun p hp hq => hf ⟨p, hp, hq⟩) _ D n m _ (hr _ hE) hD0 (by omega) (by omega) x y c1 ho h1
      · exact tight_0n w b hb hT (fun p hp hq => hf ⟨p, hp, hq⟩) _ D n m _ (hr _ hE) hD0 (by omega) (by omega) x y c1 ho h1 h2
end Go.Proofs.YtgalppimdmjdcabGreatDoor
