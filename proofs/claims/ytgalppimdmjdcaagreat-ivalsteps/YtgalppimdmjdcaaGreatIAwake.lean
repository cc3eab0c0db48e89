/-
  The law's own calls of layer 9, and IvalSums' walk.
-/
import Derived.Test.YtgalppimdmjdcaaGreatIExact
import Derived.Test.YtgalppimdmjdcaaGreatIVal1
namespace Go.Proofs.YtgalppimdmjdcaaGreat
open Go Go.RowKit Nt
set_option linter.unusedSimpArgs false
set_option linter.unusedVariables false
set_option maxRecDepth 20000

theorem exact_half (w : World) : Calls Tryz.prog 8 #[.float .f64 4602678819172646912] w (Gives (TWO (RN 1 2) (IS (.bool true))) w) := by
  have h1 := Frexp_p (frexp_n 0 1022 0 (by decide) (by decide) (by decide) (by decide)) rfl
  have h2 := Ldexp_p (ldexp_n 0 0 (by decide) (by decide))
  have h3 := toInt_of (dec_n 0 0 (by decide) (by decide)) (by decide)
  have := exact_lt w 4602678819172646912 _ _ (by decide) 4602678819172646912 rfl (by decide) 0 4503599627370496 h1 h2 h3 (by decide) (by decide) (digs_length_le (by decide)) (by decide) (by decide) 9007199254740992 (by decide) (by decide) (by decide) (Nat.le_trans (digs_length_le (k := 2) (by decide)) (by decide))
  rw [show nR 4503599627370496 9007199254740992 = 1 from by decide, show dR 4503599627370496 9007199254740992 = 2 from by decide] at this
  exact this
theorem g_rcmpI {A B : Int} {ka kb : Nat} (hk : ka ≤ 35184372088831) (hk' : kb ≤ 35184372088831) : ∀ w u v, Zv A ka u w → Zv B kb v w → Calls Tryz.prog 50 #[u, v] w (Gives (IS (.int .i64 (A - B).sign)) w) := by
  rintro w u v ⟨s, p, n, c, xs, rfl, h, rfl, hn⟩ ⟨t, q, m, d, ys, rfl, h', rfl, hm⟩
  exact (zrcmp_c w s t p q n c m d xs ys h h' (by omega) (by omega)).mono fun e w' ⟨he, hb⟩ => ⟨_, he, hb, rfl⟩

theorem pur_is {f : FuncId} {x : Value} {ψ : Nat → Pr} (h : ∀ w, Calls Tryz.prog f #[x] w (Gives ψ w)) : ∀ w u, Is x u w → Calls Tryz.prog f #[u] w (Gives ψ w) := fun w u e => by obtain rfl : u = x := e; exact h w
set_option maxHeartbeats 400000 in
theorem whole_w (w : World) (u v : Value) (A : Int) (ka kb : Nat) (hk : ka ≤ 35184372088831) (hk' : kb ≤ 35184372088831) (hu : Has (fun _ => False) w (Zv A ka) u) (hv : Has (fun _ => False) w (Zv A kb) v) :
    Calls Tryz.prog 15 #[u, v] w (Gives (IS (.bool true)) w) := by
  refine calls_sta (sl := [(0, (Zv A ka)), (1, (Zv A kb))]) Tryz.func15 rfl Tryz.ntmps15 (by simp) (args_cons rfl (hu) (args_cons rfl (hv) args_nil)) ?_
  intro a0 S0
  refine wp_stmt_seq [.new (.box 27 (Zv A ka)), .new (.box 27 (Zv A kb)), kF] [.inl 0, .inl 1] [] follows S0 rfl (by kernel_rfl) ?_ ?_
  · refine ⟨⟨⟨trivial, ?_⟩, ?_⟩, ?_⟩
    · exact owe_box rfl wA rfl (oS 0 0) rfl (fun ρ w h => box_int shp_zv ρ _ _ w h)
    · exact owe_box rfl wA rfl (oS 1 1) rfl (fun ρ w h => box_int shp_zv ρ _ _ w h)
    · exact mC
  intro B1 a1 W1 (S1 : Sta w 9 [(2, (.box 27 (Zv A ka))), (3, (.box 27 (Zv A kb)))] [] _ _ _)
  refine wp_stmt_seq [.val (Zv A ka), .val (Zv A kb), .val (iV ((A - A).sign)), kT, kT] [] [.inl 4] follows S1 rfl (by kernel_rfl) ?_ ?_
  · refine ⟨⟨⟨⟨⟨trivial, ?_⟩, ?_⟩, ?_⟩, ?_⟩, ?_⟩
    · exact lod 0 wA (loads_of strct_int shp_zv)
    · exact lod 1 wA (loads_of strct_int shp_zv)
    · exact cc2 wA (qO 0 5 rfl) (qO 1 6 rfl) (fresh_is _) (fun w u v h1 h2 => g_rcmpI hk hk' w u v ((fun _ _ h => h) _ _ h1) ((fun _ _ h => h) _ _ h2))
    · exact b_eql_int_t wA (oO 2 7) (opnd_const _) (h := by rw [Int.sub_self]; rfl)
    · exact mO 3 8
  intro B2 a2 W2 (S2 : Sta w 9 [] [(4, bT)] _ _ _)
  refine wp_ret ?_
  exact end_one S2 rfl (res_tmp S2 0 4 rfl)

theorem zv_hasI {A : Int} {k : Nat} {u : Value} {w : World} (h : Zv A k u w) : Has (fun _ => False) w (Zv A k) u := fun w' e => by
  obtain ⟨s, p, n, c, xs, e1, h1, h2, h3⟩ := h
  exact ⟨s, p, n, c, xs, e1, sl_ev h1 (fun _ _ _ _ h => h) e, h2, h3⟩
theorem h_whole {A : Int} {ka kb : Nat} (hk : ka ≤ 35184372088831) (hk' : kb ≤ 35184372088831) : ∀ w u v, Zv A ka u w → Zv A kb v w → Calls Tryz.prog 15 #[u, v] w (Gives (IS (.bool true)) w) := fun w u v h1 h2 => whole_w w u v A ka kb hk hk' (zv_hasI h1) (zv_hasI h2)
theorem one_dlN : (digs 1).length ≤ 1 := digs_length_le (by decide)
theorem two_dlE : (digs (2 : Int).natAbs).length ≤ 1 := digs_length_le (by decide)
theorem two_dlF : (digs ((2 : Nat) : Int).natAbs).length ≤ 1 := digs_length_le (by decide)
set_option maxHeartbeats 400000 in
theorem awake_w (w : World) :
    Calls Tryz.prog 16 #[] w (Gives (IS (.bool true)) w) := by
  refine calls_sta (sl := []) Tryz.func16 rfl Tryz.ntmps16 (by simp) args_nil ?_
  intro a0 S0
  refine wp_stmt_seq [kF] [] [] follows S0 rfl (by kernel_rfl) ?_ ?_
  · refine ⟨trivial, ?_⟩
    · exact mC
  intro B1 a1 W1 (S1 : Sta w 24 [] [] _ _ _)
  refine wp_stmt_seq [.val ((TWO (RN 1 2) (IS (.bool true))) w.heap.size), .val ((TWO (RN 1 2) (IS (.bool true))) w.heap.size), .val ((RN 1 2) w.heap.size), kT, .new (.box 29 zR), .put (.inr 4) (.box 29 ((RN 1 2) w.heap.size)), kT] [.inl 4] [.inl 6] follows S1 rfl (by kernel_rfl) ?_ ?_
  · repeat' refine And.intro ?_ ?_
    · trivial
    · exact cc1 wA (opnd_const _) (fresh_two (fresh_rn _ _) (fresh_is _)) (pur_is exact_half)
    · exact mO 0 4
    · exact e20 wA (oO 1 3)
    · exact e21 wA (oO 1 3)
    · exact owe_new rfl wA rfl rfl (fun ρ w => alloc_rat ρ _ w)
    · exact owe_put 4 rfl wA rfl (by kernel_rfl) rfl (oO 2 5) (stores_of strct_rat shp_r0 (shp_pr shp_zn shp_zn)) rfl
    · exact mO 3 6
  intro B2 a2 W2 (S2 : Sta w 24 [(1, (.box 29 ((RN 1 2) w.heap.size)))] [(2, bT)] _ _ _)
  refine wp_stmt_seq [kT, kT, .val (Part a2 1 0), .val ((ZN (1)) w.heap.size), .val ((ZN (1)) w.heap.size), kT, kT, kT, .val (Part a2 1 2), .val ((ZN (((2 : Nat) : Int))) w.heap.size), .val ((ZN (2)) w.heap.size), kT, kT, kT, .val (FL (upP (plc 4607182418800017408))), kT, kT, kT] [] [.inl 17] follows S2 rfl (by kernel_rfl) ?_ ?_
  · repeat' refine And.intro ?_ ?_
    · trivial
    · exact mS 0 2
    · exact mO 0 7
    · exact owe_part rfl (wI 1 8) rfl (k := 0) rfl (by kernel_rfl) rfl (fun ρ w b h => part_rat0 ρ _ _ w b 0 h)
    · exact owe_pload rfl (wI 1 8) rfl (oO 2 9) (k := 0) rfl (by kernel_rfl) rfl (fun ρ w b u h1 h2 h3 => pload_num ρ _ _ w b u h1 h2 h3)
    · exact cc1 (wI 1 8) (opnd_const _) (fresh_zn _) (g_rof 1 (by omega) (by omega))
    · exact cc2 (wI 1 8) (qO 3 10 rfl) (qO 4 11 rfl) (fresh_is _) (fun w u v h1 h2 => h_whole (by omega) (by omega) w u v ((zn_zv one_dlE) _ _ h1) ((zn_zv one_dlE) _ _ h2))
    · exact pT wA (oO 1 8) (oO 5 12)
    · exact mO 6 13
    · exact owe_part rfl (wI 7 14) rfl (k := 0) rfl (by kernel_rfl) rfl (fun ρ w b h => part_rat1 ρ _ _ w b 0 h)
    · exact owe_pload rfl (wI 7 14) rfl (oO 8 15) (k := 0) rfl (by kernel_rfl) rfl (fun ρ w b u h1 h2 h3 => pload_den ρ _ _ w b u h1 h2 h3)
    · exact cc1 (wI 7 14) (opnd_const _) (fresh_zn _) (g_rof 2 (by omega) (by omega))
    · exact cc2 (wI 7 14) (qO 9 16 rfl) (qO 10 17 rfl) (fresh_is _) (fun w u v h1 h2 => h_whole (by omega) (by omega) w u v ((zn_zv two_dlF) _ _ h1) ((zn_zv two_dlE) _ _ h2))
    · exact pT wA (oO 7 14) (oO 11 18)
    · exact mO 12 19
    · exact cc1 (wI 13 20) (opnd_const _) (fresh_fl _) (purF1 (up_f 4607182418800017408 (by decide)))
    · exact owe_fcmp rfl (wI 13 20) rfl (oO 14 21) ((opnd_const _).imp (fl_is (by decide))) (by decide) rfl
    · exact pT wA (oO 13 20) (oO 15 22)
    · exact mO 16 23
  intro B3 a3 W3 (S3 : Sta w 24 [] [(0, bT)] _ _ _)
  refine wp_ret ?_
  exact end_one S3 rfl (res_tmp S3 0 0 rfl)
set_option maxHeartbeats 2000000 in
theorem ivalsums_tt (w : World) (x y x1 y1 : Nat) (hx : x < 18446744073709551616) (hy : y < 18446744073709551616) (hx1 : x1 < 18446744073709551616) (hy1 : y1 < 18446744073709551616) (h : okI x y = true) (h' : okI x1 y1 = true) :
    Calls Tryz.prog 4 #[(.agg #[.float .f64 x, .float .f64 y]), (.agg #[.float .f64 x1, .float .f64 y1])] w (Gives (IS (.bool true)) w) := by
  refine calls_sta (sl := [(0, (SF [(Is (.float .f64 x)), (Is (.float .f64 y))])), (1, (SF [(Is (.float .f64 x1)), (Is (.float .f64 y1))]))]) Tryz.func4 rfl Tryz.ntmps4 (by simp) (args_cons rfl (ix_has) (args_cons rfl (ix_has) args_nil)) ?_
  intro a0 S0
  refine wp_stmt_seq [.new (.box 38 (SF [(Is (.float .f64 x)), (Is (.float .f64 y))])), .new (.box 38 (SF [(Is (.float .f64 x1)), (Is (.float .f64 y1))])), kF] [.inl 0, .inl 1] [] follows S0 rfl (by kernel_rfl) ?_ ?_
  · refine ⟨⟨⟨trivial, ?_⟩, ?_⟩, ?_⟩
    · exact owe_box rfl wA rfl (oS 0 0) rfl (fun ρ w h => box_ival shp_iv ρ _ _ w h)
    · exact owe_box rfl wA rfl (oS 1 1) rfl (fun ρ w h => box_ival shp_iv ρ _ _ w h)
    · exact mC
  intro B1 a1 W1 (S1 : Sta w 71 [(2, (.box 38 (SF [(Is (.float .f64 x)), (Is (.float .f64 y))]))), (3, (.box 38 (SF [(Is (.float .f64 x1)), (Is (.float .f64 y1))])))] [] _ _ _)
  refine wp_stmt_seq [.val (SF [(Is (.float .f64 x)), (Is (.float .f64 y))]), .val (SF [(Is (.float .f64 x1)), (Is (.float .f64 y1))]), .val ((TWO (IVN (loP (arP .add x x1)) (hiP (arP .add y y1))) (IS (.int .i64 0))) w.heap.size), .val ((TWO (IVN (loP (arP .add x x1)) (hiP (arP .add y y1))) (IS (.int .i64 0))) w.heap.size), .val (SF [(FL (loP (arP .add x x1))), (FL (hiP (arP .add y y1)))]), .val (iV 0), .new (.box 38 (Is (.agg #[.float .f64 0, .float .f64 0]))), .put (.inr 6) (.box 38 (SF [(FL (loP (arP .add x x1))), (FL (hiP (arP .add y y1)))])), .val (iV 0)] [.inr 0, .inr 1, .inl 6] [.inl 8] follows S1 rfl (by kernel_rfl) ?_ ?_
  · repeat' refine And.intro ?_ ?_
    · trivial
    · exact lod 0 wA (loads_of strct_ival shp_iv)
    · exact lod 1 wA (loads_of strct_ival shp_iv)
    · exact cc2 wA (qO 0 10 rfl) (qO 1 11 rfl) (fresh_two (fresh_iv _ _) (fresh_is _)) (ix2 (fun w => add_tt w x y x1 y1 hx hy hx1 hy1 h h'))
    · exact mO 2 12
    · exact e20 wA (oO 3 9)
    · exact e21 wA (oO 3 9)
    · exact owe_new rfl wA rfl rfl (fun ρ w => alloc_ival ρ _ w)
    · exact owe_put 6 rfl wA rfl (by kernel_rfl) rfl (oO 4 13) (stores_of strct_ival shp_i0 shp_iv) rfl
    · exact mO 5 14
  intro B2 a2 W2 (S2 : Sta w 71 [(2, (.box 38 (SF [(Is (.float .f64 x)), (Is (.float .f64 y))]))), (3, (.box 38 (SF [(Is (.float .f64 x1)), (Is (.float .f64 y1))]))), (5, (.box 38 (SF [(FL (loP (arP .add x x1))), (FL (hiP (arP .add y y1)))])))] [(6, iV 0)] _ _ _)
  refine wp_stmt_seq [.val (SF [(Is (.float .f64 x)), (Is (.float .f64 y))]), .val (SF [(Is (.float .f64 x1)), (Is (.float .f64 y1))]), .val ((TWO (IVN (loP (arP .sub x y1)) (hiP (arP .sub y x1))) (IS (.int .i64 0))) w.heap.size), .val ((TWO (IVN (loP (arP .sub x y1)) (hiP (arP .sub y x1))) (IS (.int .i64 0))) w.heap.size), .val (SF [(FL (loP (arP .sub x y1))), (FL (hiP (arP .sub y x1)))]), .val (iV 0), .new (.box 38 (Is (.agg #[.float .f64 0, .float .f64 0]))), .put (.inr 6) (.box 38 (SF [(FL (loP (arP .sub x y1))), (FL (hiP (arP .sub y x1)))])), .val (iV 0)] [.inr 0, .inr 1, .inr 2, .inl 6] [.inl 8, .inr 0] follows S2 rfl (by kernel_rfl) ?_ ?_
  · repeat' refine And.intro ?_ ?_
    · trivial
    · exact lod 0 wA (loads_of strct_ival shp_iv)
    · exact lod 1 wA (loads_of strct_ival shp_iv)
    · exact cc2 wA (qO 0 16 rfl) (qO 1 17 rfl) (fresh_two (fresh_iv _ _) (fresh_is _)) (ix2 (fun w => sub_tt w x y x1 y1 hx hy hx1 hy1 h h'))
    · exact mO 2 18
    · exact e20 wA (oO 3 15)
    · exact e21 wA (oO 3 15)
    · exact owe_new rfl wA rfl rfl (fun ρ w => alloc_ival ρ _ w)
    · exact owe_put 6 rfl wA rfl (by kernel_rfl) rfl (oO 4 19) (stores_of strct_ival shp_i0 shp_iv) rfl
    · exact mO 5 20
  intro B3 a3 W3 (S3 : Sta w 71 [(2, (.box 38 (SF [(Is (.float .f64 x)), (Is (.float .f64 y))]))), (3, (.box 38 (SF [(Is (.float .f64 x1)), (Is (.float .f64 y1))]))), (5, (.box 38 (SF [(FL (loP (arP .add x x1))), (FL (hiP (arP .add y y1)))]))), (7, (.box 38 (SF [(FL (loP (arP .sub x y1))), (FL (hiP (arP .sub y x1)))])))] [(8, iV 0), (6, iV 0)] _ _ _)
  refine wp_seq ?_
  refine wp_stmt_seq [.val (SF [(Is (.float .f64 x)), (Is (.float .f64 y))]), kT, kF, kF, .val (SF [(Is (.float .f64 x1)), (Is (.float .f64 y1))]), kT, kF, kF] [.inr 0, .inr 1, .inr 2, .inr 3] [.inl 7, .inr 0, .inr 1] follows S3 rfl (by kernel_rfl) ?_ ?_
  · repeat' refine And.intro ?_ ?_
    · trivial
    · exact lod 0 wA (loads_of strct_ival shp_iv)
    · exact cc1 wA (qO 0 21 rfl) (fresh_is _) (ix1 (fun w => rvalid_t w _ _ hx hy h))
    · exact b_not wA (oO 1 22)
    · exact mO 2 23
    · exact lod 1 (wI 3 24) (loads_of strct_ival shp_iv)
    · exact cc1 (wI 3 24) (qO 4 25 rfl) (fresh_is _) (ix1 (fun w => rvalid_t w _ _ hx1 hy1 h'))
    · exact b_not (wI 3 24) (oO 5 26)
    · exact pF wA (oO 3 24) (oO 6 27)
  intro B4 a4 W4 (S4 : Sta w 71 [(2, (.box 38 (SF [(Is (.float .f64 x)), (Is (.float .f64 y))]))), (3, (.box 38 (SF [(Is (.float .f64 x1)), (Is (.float .f64 y1))]))), (5, (.box 38 (SF [(FL (loP (arP .add x x1))), (FL (hiP (arP .add y y1)))]))), (7, (.box 38 (SF [(FL (loP (arP .sub x y1))), (FL (hiP (arP .sub y x1)))])))] [(28, bF), (8, iV 0), (6, iV 0)] _ _ _)
  refine wp_cond_false (S4.bool 0 28 rfl) ?_
  refine wp_skip ?_
  refine thenN ?_
  refine wp_stmt_seq [.val (iV 0), kT, kT, .val (iV 0), kT, kT, kT, .val (SF [(FL (loP (arP .add x x1))), (FL (hiP (arP .add y y1)))]), .val (SF [(Is (.float .f64 x)), (Is (.float .f64 y))]), .val (SF [(Is (.float .f64 x1)), (Is (.float .f64 y1))]), .val (SF [(FL (loP (arP .add x x1))), (FL (hiP (arP .add y y1)))]), kT, kT, kT, .val (SF [(FL (loP (arP .sub x y1))), (FL (hiP (arP .sub y x1)))]), .val (SF [(Is (.float .f64 x)), (Is (.float .f64 y))]), .val (SF [(Is (.float .f64 x1)), (Is (.float .f64 y1))]), .val (SF [(FL (loP (arP .sub x y1))), (FL (hiP (arP .sub y x1)))]), kT, kT, kT, kT, kT, kT] [.inr 0, .inr 1, .inr 2, .inr 3] [.inl 23] follows S4 rfl (by kernel_rfl) ?_ ?_
  · repeat' refine And.intro ?_ ?_
    · trivial
    · exact mS 2 6
    · exact b_eql_errno_t wA (oO 0 48) (opnd_const _) (h := rfl)
    · exact mO 1 49
    · exact mW (wI 2 50) (oS 1 8)
    · exact b_eql_errno_t (wI 2 50) (oO 3 51) (opnd_const _) (h := rfl)
    · exact pT wA (oO 2 50) (oO 4 52)
    · exact mO 5 53
    · exact lod 2 (wI 6 54) (loads_of strct_ival shp_iv)
    · exact lod 0 (wI 6 54) (loads_of strct_ival shp_iv)
    · exact lod 1 (wI 6 54) (loads_of strct_ival shp_iv)
    · exact cc2 (wI 6 54) (qO 8 56 rfl) (qO 9 57 rfl) (fresh_iv _ _) (ix2 (fun w => radd_w w x y x1 y1 hx hy hx1 hy1))
    · exact cc2 (wI 6 54) (qO 7 55 rfl) (qO 10 58 rfl) (fresh_is _) h_same
    · exact pT wA (oO 6 54) (oO 11 59)
    · exact mO 12 60
    · exact lod 3 (wI 13 61) (loads_of strct_ival shp_iv)
    · exact lod 0 (wI 13 61) (loads_of strct_ival shp_iv)
    · exact lod 1 (wI 13 61) (loads_of strct_ival shp_iv)
    · exact cc2 (wI 13 61) (qO 15 63 rfl) (qO 16 64 rfl) (fresh_iv _ _) (ix2 (fun w => rsub_w w x y x1 y1 hx hy hx1 hy1))
    · exact cc2 (wI 13 61) (qO 14 62 rfl) (qO 17 65 rfl) (fresh_is _) h_same
    · exact pT wA (oO 13 61) (oO 18 66)
    · exact mO 19 67
    · exact owe_call0 rfl (wI 20 68) rfl  (fresh_is _) rfl (fun args w => by go_simp) awake_w
    · exact pT wA (oO 20 68) (oO 21 69)
    · exact mO 22 70
  intro B5 a5 W5 (S5 : Sta w 71 [(2, (.box 38 (SF [(Is (.float .f64 x)), (Is (.float .f64 y))]))), (3, (.box 38 (SF [(Is (.float .f64 x1)), (Is (.float .f64 y1))]))), (5, (.box 38 (SF [(FL (loP (arP .add x x1))), (FL (hiP (arP .add y y1)))]))), (7, (.box 38 (SF [(FL (loP (arP .sub x y1))), (FL (hiP (arP .sub y x1)))])))] [(4, bT)] _ _ _)
  refine wp_ret ?_
  exact end_one S5 rfl (res_tmp S5 0 4 rfl)
set_option maxHeartbeats 2000000 in
theorem ivalsums_tf (w : World) (x y x1 y1 : Nat) (hx : x < 18446744073709551616) (hy : y < 18446744073709551616) (hx1 : x1 < 18446744073709551616) (hy1 : y1 < 18446744073709551616) (h : okI x y = true) (h' : okI x1 y1 = false) :
    Calls Tryz.prog 4 #[(.agg #[.float .f64 x, .float .f64 y]), (.agg #[.float .f64 x1, .float .f64 y1])] w (Gives (IS (.bool true)) w) := by
  refine calls_sta (sl := [(0, (SF [(Is (.float .f64 x)), (Is (.float .f64 y))])), (1, (SF [(Is (.float .f64 x1)), (Is (.float .f64 y1))]))]) Tryz.func4 rfl Tryz.ntmps4 (by simp) (args_cons rfl (ix_has) (args_cons rfl (ix_has) args_nil)) ?_
  intro a0 S0
  refine wp_stmt_seq [.new (.box 38 (SF [(Is (.float .f64 x)), (Is (.float .f64 y))])), .new (.box 38 (SF [(Is (.float .f64 x1)), (Is (.float .f64 y1))])), kF] [.inl 0, .inl 1] [] follows S0 rfl (by kernel_rfl) ?_ ?_
  · refine ⟨⟨⟨trivial, ?_⟩, ?_⟩, ?_⟩
    · exact owe_box rfl wA rfl (oS 0 0) rfl (fun ρ w h => box_ival shp_iv ρ _ _ w h)
    · exact owe_box rfl wA rfl (oS 1 1) rfl (fun ρ w h => box_ival shp_iv ρ _ _ w h)
    · exact mC
  intro B1 a1 W1 (S1 : Sta w 71 [(2, (.box 38 (SF [(Is (.float .f64 x)), (Is (.float .f64 y))]))), (3, (.box 38 (SF [(Is (.float .f64 x1)), (Is (.float .f64 y1))])))] [] _ _ _)
  refine wp_stmt_seq [.val (SF [(Is (.float .f64 x)), (Is (.float .f64 y))]), .val (SF [(Is (.float .f64 x1)), (Is (.float .f64 y1))]), .val ((TWO (fun _ => SF [Is (.float .f64 0), Is (.float .f64 0)]) (IS (.int .i64 90))) w.heap.size), .val ((TWO (fun _ => SF [Is (.float .f64 0), Is (.float .f64 0)]) (IS (.int .i64 90))) w.heap.size), .val (SF [(Is (.float .f64 0)), (Is (.float .f64 0))]), .val (iV 90), .new (.box 38 (Is (.agg #[.float .f64 0, .float .f64 0]))), .put (.inr 6) (.box 38 (SF [(Is (.float .f64 0)), (Is (.float .f64 0))])), .val (iV 90)] [.inr 0, .inr 1, .inl 6] [.inl 8] follows S1 rfl (by kernel_rfl) ?_ ?_
  · repeat' refine And.intro ?_ ?_
    · trivial
    · exact lod 0 wA (loads_of strct_ival shp_iv)
    · exact lod 1 wA (loads_of strct_ival shp_iv)
    · exact cc2 wA (qO 0 10 rfl) (qO 1 11 rfl) (fresh_two fresh_ix (fresh_is _)) (ix2 (fun w => add_tf w x y x1 y1 hx hy hx1 hy1 h h'))
    · exact mO 2 12
    · exact e20 wA (oO 3 9)
    · exact e21 wA (oO 3 9)
    · exact owe_new rfl wA rfl rfl (fun ρ w => alloc_ival ρ _ w)
    · exact owe_put 6 rfl wA rfl (by kernel_rfl) rfl (oO 4 13) (stores_of strct_ival shp_i0 shp_iv) rfl
    · exact mO 5 14
  intro B2 a2 W2 (S2 : Sta w 71 [(2, (.box 38 (SF [(Is (.float .f64 x)), (Is (.float .f64 y))]))), (3, (.box 38 (SF [(Is (.float .f64 x1)), (Is (.float .f64 y1))]))), (5, (.box 38 (SF [(Is (.float .f64 0)), (Is (.float .f64 0))])))] [(6, iV 90)] _ _ _)
  refine wp_stmt_seq [.val (SF [(Is (.float .f64 x)), (Is (.float .f64 y))]), .val (SF [(Is (.float .f64 x1)), (Is (.float .f64 y1))]), .val ((TWO (fun _ => SF [Is (.float .f64 0), Is (.float .f64 0)]) (IS (.int .i64 90))) w.heap.size), .val ((TWO (fun _ => SF [Is (.float .f64 0), Is (.float .f64 0)]) (IS (.int .i64 90))) w.heap.size), .val (SF [(Is (.float .f64 0)), (Is (.float .f64 0))]), .val (iV 90), .new (.box 38 (Is (.agg #[.float .f64 0, .float .f64 0]))), .put (.inr 6) (.box 38 (SF [(Is (.float .f64 0)), (Is (.float .f64 0))])), .val (iV 90)] [.inr 0, .inr 1, .inr 2, .inl 6] [.inl 8, .inr 0] follows S2 rfl (by kernel_rfl) ?_ ?_
  · repeat' refine And.intro ?_ ?_
    · trivial
    · exact lod 0 wA (loads_of strct_ival shp_iv)
    · exact lod 1 wA (loads_of strct_ival shp_iv)
    · exact cc2 wA (qO 0 16 rfl) (qO 1 17 rfl) (fresh_two fresh_ix (fresh_is _)) (ix2 (fun w => sub_tf w x y x1 y1 hx hy hx1 hy1 h h'))
    · exact mO 2 18
    · exact e20 wA (oO 3 15)
    · exact e21 wA (oO 3 15)
    · exact owe_new rfl wA rfl rfl (fun ρ w => alloc_ival ρ _ w)
    · exact owe_put 6 rfl wA rfl (by kernel_rfl) rfl (oO 4 19) (stores_of strct_ival shp_i0 shp_iv) rfl
    · exact mO 5 20
  intro B3 a3 W3 (S3 : Sta w 71 [(2, (.box 38 (SF [(Is (.float .f64 x)), (Is (.float .f64 y))]))), (3, (.box 38 (SF [(Is (.float .f64 x1)), (Is (.float .f64 y1))]))), (5, (.box 38 (SF [(Is (.float .f64 0)), (Is (.float .f64 0))]))), (7, (.box 38 (SF [(Is (.float .f64 0)), (Is (.float .f64 0))])))] [(8, iV 90), (6, iV 90)] _ _ _)
  refine wp_seq ?_
  refine wp_stmt_seq [.val (SF [(Is (.float .f64 x)), (Is (.float .f64 y))]), kT, kF, kF, .val (SF [(Is (.float .f64 x1)), (Is (.float .f64 y1))]), kF, kT, kT] [.inr 0, .inr 1, .inr 2, .inr 3] [.inl 7, .inr 0, .inr 1] follows S3 rfl (by kernel_rfl) ?_ ?_
  · repeat' refine And.intro ?_ ?_
    · trivial
    · exact lod 0 wA (loads_of strct_ival shp_iv)
    · exact cc1 wA (qO 0 21 rfl) (fresh_is _) (ix1 (fun w => rvalid_t w _ _ hx hy h))
    · exact b_not wA (oO 1 22)
    · exact mO 2 23
    · exact lod 1 (wI 3 24) (loads_of strct_ival shp_iv)
    · exact cc1 (wI 3 24) (qO 4 25 rfl) (fresh_is _) (ix1 (fun w => rvalid_f w _ _ hx1 hy1 h'))
    · exact b_not (wI 3 24) (oO 5 26)
    · exact pF wA (oO 3 24) (oO 6 27)
  intro B4 a4 W4 (S4 : Sta w 71 [(2, (.box 38 (SF [(Is (.float .f64 x)), (Is (.float .f64 y))]))), (3, (.box 38 (SF [(Is (.float .f64 x1)), (Is (.float .f64 y1))]))), (5, (.box 38 (SF [(Is (.float .f64 0)), (Is (.float .f64 0))]))), (7, (.box 38 (SF [(Is (.float .f64 0)), (Is (.float .f64 0))])))] [(28, bT), (8, iV 90), (6, iV 90)] _ _ _)
  refine wp_cond_true (S4.bool 0 28 rfl) ?_
  refine wp_stmt_seq [.val (iV 90), kT, kT, .val (iV 90), kT, kT, kT, .val (SF [(Is (.float .f64 0)), (Is (.float .f64 0))]), .val (SF [(Is (.float .f64 0)), (Is (.float .f64 0))]), kT, kT, kT, .val (SF [(Is (.float .f64 0)), (Is (.float .f64 0))]), .val (SF [(Is (.float .f64 0)), (Is (.float .f64 0))]), kT, kT, kT, kT, kT, kT] [.inr 0, .inr 1, .inr 2, .inr 3] [.inl 19] follows S4 rfl (by kernel_rfl) ?_ ?_
  · repeat' refine And.intro ?_ ?_
    · trivial
    · exact mS 2 6
    · exact b_eql_errno_t wA (oO 0 29) (opnd_const _) (h := rfl)
    · exact mO 1 30
    · exact mW (wI 2 31) (oS 1 8)
    · exact b_eql_errno_t (wI 2 31) (oO 3 32) (opnd_const _) (h := rfl)
    · exact pT wA (oO 2 31) (oO 4 33)
    · exact mO 5 34
    · exact lod 2 (wI 6 35) (loads_of strct_ival shp_iv)
    · exact owe_build_iv0 rfl (wI 6 35) rfl rfl
    · exact cc2 (wI 6 35) (qO 7 36 rfl) (qO 8 37 rfl) (fresh_is _) (fun w u v h1 h2 => h_same w u v (ix_fl (by decide) (by decide) _ _ h1) (ix_fl (by decide) (by decide) _ _ h2))
    · exact pT wA (oO 6 35) (oO 9 38)
    · exact mO 10 39
    · exact lod 3 (wI 11 40) (loads_of strct_ival shp_iv)
    · exact owe_build_iv0 rfl (wI 11 40) rfl rfl
    · exact cc2 (wI 11 40) (qO 12 41 rfl) (qO 13 42 rfl) (fresh_is _) (fun w u v h1 h2 => h_same w u v (ix_fl (by decide) (by decide) _ _ h1) (ix_fl (by decide) (by decide) _ _ h2))
    · exact pT wA (oO 11 40) (oO 14 43)
    · exact mO 15 44
    · exact owe_call0 rfl (wI 16 45) rfl  (fresh_is _) rfl (fun args w => by go_simp) awake_w
    · exact pT wA (oO 16 45) (oO 17 46)
    · exact mO 18 47
  intro B5 a5 W5 (S5 : Sta w 71 [(2, (.box 38 (SF [(Is (.float .f64 x)), (Is (.float .f64 y))]))), (3, (.box 38 (SF [(Is (.float .f64 x1)), (Is (.float .f64 y1))]))), (5, (.box 38 (SF [(Is (.float .f64 0)), (Is (.float .f64 0))]))), (7, (.box 38 (SF [(Is (.float .f64 0)), (Is (.float .f64 0))])))] [(4, bT)] _ _ _)
  refine wp_ret ?_
  refine thenR ?_
  exact end_one S5 rfl (res_tmp S5 0 4 rfl)
set_option maxHeartbeats 2000000 in
theorem ivalsums_f (w : World) (x y x1 y1 : Nat) (hx : x < 18446744073709551616) (hy : y < 18446744073709551616) (hx1 : x1 < 18446744073709551616) (hy1 : y1 < 18446744073709551616) (h : okI x y = false) :
    Calls Tryz.prog 4 #[(.agg #[.float .f64 x, .float .f64 y]), (.agg #[.float .f64 x1, .float .f64 y1])] w (Gives (IS (.bool true)) w) := by
  refine calls_sta (sl := [(0, (SF [(Is (.float .f64 x)), (Is (.float .f64 y))])), (1, (SF [(Is (.float .f64 x1)), (Is (.float .f64 y1))]))]) Tryz.func4 rfl Tryz.ntmps4 (by simp) (args_cons rfl (ix_has) (args_cons rfl (ix_has) args_nil)) ?_
  intro a0 S0
  refine wp_stmt_seq [.new (.box 38 (SF [(Is (.float .f64 x)), (Is (.float .f64 y))])), .new (.box 38 (SF [(Is (.float .f64 x1)), (Is (.float .f64 y1))])), kF] [.inl 0, .inl 1] [] follows S0 rfl (by kernel_rfl) ?_ ?_
  · refine ⟨⟨⟨trivial, ?_⟩, ?_⟩, ?_⟩
    · exact owe_box rfl wA rfl (oS 0 0) rfl (fun ρ w h => box_ival shp_iv ρ _ _ w h)
    · exact owe_box rfl wA rfl (oS 1 1) rfl (fun ρ w h => box_ival shp_iv ρ _ _ w h)
    · exact mC
  intro B1 a1 W1 (S1 : Sta w 71 [(2, (.box 38 (SF [(Is (.float .f64 x)), (Is (.float .f64 y))]))), (3, (.box 38 (SF [(Is (.float .f64 x1)), (Is (.float .f64 y1))])))] [] _ _ _)
  refine wp_stmt_seq [.val (SF [(Is (.float .f64 x)), (Is (.float .f64 y))]), .val (SF [(Is (.float .f64 x1)), (Is (.float .f64 y1))]), .val ((TWO (fun _ => SF [Is (.float .f64 0), Is (.float .f64 0)]) (IS (.int .i64 90))) w.heap.size), .val ((TWO (fun _ => SF [Is (.float .f64 0), Is (.float .f64 0)]) (IS (.int .i64 90))) w.heap.size), .val (SF [(Is (.float .f64 0)), (Is (.float .f64 0))]), .val (iV 90), .new (.box 38 (Is (.agg #[.float .f64 0, .float .f64 0]))), .put (.inr 6) (.box 38 (SF [(Is (.float .f64 0)), (Is (.float .f64 0))])), .val (iV 90)] [.inr 0, .inr 1, .inl 6] [.inl 8] follows S1 rfl (by kernel_rfl) ?_ ?_
  · repeat' refine And.intro ?_ ?_
    · trivial
    · exact lod 0 wA (loads_of strct_ival shp_iv)
    · exact lod 1 wA (loads_of strct_ival shp_iv)
    · exact cc2 wA (qO 0 10 rfl) (qO 1 11 rfl) (fresh_two fresh_ix (fresh_is _)) (ix2 (fun w => add_f w x y x1 y1 hx hy hx1 hy1 h))
    · exact mO 2 12
    · exact e20 wA (oO 3 9)
    · exact e21 wA (oO 3 9)
    · exact owe_new rfl wA rfl rfl (fun ρ w => alloc_ival ρ _ w)
    · exact owe_put 6 rfl wA rfl (by kernel_rfl) rfl (oO 4 13) (stores_of strct_ival shp_i0 shp_iv) rfl
    · exact mO 5 14
  intro B2 a2 W2 (S2 : Sta w 71 [(2, (.box 38 (SF [(Is (.float .f64 x)), (Is (.float .f64 y))]))), (3, (.box 38 (SF [(Is (.float .f64 x1)), (Is (.float .f64 y1))]))), (5, (.box 38 (SF [(Is (.float .f64 0)), (Is (.float .f64 0))])))] [(6, iV 90)] _ _ _)
  refine wp_stmt_seq [.val (SF [(Is (.float .f64 x)), (Is (.float .f64 y))]), .val (SF [(Is (.float .f64 x1)), (Is (.float .f64 y1))]), .val ((TWO (fun _ => SF [Is (.float .f64 0), Is (.float .f64 0)]) (IS (.int .i64 90))) w.heap.size), .val ((TWO (fun _ => SF [Is (.float .f64 0), Is (.float .f64 0)]) (IS (.int .i64 90))) w.heap.size), .val (SF [(Is (.float .f64 0)), (Is (.float .f64 0))]), .val (iV 90), .new (.box 38 (Is (.agg #[.float .f64 0, .float .f64 0]))), .put (.inr 6) (.box 38 (SF [(Is (.float .f64 0)), (Is (.float .f64 0))])), .val (iV 90)] [.inr 0, .inr 1, .inr 2, .inl 6] [.inl 8, .inr 0] follows S2 rfl (by kernel_rfl) ?_ ?_
  · repeat' refine And.intro ?_ ?_
    · trivial
    · exact lod 0 wA (loads_of strct_ival shp_iv)
    · exact lod 1 wA (loads_of strct_ival shp_iv)
    · exact cc2 wA (qO 0 16 rfl) (qO 1 17 rfl) (fresh_two fresh_ix (fresh_is _)) (ix2 (fun w => sub_f w x y x1 y1 hx hy hx1 hy1 h))
    · exact mO 2 18
    · exact e20 wA (oO 3 15)
    · exact e21 wA (oO 3 15)
    · exact owe_new rfl wA rfl rfl (fun ρ w => alloc_ival ρ _ w)
    · exact owe_put 6 rfl wA rfl (by kernel_rfl) rfl (oO 4 19) (stores_of strct_ival shp_i0 shp_iv) rfl
    · exact mO 5 20
  intro B3 a3 W3 (S3 : Sta w 71 [(2, (.box 38 (SF [(Is (.float .f64 x)), (Is (.float .f64 y))]))), (3, (.box 38 (SF [(Is (.float .f64 x1)), (Is (.float .f64 y1))]))), (5, (.box 38 (SF [(Is (.float .f64 0)), (Is (.float .f64 0))]))), (7, (.box 38 (SF [(Is (.float .f64 0)), (Is (.float .f64 0))])))] [(8, iV 90), (6, iV 90)] _ _ _)
  refine wp_seq ?_
  refine wp_stmt_seq [.val (SF [(Is (.float .f64 x)), (Is (.float .f64 y))]), kF, kT, kT, .off, .off, .off, kT] [.inr 0, .inr 1, .inr 2, .inr 3] [.inl 7, .inr 0, .inr 1] follows S3 rfl (by kernel_rfl) ?_ ?_
  · repeat' refine And.intro ?_ ?_
    · trivial
    · exact lod 0 wA (loads_of strct_ival shp_iv)
    · exact cc1 wA (qO 0 21 rfl) (fresh_is _) (ix1 (fun w => rvalid_f w _ _ hx hy h))
    · exact b_not wA (oO 1 22)
    · exact mO 2 23
    · exact oF 3 24
    · exact oF 3 24
    · exact oF 3 24
    · exact pT wA (oO 3 24) (opnd_const _)
  intro B4 a4 W4 (S4 : Sta w 71 [(2, (.box 38 (SF [(Is (.float .f64 x)), (Is (.float .f64 y))]))), (3, (.box 38 (SF [(Is (.float .f64 x1)), (Is (.float .f64 y1))]))), (5, (.box 38 (SF [(Is (.float .f64 0)), (Is (.float .f64 0))]))), (7, (.box 38 (SF [(Is (.float .f64 0)), (Is (.float .f64 0))])))] [(28, bT), (8, iV 90), (6, iV 90)] _ _ _)
  refine wp_cond_true (S4.bool 0 28 rfl) ?_
  refine wp_stmt_seq [.val (iV 90), kT, kT, .val (iV 90), kT, kT, kT, .val (SF [(Is (.float .f64 0)), (Is (.float .f64 0))]), .val (SF [(Is (.float .f64 0)), (Is (.float .f64 0))]), kT, kT, kT, .val (SF [(Is (.float .f64 0)), (Is (.float .f64 0))]), .val (SF [(Is (.float .f64 0)), (Is (.float .f64 0))]), kT, kT, kT, kT, kT, kT] [.inr 0, .inr 1, .inr 2, .inr 3] [.inl 19] follows S4 rfl (by kernel_rfl) ?_ ?_
  · repeat' refine And.intro ?_ ?_
    · trivial
    · exact mS 2 6
    · exact b_eql_errno_t wA (oO 0 29) (opnd_const _) (h := rfl)
    · exact mO 1 30
    · exact mW (wI 2 31) (oS 1 8)
    · exact b_eql_errno_t (wI 2 31) (oO 3 32) (opnd_const _) (h := rfl)
    · exact pT wA (oO 2 31) (oO 4 33)
    · exact mO 5 34
    · exact lod 2 (wI 6 35) (loads_of strct_ival shp_iv)
    · exact owe_build_iv0 rfl (wI 6 35) rfl rfl
    · exact cc2 (wI 6 35) (qO 7 36 rfl) (qO 8 37 rfl) (fresh_is _) (fun w u v h1 h2 => h_same w u v (ix_fl (by decide) (by decide) _ _ h1) (ix_fl (by decide) (by decide) _ _ h2))
    · exact pT wA (oO 6 35) (oO 9 38)
    · exact mO 10 39
    · exact lod 3 (wI 11 40) (loads_of strct_ival shp_iv)
    · exact owe_build_iv0 rfl (wI 11 40) rfl rfl
    · exact cc2 (wI 11 40) (qO 12 41 rfl) (qO 13 42 rfl) (fresh_is _) (fun w u v h1 h2 => h_same w u v (ix_fl (by decide) (by decide) _ _ h1) (ix_fl (by decide) (by decide) _ _ h2))
    · exact pT wA (oO 11 40) (oO 14 43)
    · exact mO 15 44
    · exact owe_call0 rfl (wI 16 45) rfl  (fresh_is _) rfl (fun args w => by go_simp) awake_w
    · exact pT wA (oO 16 45) (oO 17 46)
    · exact mO 18 47
  intro B5 a5 W5 (S5 : Sta w 71 [(2, (.box 38 (SF [(Is (.float .f64 x)), (Is (.float .f64 y))]))), (3, (.box 38 (SF [(Is (.float .f64 x1)), (Is (.float .f64 y1))]))), (5, (.box 38 (SF [(Is (.float .f64 0)), (Is (.float .f64 0))]))), (7, (.box 38 (SF [(Is (.float .f64 0)), (Is (.float .f64 0))])))] [(4, bT)] _ _ _)
  refine wp_ret ?_
  refine thenR ?_
  exact end_one S5 rfl (res_tmp S5 0 4 rfl)

theorem ivalsums_walk (w : World) (x y x1 y1 : Nat) (hx : x < 18446744073709551616) (hy : y < 18446744073709551616) (hx1 : x1 < 18446744073709551616) (hy1 : y1 < 18446744073709551616) : Calls Tryz.prog 4 #[.agg #[.float .f64 x, .float .f64 y], .agg #[.float .f64 x1, .float .f64 y1]] w fun e w' => e = .returned (.bool true) ∧ Below w.heap.size w w' := by
  refine Calls.mono (R := Gives (IS (.bool true)) w) ?_ (fun e w' ⟨v, he, hb, hv⟩ => ⟨by rw [he, show v = _ from hv], hb⟩)
  cases h : okI x y with
  | false => exact ivalsums_f w x y x1 y1 hx hy hx1 hy1 h
  | true =>
    cases h' : okI x1 y1 with
    | false => exact ivalsums_tf w x y x1 y1 hx hy hx1 hy1 h h'
    | true => exact ivalsums_tt w x y x1 y1 hx hy hx1 hy1 h h'
end Go.Proofs.YtgalppimdmjdcaaGreat
